/-
  Texts of this proof, joined, with few blanks: AcM0, PairM0, PairB, WrMem, CmtMem, TapeA, TapeB, TapeK, HistF, HistC, TxnF, TxnG, SrvF, SrvI, SrvO, TopF, TenMem, CmtSet, RdMem, StepMem, SvK, SvG, CmtTy, CmtRow, CmtRowD, TxNote, TxM, TxnL, TxCheck, TCCheck, PairStepQ, PairSlice, FCCheck, FCApply, TxMs, RqRd, WrCkF, TxLook, FindM, SrvS, SrvL, SrvM, SrvN, TxClash, TpEnc, TpCheck, BSlice, CmtFit, TxScan, TCRange, FCRange, BitC, PartC, TxWrite, RqWt, HsKept, RqDe, TapeH, WrDtF, PCCheck, RdrF, RdrMem, FrameB, GearM, WrEnF, TpSync, TpCrash, TapTy, LnCk, LineH.
-/
import Derived.Deep.AppendLies
import Derived.Test.YtahggnmfofgddaaGreatDoorQ1
import Derived.Maps.AppendAt
import Derived.Deep.RegionWith
import Derived.Handy
import Derived.ProofKit
import Derived.OpenShut
import Derived.ShutString
import Derived.ChangeOld
import Derived.Deep.DeepHandedRow
import Derived.SizedLaws
import Derived.Test.YtahggnmfofgddaaGreatDoorRows
import Derived.Deep.SlicePairs
import Derived.Lib.SmallJoins
set_option maxRecDepth 100000
set_option maxHeartbeats 8000000
open Array renaming getElem?_eq_some_iff->tH,getElem?_modify->tU,getElem?_toList->pC
open Bool renaming true->M,false->N,and_eq_true->rN,or_eq_false_iff->rT
open Classical renaming byContradiction->sQ
open Decidable renaming decide->tP
open Go renaming World->F,Value->H,TypeId->tV,undef->sI,sliced->sP,Calls->sW,Addr->rC,Operand->rM,Oper->rS,info_parts->pD,yielded->pE,maxLen->pL,heap_alloc_new->oJ
open Go.Addr.mk renaming injEq->rK
open Go.Ending renaming returned->tD
open Go.Instr renaming slice->rX
open Go.IntKind renaming i64->tE,u8->pO
open Go.Obj renaming cells->S
open Go.Obj.cells renaming injEq->tW
open Go.Proofs.Tryz renaming prog->O
open Go.Region renaming wanted->sD
open Go.Result renaming andThen->rJ
open Go.Value renaming slice->J,int->tA,bool->tL,tuple->sE,agg->sU,ownBlock->pJ
open Go.Value.slice renaming injEq->tG
open Go.World renaming grownBy->L,setCell->tC,cell?->tR,cell?_of_block->sJ,ownsRow_nil->sR,grownBy_alloc->rA,news_of_block->rF,cell?_setCell_other->r7,frozen?->r8,cell?_setCell_same'->pK
open Go.World.ownsRow renaming kept->tX,lt->sK
open Int renaming toNat_natCast->sY,emod_lt_of_pos->pT,emod_nonneg->oG
open List renaming length_append->tB,eq_nil_of_length_eq_zero->tJ,mem_cons->tK,flatMap_cons->tM,not_mem_nil->tQ,mem_append->tY,length_singleton->tZ,getElem?_take->sB,take_length->sC,getElem?_eq_some_iff->sH,length_cons->sM,getElem_mem->sN,drop_eq_getElem_cons->sS,mem_cons_of_mem->sV,take_succ_eq_append_getElem->sZ,any_eq_true->rD,take_succ_cons->rG,mem_cons_self->rH,pairwise_cons->rI,flatMap_nil->rO,append_nil->rU,length_set->rV,length_pos_iff->rW,length_take->pA,any_cons->pG,take_set->pH,getElem?_append_left->pM,take_append_drop->pN,getElem?_append->pP,drop_succ_cons->pQ,set_cons_succ->pR,nodup_append->pS,cons_append->pU,length_drop->pV,length_nil->pY,nil_append->pZ,nodup_cons->oC,mem_filter->oD,take_take->oE,drop_zero->oH
open Nat renaming lt_of_lt_of_le->tI,le_trans->tN,zero_le->tS,le_refl->sA,zero_add->sL,succ_mul->pB,mul_le_mul_right->pF,sub_zero->pI,le_of_lt_succ->pW,min_eq_left->oF,sub_self->oI
open Option renaming none->G,some->I,map_some->rP
open Option.some renaming injEq->Y,inj->oK
open Prod.mk renaming injEq->rY
open UInt8 renaming ofNat->rB,toNat_inj->pX
namespace Go.Proofs.YtahggnmfofgddaaGreatDoor
open Go.RowKit
def Wk(w:F)(v:H)(a:Ac):Prop:=∃vd,v=sU #[tA tE a.kind,tA tE a.sess,tA tE a.keep,vd]∧Qe w vd a.data
theorem Wk.grown{w w':F}{v:H}{a:Ac}(h:Wk w v a)(hg:L w w' G):Wk w' v a:=by
 obtain⟨vd,rfl,h1⟩:=h;exact⟨vd,rfl,h1.grown hg⟩
theorem Wk.agg{w:F}{v:H}{a:Ac}(h:Wk w v a):∃da dc,v=sU #[tA tE a.kind,tA tE a.sess,tA tE a.keep,J da a.data.length dc]∧Qe w (J da a.data.length dc) a.data:=by
 obtain⟨vd,rfl,h1⟩:=h;obtain⟨da,dc,rfl⟩:=h1.shape;exact⟨da,dc,rfl,h1⟩
def Bd(w:F)(b o:Nat)(a:Ac):Prop:=∃vd,w.cell? ⟨b,o,G⟩=I (tA tE a.kind)∧w.cell? ⟨b,o+1,G⟩=I (tA tE a.sess)∧w.cell? ⟨b,o+2,G⟩=I (tA tE a.keep)∧w.cell? ⟨b,o+3,G⟩=I vd∧Qe w vd a.data
theorem Bd.grown{w w':F}{b o:Nat}{a:Ac}(h:Bd w b o a)(hg:L w w' G):Bd w' b o a:=by
 obtain⟨vd,c1,c2,c3,c4,h1⟩:=h;exact⟨vd,hg.cell c1 (by simp),hg.cell c2 (by simp),hg.cell c3 (by simp),hg.cell c4 (by simp),h1.grown hg⟩
def Jh(w:F)(v:H)(l:List Ac):Prop:=∃a cap,v=J a l.length cap∧l.length<=cap∧((l=[]∧(a=G->cap=0))∨∃b o,a=I ⟨b,o,G⟩∧∀i,i<l.length->Bd w b (o+i*4) (l.getD i US))
theorem Ed(w:F):Jh w (J G 0 0) []:=⟨G,0,rfl,sA _,.inl ⟨rfl,fun _=>rfl⟩⟩
theorem Jh.shape{w:F}{v:H}{l:List Ac}(h:Jh w v l):∃a cap,v=J a l.length cap:=by
 obtain⟨a,cap,rfl,_⟩:=h;exact⟨a,cap,rfl⟩
theorem Jh.grown{w w':F}{v:H}{l:List Ac}(h:Jh w v l)(hg:L w w' G):Jh w' v l:=by
 obtain⟨a,cap,rfl,hc,h⟩:=h;refine⟨a,cap,rfl,hc,?_⟩;rcases h with h|⟨b,o,rfl,h⟩;·exact .inl h
 ·exact .inr ⟨b,o,rfl,fun i hi=>(h i hi).grown hg⟩
theorem Jh.at{w:F}{a:Option rC}{n cap:Nat}{l:List Ac}(h:Jh w (J a n cap) l)(i:Nat)(hi:i<l.length):∃b o,a=I ⟨b,o,G⟩∧Bd w b (o+i*4) (l.getD i US):=by
 obtain⟨a',cap',e,hc,h⟩:=h;simp only[tG]at e;obtain⟨rfl,rfl,rfl⟩:=e;rcases h with⟨rfl,_⟩|⟨b,o,rfl,h⟩;·simp at hi
 ·exact⟨b,o,rfl,h i hi⟩
structure Sh(a:Ac):Prop where kind:-9223372036854775808<=a.kind∧a.kind<=9223372036854775807sess:-9223372036854775808<=a.sess∧a.sess<=9223372036854775807keep:-9223372036854775808<=a.keep∧a.keep<=9223372036854775807data:a.data.length<=140737488355328
structure RJ (l : List Ac) : Prop where
  many : l.length * 48 <= 140737488355328
  each : ∀ i, i < l.length -> Sh (l.getD i US)
theorem LS{a:Ac}(h:K8 a):Sh a:=by
 have h0:=h.kind;have h1:=h.data;have h2:0<=a.sess∧a.sess<=7:=by by_cases e:a.kind=1;(·exact h.sess e);·rw[h.noSess e];omega
 have h3:0<=a.keep∧a.keep<=200000:=by by_cases e:a.kind=3;(·exact h.keep e);·rw[h.noKeep e];omega
 exact⟨by omega,by omega,by omega,by omega⟩
abbrev AV:=Ac×H
def Ss:AV:=(US,sI)
def GF(us:List AV):List H:=us.flatMap fun x=>[tA tE x.1.kind,tA tE x.1.sess,tA tE x.1.keep,x.2]
theorem Py(us:List AV):(GF us).length=us.length*4:=by
 induction us with|nil=>rfl|cons x us ih=>rw[GF,tM,tB,<-GF,ih,sM];simp;omega
theorem Mc:∀(us:List AV)(i:Nat),i<us.length->(GF us)[i*4]?=I (tA tE (us.getD i Ss).1.kind)∧(GF us)[i*4+1]?=I (tA tE (us.getD i Ss).1.sess)∧(GF us)[i*4+2]?=I (tA tE (us.getD i Ss).1.keep)∧(GF us)[i*4+3]?=I (us.getD i Ss).2|[],i,h=>by simp at h|x::us,0,_=>⟨rfl,rfl,rfl,rfl⟩|x::us,i+1,h=>by have:=Mc us i (by simpa using h);rw[show(i+1)*4=i*4+4by omega];exact this
theorem mW:(35:Nat)≠5:=by
 decide
def Iw(rb:Nat)(w:F)(v:H)(l:List Ac):Prop:=∃us:List AV,us.map (·.1)=l∧w.ownsRow rb 35 4 v l.length (GF us)∧∀x∈us,Qh 0 w x.2 x.1.data
theorem Iw.shape{rb:Nat}{w:F}{v:H}{l:List Ac}(h:Iw rb w v l):∃a cap,v=J a l.length cap:=by
 obtain⟨us,_,h,_⟩:=h;rcases h.2with⟨rfl,h0⟩|⟨g,cap,cur,rfl,_⟩;·exact⟨G,0,by rw[h0]⟩
 ·exact⟨_,cap,rfl⟩
theorem Ws{us:List AV}{l:List Ac}(h:us.map (·.1)=l)(i:Nat)(hi:i<l.length):(us.getD i Ss).1=l.getD i US∧us.getD i Ss∈us:=by
 subst h;have hi':i<us.length:=by simpa using hi
 refine⟨by simp[hi'],?_⟩;rw[show us.getD i Ss=us[i]by simp[hi']];exact sN hi'
theorem Iw.list{rb:Nat}{w:F}{v:H}{l:List Ac}(h:Iw rb w v l):Jh w v l:=by
 obtain⟨us,hl,hr,h3⟩:=h;rcases hr.2with⟨rfl,h0⟩|⟨g,cap,cur,rfl,hb,hg,hn,hm,hs,ht⟩;·have:l=[]:=tJ h0;rw[this];exact Ed w
 ·(have hcell:∀j u,(GF us)[j]?=I u->w.cell? ⟨g,j,G⟩=I u:=by intro j u hj;(have hlt:j<l.length*4:=by have:=(sH.1 hj).1;rw[hr.1]at this;exact this);(have e2:(cur.toList.take (l.length*4))[j]?=(GF us)[j]?:=by rw[ht]);rw[sB,if_pos hlt,hj]at e2;simp[tR,hg];simpa using e2);refine⟨_,cap,rfl,hn,.inr ⟨g,0,rfl,fun i hi=>?_⟩⟩;obtain⟨e1,e2⟩:=Ws hl i hi;(have hlen:us.length=l.length:=by rw[<-hl];simp);obtain⟨c1,c2,c3,c4⟩:=Mc us i (by omega);have hp:=h3 _ e2;rw[e1]at c1 c2 c3 hp;rw[sL];exact⟨_,hcell _ _ c1,hcell _ _ c2,hcell _ _ c3,hcell _ _ c4,hp.1⟩
def M3(w:F)(v:H)(p:Pr):Prop:=∃vk vv,v=sU #[vk,vv]∧Qe w vk p.1∧Qe w vv p.2
theorem M3.grown{w w':F}{v:H}{p:Pr}(h:M3 w v p)(hg:L w w' G):M3 w' v p:=by
 obtain⟨vk,vv,rfl,h1,h2⟩:=h;exact⟨vk,vv,rfl,h1.grown hg,h2.grown hg⟩
def P8(w:F)(b o:Nat)(p:Pr):Prop:=∃vk vv,w.cell? ⟨b,o,G⟩=I vk∧w.cell? ⟨b,o+1,G⟩=I vv∧Qe w vk p.1∧Qe w vv p.2
theorem P8.grown{w w':F}{b o:Nat}{p:Pr}(h:P8 w b o p)(hg:L w w' G):P8 w' b o p:=by
 obtain⟨vk,vv,c1,c2,h1,h2⟩:=h;exact⟨vk,vv,hg.cell c1 (by simp),hg.cell c2 (by simp),h1.grown hg,h2.grown hg⟩
def Qq(w:F)(v:H)(l:PL):Prop:=∃a cap,v=J a l.length cap∧l.length<=cap∧((l=[]∧(a=G->cap=0))∨∃b o,a=I ⟨b,o,G⟩∧∀i,i<l.length->P8 w b (o+i*2) (l.getD i ([],[])))
theorem XN(w:F):Qq w (J G 0 0) []:=⟨G,0,rfl,sA _,.inl ⟨rfl,fun _=>rfl⟩⟩
theorem Qq.grown{w w':F}{v:H}{l:PL}(h:Qq w v l)(hg:L w w' G):Qq w' v l:=by
 obtain⟨a,cap,rfl,hc,h⟩:=h;refine⟨a,cap,rfl,hc,?_⟩;rcases h with h|⟨b,o,rfl,h⟩;·exact .inl h
 ·exact .inr ⟨b,o,rfl,fun i hi=>(h i hi).grown hg⟩
theorem Qq.shape{w:F}{v:H}{l:PL}(h:Qq w v l):∃a cap,v=J a l.length cap:=by
 obtain⟨a,cap,rfl,_⟩:=h;exact⟨a,cap,rfl⟩
theorem Qq.at{w:F}{a:Option rC}{n cap:Nat}{l:PL}(h:Qq w (J a n cap) l)(i:Nat)(hi:i<l.length):∃b o,a=I ⟨b,o,G⟩∧P8 w b (o+i*2) (l.getD i ([],[])):=by
 obtain⟨a',cap',e,hc,h⟩:=h;simp only[tG]at e;obtain⟨rfl,rfl,rfl⟩:=e;rcases h with⟨rfl,_⟩|⟨b,o,rfl,h⟩;·simp at hi
 ·exact⟨b,o,rfl,h i hi⟩
theorem Qh.kept{base:Nat}{w w':F}{v:H}{bs:List UInt8}(h:Qh base w v bs){row:Option Nat}(hg:L w w' row)(hrow:row=G∨∃g cur fz,row=I g∧base<=g∧w.heap[g]?=I (S cur 44 fz)):Qh base w' v bs:=by
 obtain⟨hs,ho⟩:=h;rcases ho with rfl|⟨b,hb,hlt,hc⟩;·obtain⟨a,cap,rfl,hc,h⟩:=hs;refine⟨⟨a,cap,rfl,hc,?_⟩,.inl rfl⟩;rcases h with h|⟨b,o,rfl,h⟩;(·exact .inl h);·exact .inr ⟨b,o,rfl,fun i hi=>by simp at hi⟩
 ·(have hne:I b≠row:=by intro e;rcases hrow with rfl|⟨g,cur,fz,rfl,hbg,hgc⟩;(·cases e);·cases e;rcases hc with hc|⟨cur2,fz2,hc⟩;(·omega);·rw[hc]at hgc;simp at hgc);have hblk:=hg.block b hlt hne;refine⟨?_,.inr ⟨b,hb,tI hlt hg.size,?_⟩⟩;(·obtain⟨a,cap,rfl,hcp,h⟩:=hs;refine⟨a,cap,rfl,hcp,?_⟩;rcases h with h|⟨b',o,rfl,h⟩;(·exact .inl h);·refine .inr ⟨b',o,rfl,fun i hi=>?_⟩;simp[pJ]at hb;subst hb;exact hg.cell (h i hi) (by simpa using hne));·rcases hc with hc|⟨cur,fz,hc⟩;(·exact .inl hc);·exact .inr ⟨cur,fz,by rw[hblk];exact hc⟩
def flat(vs:List (H×H)):List H:=vs.flatMap fun x=>[x.1,x.2]
theorem KJ(vs:List (H×H)):(flat vs).length=vs.length*2:=by
 induction vs with|nil=>rfl|cons x r ih=>simp only[flat,tM,tB,sM,pY]at ih⊢;omega
theorem Ka(a b:List (H×H)):flat (a++b)=flat a++flat b:=by
 simp[flat]
theorem yC:∀(vs:List (H×H))(i:Nat),i<vs.length->(flat vs)[i*2]?=I (vs.getD i (sI,sI)).1∧(flat vs)[i*2+1]?=I (vs.getD i (sI,sI)).2|[],i,h=>by simp at h|x::r,0,_=>by simp[flat]|x::r,i+1,h=>by have:=yC r i (by simpa using h);rw[show(i+1)*2=i*2+2by omega,show i*2+2+1=(i*2+1)+2by omega];simpa[flat]using this
def GQ(base:Nat)(w:F)(v:H)(l:PL):Prop:=∃vs:List (H×H),vs.length=l.length∧w.ownsRow base 44 2 v l.length (flat vs)∧∀i,i<l.length->Qh base w (vs.getD i (sI,sI)).1 (l.getD i ([],[])).1∧Qh base w (vs.getD i (sI,sI)).2 (l.getD i ([],[])).2
theorem GQ.row{base:Nat}{w:F}{v:H}{l:PL}(h:GQ base w v l):v.ownBlock=G∨∃g cur fz,v.ownBlock=I g∧base<=g∧w.heap[g]?=I (S cur 44 fz):=by
 obtain⟨vs,_,h,_⟩:=h;rcases h.2with⟨rfl,_⟩|⟨g,cap,cur,rfl,hb,hg,_⟩;·exact .inl rfl
 ·exact .inr ⟨g,cur,_,rfl,hb,hg⟩
theorem GQ.lt{base:Nat}{w:F}{v:H}{l:PL}(h:GQ base w v l):∀k,v.ownBlock=I k->base<=k∧k<w.heap.size:=by
 obtain⟨vs,_,h,_⟩:=h;exact sK h
theorem GQ.grownNone{base:Nat}{w w':F}{v:H}{l:PL}(h:GQ base w v l)(hg:L w w' G):GQ base w' v l:=by
 obtain⟨vs,h1,h2,h3⟩:=h;refine⟨vs,h1,tX h2 hg ?_,fun i hi=>⟨((h3 i hi).1).kept hg (.inl rfl),((h3 i hi).2).kept hg (.inl rfl)⟩⟩;cases hv:v.ownBlock with|none=>exact .inl rfl|some k=>exact .inr (by simp)
theorem GQ.alloc{base:Nat}{w:F}{v:H}{l:PL}(h:GQ base w v l)(o:Obj):GQ base (w.alloc o) v l:=h.grownNone (rA _ _ _)
theorem GQ.shape{base:Nat}{w:F}{v:H}{l:PL}(h:GQ base w v l):∃a cap,v=J a l.length cap:=by
 obtain⟨vs,_,h,_⟩:=h;rcases h.2with⟨rfl,h0⟩|⟨g,cap,cur,rfl,_⟩;·exact⟨G,0,by rw[h0]⟩
 ·exact⟨_,cap,rfl⟩
theorem gR{base:Nat}{w W w1:F}{v:H}{l:PL}(h:L w W G)(ho:GQ base W v l)(hb:w.heap.size<=base)(hg:L W w1 v.ownBlock):L w w1 G:=⟨hg.os.trans h.os,hg.tape.trans h.tape,hg.output.trans h.output,tN h.size hg.size,fun i hi hn=>(hg.block i (tI hi h.size) (fun e=>by
 have:=(ho.lt i e.symm).1;omega)).trans (h.block i hi hn)⟩
theorem Cy:(O.info? 44).map (fun i=>(i.zero,i.size,i.bytes))=I (I (sU #[J G 0 0,J G 0 0]),2,48):=by
 kernel_rfl
theorem Jp{α:Type}(a b:List α)(i:Nat)(d:α):(a++b).getD i d=if i<a.length then a.getD i d else b.getD (i-a.length) d:=by
 by_cases h:i<a.length;·rw[if_pos h];simp[pP,h]
 ·rw[if_neg h];simp[pP,h]
theorem jQ(vs:List (H×H))(k:Nat):flat (vs.take k)=(flat vs).take (k*2):=by
 induction vs generalizing k with|nil=>simp[flat]|cons x r ih=>cases k with|zero=>simp[flat]|succ k=>rw[rG,show(k+1)*2=k*2+2by omega];have:=ih k;simp only[flat,tM,pU,pZ,rG]at this⊢;rw[this]
theorem E8(vs:List (H×H))(k:Nat):flat (vs.drop k)=(flat vs).drop (k*2):=by
 induction vs generalizing k with|nil=>simp[flat]|cons x r ih=>cases k with|zero=>simp[flat]|succ k=>rw[pQ,show(k+1)*2=k*2+2by omega];have:=ih k;simp only[flat,tM,pU,pZ,pQ]at this⊢;rw[this]
theorem GQ.cells{base:Nat}{w:F}{g n cap:Nat}{vs:List (H×H)}{l:PL}(hr:w.ownsRow base 44 2 (J (I ⟨g,0,G⟩) n cap) l.length (flat vs)):∀j u,(flat vs)[j]?=I u->w.cell? ⟨g,j,G⟩=I u:=by
 intro j u hj;rcases hr.2with⟨e,_⟩|⟨g',cap',cur,e,hb,hg,hn,hm,hs,ht⟩;·cases e
 ·simp only[tG,Y,rK]at e;obtain⟨⟨rfl,_⟩,_,_⟩:=e;(have hlt:j<l.length*2:=by have:=(sH.1 hj).1;rw[hr.1]at this;exact this);(have e2:(cur.toList.take (l.length*2))[j]?=(flat vs)[j]?:=by rw[ht]);rw[sB,if_pos hlt,hj]at e2;simp[tR,hg];simpa using e2
theorem Q9.setOther{base:Nat}{w:F}{v:H}{bs:List UInt8}(h:Q9 base w v bs)(c i:Nat)(x:H)(hc:c<base):Q9 base (tC w ⟨c,i,G⟩ x) v bs:=by
 refine h.grown (row:=I c) (Qg (Qb _ _) i x) ?_;cases hv:v.ownBlock with|none=>exact .inl rfl|some k=>have:=(h.lt k hv).1;exact .inr (by simp;omega)
theorem JD{W w:F}{b:Nat}{x y:H}{t:tV}(hg:L W w G)(h:W.heap[b]?=I (S #[x,y] t))(u v:H):(tC w ⟨b,0,G⟩ u).cell? ⟨b,0,G⟩=I u∧((tC w ⟨b,0,G⟩ u).setCell ⟨b,1,G⟩ v).cell? ⟨b,1,G⟩=I v:=by
 have hb:w.heap[b]?=I (S #[x,y] t):=by rw[hg.block b (tH.1 h).1 (by simp)];exact h
 have c0:w.cell? ⟨b,0,G⟩=I x:=by simp[tR,hb]
 have c1:w.cell? ⟨b,1,G⟩=I y:=by simp[tR,hb]
 refine⟨pK _ _ _ (by rw[c0];rfl),pK _ _ _ ?_⟩;rw[r7 _ _ _ _ (by simp),c1];rfl
theorem GH{base:Nat}{W:F}{pb:Nat}{x y:H}(h:W.heap[pb]?=I (S #[x,y] 44))(hb:base<=pb)(u v:H):((tC W ⟨pb,0,G⟩ u).setCell ⟨pb,1,G⟩ v).heap[pb]?=I (S #[u,v] 44)∧(∀z bs,Qh base W z bs->Qh base ((tC W ⟨pb,0,G⟩ u).setCell ⟨pb,1,G⟩ v) z bs)∧∀w0:F,w0.heap.size<=pb->L w0 W G->L w0 ((tC W ⟨pb,0,G⟩ u).setCell ⟨pb,1,G⟩ v) G:=by
 refine⟨?_,fun z bs hz=>?_,fun w0 h0 hg=>Qc (Qc hg _ h0 _ _) _ h0 _ _⟩;·simp only[tC,tU,if_true,h,rP];first|rfl|simp
 ·exact hz.kept (Qg (Qg (Qb _ _) _ _) _ _) (.inr ⟨pb,_,_,rfl,hb,h⟩)
def Kz(rb pb:Nat)(w:F)(v:H)(l:PL):Prop:=∃vs:List (H×H),vs.length=l.length∧w.ownsRow rb 44 2 v l.length (flat vs)∧∀i,i<l.length->Qh pb w (vs.getD i (sI,sI)).1 (l.getD i ([],[])).1∧Qh pb w (vs.getD i (sI,sI)).2 (l.getD i ([],[])).2
theorem BE(rb pb:Nat)(w:F):Kz rb pb w (J G 0 0) []:=⟨[],rfl,sR _ _ _ _,fun i hi=>by
 simp at hi⟩
theorem Kz.p{rb pb:Nat}{w:F}{v:H}{l:PL}(h:Kz rb pb w v l)(hb:pb<=rb):GQ pb w v l:=by
 obtain⟨vs,h1,h2,h3⟩:=h;refine⟨vs,h1,⟨h2.1,?_⟩,h3⟩;rcases h2.2with h|⟨g,cap,cur,h1,h2,h3⟩;·exact .inl h
 ·exact .inr ⟨g,cap,cur,h1,tN hb h2,h3⟩
theorem Kz.row{rb base:Nat}{w:F}{v:H}{l:PL}(h:Kz rb base w v l)(hb:base<=rb):v.ownBlock=G∨∃g cur fz,v.ownBlock=I g∧base<=g∧w.heap[g]?=I (S cur 44 fz):=(h.p hb).row
theorem Kz.lt{rb pb:Nat}{w:F}{v:H}{l:PL}(h:Kz rb pb w v l):∀k,v.ownBlock=I k->rb<=k∧k<w.heap.size:=by
 obtain⟨vs,_,h,_⟩:=h;exact sK h
theorem Kz.grownNone{rb pb:Nat}{w w':F}{v:H}{l:PL}(h:Kz rb pb w v l)(hg:L w w' G):Kz rb pb w' v l:=by
 obtain⟨vs,h1,h2,h3⟩:=h;refine⟨vs,h1,tX h2 hg ?_,fun i hi=>⟨((h3 i hi).1).kept hg (.inl rfl),((h3 i hi).2).kept hg (.inl rfl)⟩⟩;cases hv:v.ownBlock with|none=>exact .inl rfl|some k=>exact .inr (by simp)
theorem Kz.alloc{rb pb:Nat}{w:F}{v:H}{l:PL}(h:Kz rb pb w v l)(o:Obj):Kz rb pb (w.alloc o) v l:=h.grownNone (rA _ _ _)
theorem Kz.shape{rb pb:Nat}{w:F}{v:H}{l:PL}(h:Kz rb pb w v l):∃a cap,v=J a l.length cap:=by
 obtain⟨vs,_,h,_⟩:=h;rcases h.2with⟨rfl,h0⟩|⟨g,cap,cur,rfl,_⟩;·exact⟨G,0,by rw[h0]⟩
 ·exact⟨_,cap,rfl⟩
theorem RI{rb pb:Nat}{w W w1:F}{v:H}{l:PL}(h:L w W G)(ho:Kz rb pb W v l)(hb:w.heap.size<=rb)(hg:L W w1 v.ownBlock):L w w1 G:=⟨hg.os.trans h.os,hg.tape.trans h.tape,hg.output.trans h.output,tN h.size hg.size,fun i hi hn=>(hg.block i (tI hi h.size) (fun e=>by
 have:=(ho.lt i e.symm).1;omega)).trans (h.block i hi hn)⟩
def i6(base:Nat)(w:F)(b o:Nat)(p:Pr):Prop:=∃vk vv,w.cell? ⟨b,o,G⟩=I vk∧w.cell? ⟨b,o+1,G⟩=I vv∧Qh base w vk p.1∧Qh base w vv p.2
def QP(base:Nat)(w:F)(v:H)(l:PL):Prop:=∃a cap,v=J a l.length cap∧l.length<=cap∧((l=[]∧(a=G->cap=0))∨∃b o,a=I ⟨b,o,G⟩∧(b<base∨∃cur fz,w.heap[b]?=I (S cur 44 fz))∧∀i,i<l.length->i6 base w b (o+i*2) (l.getD i ([],[])))
theorem QP.list{base:Nat}{w:F}{v:H}{l:PL}(h:QP base w v l):Qq w v l:=by
 obtain⟨a,cap,rfl,hc,h⟩:=h;refine⟨a,cap,rfl,hc,?_⟩;rcases h with h|⟨b,o,rfl,_,h⟩;·exact .inl h
 ·refine .inr ⟨b,o,rfl,fun i hi=>?_⟩;obtain⟨vk,vv,c1,c2,h1,h2⟩:=h i hi;exact⟨vk,vv,c1,c2,h1.1,h2.1⟩
theorem Qq.pairsB{w w':F}{v:H}{l:PL}(h:Qq w v l)(hg:L w w' G)(base:Nat)(hb:w.heap.size<=base):QP base w' v l:=by
 obtain⟨a,cap,rfl,hc,h⟩:=h;refine⟨a,cap,rfl,hc,?_⟩;rcases h with h|⟨b,o,rfl,h⟩;·exact .inl h
 ·by_cases h0:l=[];(·exact .inl ⟨h0,fun e=>by cases e⟩);·have hl:0<l.length:=rW.2 h0;refine .inr ⟨b,o,rfl,.inl ?_,fun i hi=>?_⟩;(·obtain⟨vk,vv,c1,_⟩:=h 0 hl;exact tI (UD c1) hb);·obtain⟨vk,vv,c1,c2,h1,h2⟩:=h i hi;exact⟨vk,vv,hg.cell c1 (by simp),hg.cell c2 (by simp),h1.part hg base hb,h2.part hg base hb⟩
theorem GQ.pairsB{base:Nat}{w:F}{v:H}{l:PL}(h:GQ base w v l):QP base w v l:=by
 obtain⟨vs,hl,hr,h3⟩:=h;have hr':=hr;rcases hr.2with⟨rfl,h0⟩|⟨g,cap,cur,rfl,hb,hg,hn,hm,hs,ht⟩;·have:l=[]:=tJ h0;subst this;exact⟨G,0,rfl,sA _,.inl ⟨rfl,fun _=>rfl⟩⟩
 ·refine⟨_,cap,rfl,hn,.inr ⟨g,0,rfl,.inr ⟨cur,_,hg⟩,fun i hi=>?_⟩⟩;have hf:=yC vs i (by omega);refine⟨(vs.getD i (sI,sI)).1,(vs.getD i (sI,sI)).2,?_,?_,(h3 i hi).1,(h3 i hi).2⟩;(·have:=GQ.cells hr' _ _ hf.1;rw[sL];exact this);·have:=GQ.cells hr' _ _ hf.2;rw[sL];exact this
theorem QP.kept{base:Nat}{w w':F}{v:H}{l:PL}(h:QP base w v l){row:Option Nat}(hg:L w w' row)(hrow:row=G∨∃g cur t fz,row=I g∧base<=g∧w.heap[g]?=I (S cur t fz)∧t≠5∧t≠44):QP base w' v l:=by
 obtain⟨a,cap,rfl,hc,h⟩:=h;refine⟨a,cap,rfl,hc,?_⟩;rcases h with h|⟨b,o,rfl,hb,h⟩;·exact .inl h
 ·by_cases h0:l=[];(·exact .inl ⟨h0,fun e=>by cases e⟩);·have hl:0<l.length:=rW.2 h0;(have hlt:b<w.heap.size:=by obtain⟨vk,vv,c1,_⟩:=h 0 hl;exact UD c1);(have hne:I b≠row:=by intro e;rcases hrow with rfl|⟨g,cur,t,fz,rfl,hbg,hgc,ht,ht2⟩;(·cases e);·cases e;rcases hb with hb|⟨cur2,fz2,hb⟩;(·omega);·rw[hb]at hgc;simp only[Y,tW]at hgc;exact ht2 hgc.2.1.symm);(have hrow':row=G∨∃g cur t fz,row=I g∧base<=g∧w.heap[g]?=I (S cur t fz)∧t≠5:=by rcases hrow with h|⟨g,cur,t,fz,h1,h2,h3,h4,_⟩;(·exact .inl h);·exact .inr ⟨g,cur,t,fz,h1,h2,h3,h4⟩);refine .inr ⟨b,o,rfl,?_,fun i hi=>?_⟩;(·rcases hb with hb|⟨cur,fz,hb⟩;(·exact .inl hb);·exact .inr ⟨cur,fz,by rw[hg.block b hlt hne];exact hb⟩);·obtain⟨vk,vv,c1,c2,h1,h2⟩:=h i hi;exact⟨vk,vv,hg.cell c1 (by simpa using hne),hg.cell c2 (by simpa using hne),h1.keptT hg hrow',h2.keptT hg hrow'⟩
theorem QP.grown{base:Nat}{w w':F}{v:H}{l:PL}(h:QP base w v l)(hg:L w w' G):QP base w' v l:=h.kept hg (.inl rfl)
theorem yQ{base:Nat}{w:F}{v:H}{l:PL}(h:QP base w v l):v.oneCell'=M:=by
 obtain⟨a,cap,rfl,_⟩:=h;rfl
theorem YD(base:Nat)(w:F):QP base w (J G 0 0) []:=⟨G,0,rfl,sA _,.inl ⟨rfl,fun _=>rfl⟩⟩
theorem QP.shape{base:Nat}{w:F}{v:H}{l:PL}(h:QP base w v l):∃a cap,v=J a l.length cap:=by
 obtain⟨a,cap,rfl,_⟩:=h;exact⟨a,cap,rfl⟩
theorem QP.mono{base base':Nat}{w:F}{v:H}{l:PL}(h:QP base w v l)(hb:base<=base'):QP base' w v l:=by
 obtain⟨a,cap,rfl,hc,h⟩:=h;refine⟨a,cap,rfl,hc,?_⟩;rcases h with h|⟨b,o,rfl,h1,h2⟩;·exact .inl h
 ·refine .inr ⟨b,o,rfl,?_,fun i hi=>?_⟩;(·rcases h1 with h1|h1;(·exact .inl (by omega));·exact .inr h1);·obtain⟨vk,vv,c1,c2,p1,p2⟩:=h2 i hi;exact⟨vk,vv,c1,c2,p1.mono hb,p2.mono hb⟩
theorem Kz.pairsB{rb:Nat}{w:F}{v:H}{l:PL}(h:Kz rb 0 w v l):QP 0 w v l:=(h.p (tS _)).pairsB
theorem QP.up{w:F}{v:H}{l:PL}(h:QP 0 w v l)(base:Nat):QP base w v l:=h.mono (tS _)
abbrev WV:=Zi×H×H×H
def Ag:WV:=(Qr,sI,sI,sI)
def Jd(us:List WV):List H:=us.flatMap fun x=>[x.2.1,x.2.2.1,tL x.1.gone,x.2.2.2]
theorem Wm(us:List WV):(Jd us).length=us.length*4:=by
 induction us with|nil=>rfl|cons x r ih=>simp only[Jd,tM,tB,sM,pY]at ih⊢;omega
theorem uZ(a b:List WV):Jd (a++b)=Jd a++Jd b:=by
 simp[Jd]
theorem Mh:∀(us:List WV)(i:Nat),i<us.length->(Jd us)[i*4]?=I (us.getD i Ag).2.1∧(Jd us)[i*4+1]?=I (us.getD i Ag).2.2.1∧(Jd us)[i*4+2]?=I (tL (us.getD i Ag).1.gone)∧(Jd us)[i*4+3]?=I (us.getD i Ag).2.2.2|[],i,h=>by simp at h|x::r,0,_=>by simp[Jd]|x::r,i+1,h=>by have:=Mh r i (by simpa using h);rw[show(i+1)*4=i*4+4by omega,show i*4+4+1=(i*4+1)+4by omega,show i*4+4+2=(i*4+2)+4by omega,show i*4+4+3=(i*4+3)+4by omega];simpa[Jd]using this
theorem uL:(172:Nat)≠5:=by
 decide
theorem Wl{us:List WV}{l:List Zi}(h:us.map (·.1)=l)(i:Nat)(hi:i<l.length):(us.getD i Ag).1=l.getD i Qr∧us.getD i Ag∈us:=by
 subst h;have hi':i<us.length:=by simpa using hi
 refine⟨by simp[hi'],?_⟩;rw[show us.getD i Ag=us[i]by simp[hi']];exact sN hi'
theorem cP:(O.info? 172).map (fun i=>(i.zero,i.size,i.bytes))=I (I (sU #[J G 0 0,J G 0 0,tL N,J G 0 0]),4,80):=by
 kernel_rfl
theorem Eo(w:F)(vn vk vv:H)(p:Zi)(h1:Qe w vn p.name)(h2:Qe w vk p.key)(h3:Qe w vv p.value)(t:tV):QS (w.alloc (S #[vn,vk,tL p.gone,vv] t)) (J (I ⟨w.heap.size,0,G⟩) 1 1) [p]:=by
 refine⟨_,1,rfl,by simp,.inr ⟨w.heap.size,0,rfl,fun i hi=>?_⟩⟩;match i,hi with|0,_=>exact⟨vn,vk,vv,by simp,by simp,by simp,by simp,h1.alloc _,h2.alloc _,h3.alloc _⟩
def OQ(base:Nat)(w:F)(b o:Nat)(p:Zi):Prop:=∃vn vk vv,w.cell? ⟨b,o,G⟩=I vn∧w.cell? ⟨b,o+1,G⟩=I vk∧w.cell? ⟨b,o+2,G⟩=I (tL p.gone)∧w.cell? ⟨b,o+3,G⟩=I vv∧Qh base w vn p.name∧Qh base w vk p.key∧Qh base w vv p.value
def Xv(base:Nat)(w:F)(v:H)(l:List Zi):Prop:=∃a cap,v=J a l.length cap∧l.length<=cap∧((l=[]∧(a=G->cap=0))∨∃b o,a=I ⟨b,o,G⟩∧(b<base∨∃cur fz,w.heap[b]?=I (S cur 172 fz))∧∀i,i<l.length->OQ base w b (o+i*4) (l.getD i Qr))
theorem Cg(base:Nat)(w:F):Xv base w (J G 0 0) []:=⟨G,0,rfl,sA _,.inl ⟨rfl,fun _=>rfl⟩⟩
theorem Xv.shape{base:Nat}{w:F}{v:H}{l:List Zi}(h:Xv base w v l):∃a cap,v=J a l.length cap:=by
 obtain⟨a,cap,rfl,_⟩:=h;exact⟨a,cap,rfl⟩
theorem Xv.oneCell{base:Nat}{w:F}{v:H}{l:List Zi}(h:Xv base w v l):v.oneCell'=M:=by
 obtain⟨a,cap,rfl,_⟩:=h;rfl
theorem Xv.list{base:Nat}{w:F}{v:H}{l:List Zi}(h:Xv base w v l):QS w v l:=by
 obtain⟨a,cap,rfl,hc,h⟩:=h;refine⟨a,cap,rfl,hc,?_⟩;rcases h with h|⟨b,o,rfl,_,h⟩;·exact .inl h
 ·refine .inr ⟨b,o,rfl,fun i hi=>?_⟩;obtain⟨vn,vk,vv,c1,c2,c3,c4,h1,h2,h3⟩:=h i hi;exact⟨vn,vk,vv,c1,c2,c3,c4,h1.1,h2.1,h3.1⟩
theorem Xv.kept{base:Nat}{w w':F}{v:H}{l:List Zi}(h:Xv base w v l){row:Option Nat}(hg:L w w' row)(hrow:row=G∨∃g cur t fz,row=I g∧base<=g∧w.heap[g]?=I (S cur t fz)∧t≠5∧t≠172):Xv base w' v l:=by
 obtain⟨a,cap,rfl,hc,h⟩:=h;refine⟨a,cap,rfl,hc,?_⟩;rcases h with h|⟨b,o,rfl,hb,h⟩;·exact .inl h
 ·by_cases h0:l=[];(·exact .inl ⟨h0,fun e=>by cases e⟩);·have hl:0<l.length:=rW.2 h0;(have hlt:b<w.heap.size:=by obtain⟨vn,vk,vv,c1,_⟩:=h 0 hl;exact UD c1);(have hne:I b≠row:=by intro e;rcases hrow with rfl|⟨g,cur,t,fz,rfl,hbg,hgc,ht,ht2⟩;(·cases e);·cases e;rcases hb with hb|⟨cur2,fz2,hb⟩;(·omega);·rw[hb]at hgc;simp only[Y,tW]at hgc;exact ht2 hgc.2.1.symm);(have hrow':row=G∨∃g cur t fz,row=I g∧base<=g∧w.heap[g]?=I (S cur t fz)∧t≠5:=by rcases hrow with h|⟨g,cur,t,fz,h1,h2,h3,h4,_⟩;(·exact .inl h);·exact .inr ⟨g,cur,t,fz,h1,h2,h3,h4⟩);refine .inr ⟨b,o,rfl,?_,fun i hi=>?_⟩;(·rcases hb with hb|⟨cur,fz,hb⟩;(·exact .inl hb);·exact .inr ⟨cur,fz,by rw[hg.block b hlt hne];exact hb⟩);·obtain⟨vn,vk,vv,c1,c2,c3,c4,h1,h2,h3⟩:=h i hi;exact⟨vn,vk,vv,hg.cell c1 (by simpa using hne),hg.cell c2 (by simpa using hne),hg.cell c3 (by simpa using hne),hg.cell c4 (by simpa using hne),h1.keptT hg hrow',h2.keptT hg hrow',h3.keptT hg hrow'⟩
theorem Xv.grown{base:Nat}{w w':F}{v:H}{l:List Zi}(h:Xv base w v l)(hg:L w w' G):Xv base w' v l:=h.kept hg (.inl rfl)
def Kf(w:F)(v:H)(c:XO):Prop:=∃vs,v=sU #[tA tE c.turn,vs]∧QS w vs c.writes
theorem Kf.grown{w w':F}{v:H}{c:XO}(h:Kf w v c)(hg:L w w' G):Kf w' v c:=by
 obtain⟨vs,rfl,h⟩:=h;exact⟨vs,rfl,h.grown hg⟩
theorem Kf.agg{w:F}{v:H}{c:XO}(h:Kf w v c):∃a cap,v=sU #[tA tE c.turn,J a c.writes.length cap]:=by
 obtain⟨vs,rfl,h⟩:=h;obtain⟨a,cap,rfl⟩:=h.shape;exact⟨a,cap,rfl⟩
theorem Kf.writes{w:F}{c:XO}{x y:H}(h:Kf w (sU #[x,y]) c):x=tA tE c.turn∧QS w y c.writes:=by
 obtain⟨vs,e,h⟩:=h;injection e with e;injection e with e;injection e with e1 e;injection e with e2 e;exact⟨e1,e2▸h⟩
structure NZ(c:XO):Prop where turn:-9223372036854775808<=c.turn∧c.turn<=9223372036854775807writes:uQ c.writes
structure Gm where
  data : List UInt8
  synced : Int
def Gu:Gm:=⟨[],0⟩
def K5(w:F)(v:H)(t:Gm):Prop:=∃vd,v=sU #[vd,tA tE t.synced]∧Qe w vd t.data
theorem K5.grown{w w':F}{v:H}{t:Gm}(h:K5 w v t)(hg:L w w' G):K5 w' v t:=by
 obtain⟨vd,rfl,h⟩:=h;exact⟨vd,rfl,h.grown hg⟩
theorem K5.agg{w:F}{v:H}{t:Gm}(h:K5 w v t):∃a cap,v=sU #[J a t.data.length cap,tA tE t.synced]:=by
 obtain⟨vd,rfl,h⟩:=h;obtain⟨a,cap,rfl⟩:=h.shape;exact⟨a,cap,rfl⟩
theorem K5.data{w:F}{t:Gm}{x y:H}(h:K5 w (sU #[x,y]) t):Qe w x t.data∧y=tA tE t.synced:=by
 obtain⟨vd,e,h⟩:=h;injection e with e;injection e with e;injection e with e1 e;injection e with e2 e;exact⟨e1▸h,e2⟩
structure yN(t:Gm):Prop where data:t.data.length<=140737488355328synced:-9223372036854775808<=t.synced∧t.synced<=9223372036854775807
def YA(w:F)(v:H)(t:Gm):Prop:=∃vd,v=sU #[vd,tA tE t.synced]∧Qh 0 w vd t.data
theorem YA.is{w:F}{v:H}{t:Gm}(h:YA w v t):K5 w v t:=by
 obtain⟨vd,rfl,h⟩:=h;exact⟨vd,rfl,h.slice⟩
theorem Gg(w:F):YA w (sU #[J G 0 0,tA tE 0]) Gu:=⟨_,rfl,QE w,.inl rfl⟩
def GP(t:Gm):Bool:=tP (t.data.length<=200000)&&tP (0<=t.synced∧t.synced<=(t.data.length:Int))
theorem KP(t:Gm):GP t=M↔t.data.length<=200000∧0<=t.synced∧t.synced<=(t.data.length:Int):=by
 unfold GP;rw[rN,decide_eq_true_iff,decide_eq_true_iff]
def T7(c:XO):List UInt8:=if Za c=0then Zl c else[]
def RZ(t:Gm):Int:=if GP t=M then 0 else 6
def Kx(t:Gm):Gm:=if GP t=M then⟨t.data,(t.data.length:Int)⟩else Gu
def Uw(t:Gm)(keep:Int):Int:=if GP t=M then(if keep<0then 2 else 0)else 6
def XE(t:Gm)(keep:Int):Nat:=if keep<(t.data.length:Int)-t.synced then(t.synced+keep).toNat else t.data.length
def XC(t:Gm)(keep:Int):Gm:=if Uw t keep=0then⟨t.data.take (XE t keep),(XE t keep:Int)⟩else Gu
def VG(D:List UInt8->List UInt8)(t:Gm)(c:XO):Int:=if GP t=M then(if Za c=0then(if 200000<t.data.length+(ZJ D c).length then 11 else 0)else Za c)else 6
def xE(D:List UInt8->List UInt8)(t:Gm)(c:XO):Gm:=if VG D t c=0then⟨t.data++ZJ D c,t.synced⟩else Gu
def EM(t:Gm):Int:=if GP t=M then 0 else 6
def yW(D:List UInt8->List UInt8)(t:Gm):List XO:=if GP t=M then(KR D 1 t.data).1 else[]
def xQ(D:List UInt8->List UInt8)(t:Gm):Gm:=if GP t=M then⟨t.data.take (DV D t.data),if t.synced>(DV D t.data:Int)then(DV D t.data:Int)else t.synced⟩else Gu
theorem Bq{D:List UInt8->List UInt8}(hD:∀x,(D x).length=4){c:XO}(hc:Za c=0):6<=(ZJ D c).length∧(ZJ D c).length<=600:=by
 have h1:=P5 hD c;have h2:=U8 hc;omega
theorem Af(D:List UInt8->List UInt8)(cs:List XO)(i:Nat)(h:i<cs.length):Q6 D (cs.take (i+1))=Q6 D (cs.take i)++ZJ D (cs.getD i Zr):=by
 rw[sZ h,VK,PW,show cs[i]=cs.getD i Zr by simp[h]]
theorem iF{D:List UInt8->List UInt8}{t:Gm}(hm:GP t=M){cs:List XO}{r:List UInt8}{n:Nat}(h:KR D 1 t.data=(cs,r))(hn:DV D t.data=n):EM t=0∧yW D t=cs∧xQ D t=⟨t.data.take n,if t.synced>(n:Int)then(n:Int)else t.synced⟩:=by
 refine⟨by rw[EM,if_pos hm],by rw[yW,if_pos hm,h],by rw[xQ,if_pos hm,hn]⟩
theorem aB{D:List UInt8->List UInt8}(hD:∀x,(D x).length=4){cs:List XO}(h:zQ 1 cs)(k:Nat)(s:Int)(hk:k<=(Q6 D cs).length)(hs:0<=s∧s<=(k:Int))(hl:(Q6 D cs).length<=200000):∃j,j<=cs.length∧(Q6 D (cs.take j)).length<=k∧(j<cs.length->k<(Q6 D (cs.take (j+1))).length)∧EM ⟨(Q6 D cs).take k,s⟩=0∧yW D ⟨(Q6 D cs).take k,s⟩=cs.take j∧xQ D ⟨(Q6 D cs).take k,s⟩=⟨Q6 D (cs.take j),if s>((Q6 D (cs.take j)).length:Int)then((Q6 D (cs.take j)).length:Int)else s⟩:=by
 obtain⟨j,h1,h2,h3,h4,h5⟩:=Bo hD h k;have hkl:((Q6 D cs).take k).length=k:=by simp;omega
 have hm:GP ⟨(Q6 D cs).take k,s⟩=M:=(KP _).2 ⟨by show((Q6 D cs).take k).length<=_;omega,by show 0<=s∧s<=(((Q6 D cs).take k).length:Int);omega⟩;have hn:DV D ((Q6 D cs).take k)=(Q6 D (cs.take j)).length:=by rw[DV,h2,hkl];show k-(((Q6 D cs).take k).drop _).length=_;rw[pV,hkl];omega
 obtain⟨a,b,c⟩:=iF hm h2 hn;refine⟨j,h1,h3,h5,a,b,?_⟩;rw[c];have e:((Q6 D cs).take k).take (Q6 D (cs.take j)).length=Q6 D (cs.take j):=by rw[oE,oF h3];(conv=>lhs;rw[<-pN j cs,VK]);rw[show(cs.take j++cs.drop j).take j=cs.take j by rw[pN]];exact List.take_left' rfl
 show(⟨((Q6 D cs).take k).take _,_⟩:Gm)=_;rw[e]
def OH:FL->Nat->List XO->Int|_,_,[]=>0|f,i,c::cs=>if Za c=0then(if c.turn=((i+1:Nat):Int)then(if QZ f c.writes=0then OH (XD f c.writes) (i+1) cs else QZ f c.writes)else 3)else Za c
def qT:FL->List XO->FL|f,[]=>f|f,c::cs=>qT (XD f c.writes) cs
theorem Ph:∀(a b:List XO)(f:FL),qT f (a++b)=qT (qT f a) b|[],_,_=>rfl|_::a,b,_=>Ph a b _
theorem So(cs:List XO)(f:FL)(c:XO):qT f (cs++[c])=XD (qT f cs) c.writes:=by
 rw[Ph];rfl
def vX:FL->Nat->List XO->Prop|_,_,[]=>True|f,i,c::cs=>Za c=0∧c.turn=((i+1:Nat):Int)∧QZ f c.writes=0∧vX (XD f c.writes) (i+1) cs
theorem vX.take:∀{cs:List XO}{f:FL}{i:Nat}(_:vX f i cs)(j:Nat),vX f i (cs.take j)|[],_,_,_,j=>by rw[List.take_nil];trivial|_::_,_,_,_,0=>trivial|_::_,_,_,h,j+1=>⟨h.1,h.2.1,h.2.2.1,vX.take h.2.2.2 j⟩
theorem vX.at:∀{cs:List XO}{f:FL}{i:Nat}(_:vX f i cs)(j:Nat)(_:j<cs.length),Za (cs.getD j Zr)=0∧(cs.getD j Zr).turn=((i+j+1:Nat):Int)∧QZ (qT f (cs.take j)) (cs.getD j Zr).writes=0|[],_,_,_,j,hj=>by simp at hj|c::cs,f,i,h,0,_=>⟨h.1,h.2.1,h.2.2.1⟩|c::cs,f,i,h,j+1,hj=>by have:=vX.at h.2.2.2 j (by simpa using hj);rw[show i+(j+1)+1=i+1+j+1by omega];simpa[qT]using this
theorem F7{l:FL}(h:Z6 l)(ws:List Zi):Z6 (XD l ws):=by
 unfold XD;by_cases h0:QZ l ws=0;·rw[if_pos h0];unfold QZ at h0;rw[if_pos ((Xb l).2 h)]at h0;by_cases h10:10<ws.length;(·rw[if_pos h10]at h0;omega);·rw[if_neg h10]at h0;exact v8 ws l h h0
 ·rw[if_neg h0];exact UI
theorem vR:∀(cs:List XO)(f:FL),Z6 f->Z6 (qT f cs)|[],_,h=>h|c::cs,_,h=>vR cs _ (F7 h c.writes)
def Z8(n t:Int):Bool:=tP (0<=t∧t<=n∧n-t<6)
def RH(a b:Zi):Prop:=a.name=b.name∧a.key=b.key
def NW(l:List Zi):Prop:=l.Pairwise fun a b=>¬RH a b
def XP(a b:Rd):Bool:=a.wide==b.wide&&(tP (a.name=b.name)&&(tP (a.key=b.key)&&tP (a.last=b.last)))
theorem zD(a b:Rd):XP a b=M↔a=b:=by
 obtain⟨n,k,w,l⟩:=a;obtain⟨n2,k2,w2,l2⟩:=b;simp only[XP,rN,decide_eq_true_iff,beq_iff_eq,Rd.mk.injEq];exact⟨fun⟨h1,h2,h3,h4⟩=>⟨h2,h3,h1,h4⟩,fun⟨h1,h2,h3,h4⟩=>⟨h3,h1,h2,h4⟩⟩
def ZQ(a b:Zi):Bool:=tP (a.name=b.name)&&tP (a.key=b.key)
theorem zP(a b:Zi):ZQ a b=M↔RH a b:=by
 simp only[ZQ,rN,decide_eq_true_iff];exact Iff.rfl
def qI:List Rd->List Rd->Int|_,[]=>0|p,r::rs=>if XM r=0then(if p.any (fun q=>XP q r)=M then 3 else qI (p++[r]) rs)else XM r
def yH:List Zi->List Zi->Int|_,[]=>0|p,w::ws=>if QC w=0then(if p.any (fun q=>ZQ q w)=M then 3 else yH (p++[w]) ws)else QC w
theorem TY:∀(rs p:List Rd),qI p rs=0↔(∀r∈rs,XM r=0)∧(∀r∈rs,r∉p)∧rs.Nodup|[],p=>by simp[qI]|r::rs,p=>by have ih:=TY rs (p++[r]);rw[qI];by_cases h1:XM r=0;(·rw[if_pos h1];by_cases h2:p.any (fun q=>XP q r)=M;(·rw[if_pos h2];refine⟨fun h=>by omega,fun h=>?_⟩;obtain⟨q,hq,he⟩:=rD.1 h2;rw[(zD q r).1 he]at hq;exact absurd hq (h.2.1 r (rH ..)));·rw[if_neg h2,ih];have hr:r∉p:=fun hm=>h2 (rD.2 ⟨r,hm,(zD r r).2 rfl⟩);constructor;(·rintro⟨a,b,c⟩;refine⟨fun x hx=>?_,fun x hx=>?_,oC.2 ⟨fun hm=>b r hm (by simp),c⟩⟩;(·rcases tK.1 hx with rfl|hx;(·exact h1);·exact a x hx);·rcases tK.1 hx with rfl|hx;(·exact hr);·exact fun hm=>b x hx (tY.2 (.inl hm)));·rintro⟨a,b,c⟩;have c':=oC.1 c;refine⟨fun x hx=>a x (sV _ hx),fun x hx hm=>?_,c'.2⟩;rcases tY.1 hm with hm|hm;(·exact b x (sV _ hx) hm);·simp only[tK,tQ,or_false]at hm;subst hm;exact c'.1 hx);·rw[if_neg h1];exact⟨fun h=>absurd h h1,fun h=>absurd (h.1 r (rH ..)) h1⟩
theorem Dz:∀(ws p:List Zi),yH p ws=0↔(∀w∈ws,QC w=0)∧(∀w∈ws,∀q∈p,¬RH q w)∧NW ws|[],p=>by simp[yH,NW]|w::ws,p=>by have ih:=Dz ws (p++[w]);rw[yH];by_cases h1:QC w=0;(·rw[if_pos h1];by_cases h2:p.any (fun q=>ZQ q w)=M;(·rw[if_pos h2];refine⟨fun h=>by omega,fun h=>?_⟩;obtain⟨q,hq,he⟩:=rD.1 h2;exact absurd ((zP q w).1 he) (h.2.1 w (rH ..) q hq));·rw[if_neg h2,ih];have hr:∀q∈p,¬RH q w:=fun q hm e=>h2 (rD.2 ⟨q,hm,(zP q w).2 e⟩);constructor;(·rintro⟨a,b,c⟩;refine⟨fun x hx=>?_,fun x hx q hq=>?_,rI.2 ⟨fun x hx=>b x hx w (by simp),c⟩⟩;(·rcases tK.1 hx with rfl|hx;(·exact h1);·exact a x hx);·rcases tK.1 hx with rfl|hx;(·exact hr q hq);·exact b x hx q (tY.2 (.inl hq)));·rintro⟨a,b,c⟩;have c':=rI.1 c;refine⟨fun x hx=>a x (sV _ hx),fun x hx q hm=>?_,c'.2⟩;rcases tY.1 hm with hm|hm;(·exact b x (sV _ hx) q hm);·simp only[tK,tQ,or_false]at hm;subst hm;exact c'.1 x hx);·rw[if_neg h1];exact⟨fun h=>absurd h h1,fun h=>absurd (h.1 w (rH ..)) h1⟩
structure Tx where
  start : Int
  reads : List Rd
  writes : List Zi
def F6:Tx:=⟨0,[],[]⟩
def GA(t:Tx):Int:=if 0<=t.start∧t.start<=1048576then(if 20<t.reads.length∨10<t.writes.length then 1 else(if qI [] t.reads=0then yH [] t.writes else qI [] t.reads))else 2
structure qX (t : Tx) : Prop where
  start : 0 <= t.start ∧ t.start <= 1048576
  reads : t.reads.length <= 20
  writes : t.writes.length <= 10
  each : ∀ r ∈ t.reads, XM r = 0
  once : t.reads.Nodup
  wrs : ∀ w ∈ t.writes, QC w = 0
  apart : NW t.writes
theorem uJ(t:Tx):GA t=0↔qX t:=by
 unfold GA;by_cases h1:0<=t.start∧t.start<=1048576;·rw[if_pos h1];by_cases h2:20<t.reads.length∨10<t.writes.length;(·rw[if_pos h2];exact⟨fun h=>by omega,fun h=>by have:=h.reads;have:=h.writes;omega⟩);·rw[if_neg h2];by_cases h3:qI [] t.reads=0;(·rw[if_pos h3,Dz];have h3':=(TY _ _).1 h3;exact⟨fun h=>⟨h1,by omega,by omega,h3'.1,h3'.2.2,h.1,h.2.2⟩,fun h=>⟨h.wrs,fun _ _ _ hq=>by simp at hq,h.apart⟩⟩);·rw[if_neg h3];exact⟨fun h=>absurd h h3,fun h=>absurd ((TY _ _).2 ⟨h.each,fun _ _ hq=>by simp at hq,h.once⟩) h3⟩
 ·rw[if_neg h1];exact⟨fun h=>by omega,fun h=>absurd h.start h1⟩
def EJ(t:Tx)(r:Rd):Bool:=t.reads.any (fun q=>XP q r)
theorem OM(t:Tx)(r:Rd):EJ t r=M↔r∈t.reads:=by
 unfold EJ;rw[rD];exact⟨fun⟨q,hq,e⟩=>(zD q r).1 e▸hq,fun h=>⟨r,h,(zD r r).2 rfl⟩⟩
def Xs(t:Tx)(r:Rd):Int:=if GA t=0then(if XM r=0then(if EJ t r=M then 0 else(if t.reads.length=20then 11 else 0))else XM r)else GA t
def Yi(t:Tx)(r:Rd):Tx:=if Xs t r=0then(if EJ t r=M then t else⟨t.start,t.reads++[r],t.writes⟩)else F6
theorem gG{t:Tx}(h:qX t){r:Rd}(hr:XM r=0):Xs t r=if EJ t r=M then 0 else(if t.reads.length=20then 11 else 0):=by
 rw[Xs,if_pos ((uJ t).2 h),if_pos hr]
theorem fH{t:Tx}(h:qX t){r:Rd}(hr:XM r=0)(he:Xs t r=0):qX (Yi t r):=by
 rw[Yi,if_pos he];by_cases hh:EJ t r=M;·rw[if_pos hh];exact h
 ·rw[if_neg hh];rw[gG h hr,if_neg hh]at he;have hm:r∉t.reads:=fun e=>hh ((OM t r).2 e);(have h20:t.reads.length≠20:=fun e=>by rw[if_pos e]at he;omega);refine⟨h.start,?_,h.writes,fun x hx=>?_,?_,h.wrs,h.apart⟩;(·have:=h.reads;simp;omega);(·rcases tY.1 hx with hx|hx;(·exact h.each x hx);·simp only[tK,tQ,or_false]at hx;rw[hx];exact hr);·rw[pS];refine⟨h.once,by simp,fun a ha b hb e=>?_⟩;simp only[tK,tQ,or_false]at hb;subst hb;subst e;exact hm ha
def F3(l:List Zi)(w:Zi):Bool:=l.any (fun q=>ZQ q w)
def xP:List Zi->Zi->List Zi|[],w=>[w]|a::l,w=>if ZQ a w=M then w::l else a::xP l w
def Xm(t:Tx)(w:Zi):Int:=if GA t=0then(if QC w=0then(if F3 t.writes w=M then 0 else(if t.writes.length=10then 11 else 0))else QC w)else GA t
def YL(t:Tx)(w:Zi):Tx:=if Xm t w=0then⟨t.start,t.reads,xP t.writes w⟩else F6
theorem D9:∀(l:List Zi)(w:Zi),(xP l w).length=if F3 l w=M then l.length else l.length+1|[],w=>rfl|a::l,w=>by rw[xP,F3,pG];by_cases h:ZQ a w=M;(·rw[if_pos h,h];rfl);·rw[if_neg h,sM,D9 l w];(have hf:ZQ a w=N:=by simpa using h);rw[hf,Bool.false_or];show _=if F3 l w=M then _ else _;by_cases h2:F3 l w=M;(·rw[if_pos h2,if_pos h2];rfl);·rw[if_neg h2,if_neg h2];rfl
theorem Rb:∀(l:List Zi)(w x:Zi),x∈xP l w->x=w∨x∈l|[],w,x,h=>by simpa[xP]using h|a::l,w,x,h=>by rw[xP]at h;by_cases h1:ZQ a w=M;(·rw[if_pos h1]at h;rcases tK.1 h with h|h;(·exact .inl h);·exact .inr (sV _ h));·rw[if_neg h1]at h;rcases tK.1 h with h|h;(·exact .inr (by rw[h];exact rH ..));·exact(Rb l w x h).elim .inl fun h=>.inr (sV _ h)
theorem Cb{a b c:Zi}(h:RH a b)(k:RH b c):RH a c:=⟨h.1.trans k.1,h.2.trans k.2⟩
theorem TP:∀(l:List Zi)(w:Zi),NW l->NW (xP l w)|[],w,_=>List.pairwise_singleton ..|a::l,w,h=>by have h':=rI.1 h;rw[xP];by_cases h1:ZQ a w=M;(·rw[if_pos h1];exact rI.2 ⟨fun x hx e=>h'.1 x hx (Cb ((zP a w).1 h1) e),h'.2⟩);·rw[if_neg h1];refine rI.2 ⟨fun x hx e=>?_,TP l w h'.2⟩;rcases Rb l w x hx with rfl|hx;(·exact h1 ((zP _ _).2 e));·exact h'.1 x hx e
theorem O4{t:Tx}(h:qX t){w:Zi}(hw:QC w=0):Xm t w=if F3 t.writes w=M then 0 else(if t.writes.length=10then 11 else 0):=by
 rw[Xm,if_pos ((uJ t).2 h),if_pos hw]
theorem cS{t:Tx}(h:qX t){w:Zi}(hw:QC w=0)(he:Xm t w=0):qX (YL t w):=by
 rw[YL,if_pos he];rw[O4 h hw]at he;refine⟨h.start,h.reads,?_,h.each,h.once,fun x hx=>?_,TP _ _ h.apart⟩;·show(xP t.writes w).length<=10;rw[D9];have:=h.writes;by_cases hh:F3 t.writes w=M;(·rw[if_pos hh];exact this);·rw[if_neg hh]at he⊢;(have h10:t.writes.length≠10:=fun e=>by rw[if_pos e]at he;omega);omega
 ·rcases Rb _ _ _ hx with rfl|hx;(·exact hw);·exact h.wrs x hx
def lL(l:List Zi)(n k:List UInt8):Option Zi:=l.find? fun q=>tP (q.name=n)&&tP (q.key=k)
theorem OL{l:List Zi}{n k:List UInt8}{w:Zi}(h:lL l n k=I w):w∈l∧w.name=n∧w.key=k:=by
 refine⟨List.mem_of_find?_eq_some h,?_⟩;have:=List.find?_some h;simpa using this
def l5(a b k:List UInt8):Bool:=!YQ k a&&!YQ b k
def K6(n a b:List UInt8)(l:PL)(w:Zi):PL:=if w.name=n∧l5 a b w.key=M then(if w.gone=M then kT l w.key else Kn l (w.key,w.value))else l
def SI(n a b:List UInt8):PL->List Zi->PL|l,[]=>l|l,w::ws=>SI n a b (K6 n a b l w) ws
def uH(n a b:List UInt8):PL->List Zi->Int|_,[]=>0|l,w::ws=>if 60<(K6 n a b l w).length then 11 else uH n a b (K6 n a b l w) ws
def XZ(r:Rd)(w:Zi):Bool:=tP (r.name=w.name)&&(if r.wide=M then l5 r.key r.last w.key else tP (r.key=w.key))
def mJ(t:Tx)(ws:List Zi):Bool:=ws.any fun w=>t.reads.any fun r=>XZ r w
def aE(t:Tx)(l:List XO):Bool:=l.any fun c=>tP (t.start<c.turn)&&mJ t c.writes
def T0(t:Tx):Int:=GA t
def UN(t:Tx)(l:List XO):Bool:=if GA t=0then aE t l else N
def xI(l:FL)(t:Tx):Int:=if Q4 l=0then GA t else Q4 l
def KI(l:FL)(t:Tx)(n k:List UInt8):Int:=if xI l t=0then(if Qt n.length=0then Qn k.length else Qt n.length)else xI l t
def V1(l:FL)(t:Tx)(n k:List UInt8):Bool:=if KI l t n k=0then(lL t.writes n k).isSome else N
def Vh(l:FL)(t:Tx)(n k:List UInt8):Bool:=if KI l t n k=0then(match lL t.writes n k with|I w=>!w.gone|none=>Ve l n k)else N
def U3(l:FL)(t:Tx)(n k:List UInt8):List UInt8:=if KI l t n k=0then(match lL t.writes n k with|I w=>w.value|none=>Vg l n k)else[]
theorem Lh{l:FL}{t:Tx}(hl:Z6 l)(ht:qX t){n k:List UInt8}(hn:1<=n.length∧n.length<=8)(hk:1<=k.length∧k.length<=16):KI l t n k=0:=by
 rw[KI,xI,if_pos ((Xb l).2 hl),if_pos ((uJ t).2 ht),if_pos ((Zj _).2 hn),(Zc _).2 hk]
def KM(l:FL)(t:Tx)(n a b:List UInt8):Int:=if xI l t=0then(if Qt n.length=0then(if Qn a.length=0then(if Qn b.length=0then uH n a b (Vm (YE l n) a b) t.writes else Qn b.length)else Qn a.length)else Qt n.length)else xI l t
def Gh(l:FL)(t:Tx)(n a b:List UInt8):PL:=if KM l t n a b=0then SI n a b (Vm (YE l n) a b) t.writes else[]
structure Rp where
  sess : Int
  code : Int
  turn : Int
  found : Bool
  value : List UInt8
  pairs : PL
  pf : Option (FL × List UInt8 × List UInt8)
def G3(s:Nat)(e:Int):Rp:=⟨(s:Int),e,0,N,[],[],G⟩
def dB(s:Nat)(t:Int):Rp:=⟨(s:Int),0,t,N,[],[],G⟩
structure Sv where
  up : Bool
  tape : Gm
  commits : List XO
  synced : Nat
  begun : Nat -> Bool
  waits : Nat -> Bool
  txns : Nat -> Tx
  queue : List Nat
  out : List Rp
def Vj{α:Type}(f:Nat->α)(i:Nat)(x:α):Nat->α:=fun j=>if j=i then x else f j
theorem Xl{α:Type}(f:Nat->α)(i:Nat)(x:α):Vj f i x i=x:=by
 simp[Vj]
theorem Zo{α:Type}(f:Nat->α){i j:Nat}(x:α)(h:j≠i):Vj f i x j=f j:=by
 simp[Vj,h]
def Gp(up:Bool)(t:Gm)(cs:List XO)(o:List Rp):Sv:=⟨up,t,cs,cs.length,fun _=>N,fun _=>N,fun _=>F6,[],o⟩
def A9:Sv:=Gp M Gu [] []
def Z7(v:Sv)(r:Rp):Sv:={v with out:=v.out++[r]}
def QH(v:Sv)(n:Nat):FL:=qT [] (v.commits.take n)
def Vp(v:Sv)(s:Nat)(x:Rd)(o:Rp):Sv:=if Xs (v.txns s) x=0then Z7 {v with txns:=Vj v.txns s (Yi (v.txns s) x)} o else Z7 v (G3 s (Xs (v.txns s) x))
def yX(v:Sv)(s:Nat)(w:Zi):Sv:=Z7 (if Xm (v.txns s) w=0then{v with txns:=Vj v.txns s (YL (v.txns s) w)}else v) (G3 s (Xm (v.txns s) w))
def Dy(v:Sv)(s:Nat)(r:Rq):Sv:=if V1 (QH v (v.txns s).start.toNat) (v.txns s) r.name r.key=M then Z7 v ⟨(s:Int),0,(v.txns s).start,Vh (QH v (v.txns s).start.toNat) (v.txns s) r.name r.key,U3 (QH v (v.txns s).start.toNat) (v.txns s) r.name r.key,[],G⟩else Vp v s (Zx r) ⟨(s:Int),0,(v.txns s).start,Vh (QH v (v.txns s).start.toNat) (v.txns s) r.name r.key,U3 (QH v (v.txns s).start.toNat) (v.txns s) r.name r.key,[],G⟩
def FO(v:Sv)(s:Nat)(r:Rq):Sv:=if KM (QH v (v.txns s).start.toNat) (v.txns s) r.name r.key r.last=0then Vp v s (Zx r) ⟨(s:Int),0,(v.txns s).start,N,[],Gh (QH v (v.txns s).start.toNat) (v.txns s) r.name r.key r.last,G⟩else Z7 v (G3 s (KM (QH v (v.txns s).start.toNat) (v.txns s) r.name r.key r.last))
def FP(v:Sv)(s:Nat)(r:Rq):Sv:=if r.kind=4∨r.kind=5then yX v s (XH r)else if r.kind=2then Dy v s r else FO v s r
def Js(v:Sv)(s:Nat):XO:=⟨((v.commits.length+1:Nat):Int),(v.txns s).writes⟩
def XS(v:Sv)(s:Nat):Sv:={v with begun:=Vj v.begun s N}
def Kl(D:List UInt8->List UInt8)(v:Sv)(s:Nat):Sv:=if(v.txns s).writes.length=0then Z7 (XS v s) (dB s (v.txns s).start)else if v.queue.length=6∨v.commits.length=300then Z7 v (G3 s 11)else if UN (v.txns s) v.commits=M then Z7 (XS v s) (G3 s 9)else if QZ (QH v v.commits.length) (v.txns s).writes≠0then Z7 (XS v s) (G3 s (QZ (QH v v.commits.length) (v.txns s).writes))else if VG D v.tape (Js v s)≠0then Z7 (XS v s) (G3 s (VG D v.tape (Js v s)))else{XS v s with tape:=xE D v.tape (Js v s),commits:=v.commits++[Js v s],queue:=v.queue++[s],waits:=Vj v.waits s M}
def NA(v:Sv)(s:Nat)(r:Rq):Sv:=Z7 v ⟨(s:Int),0,(v.synced:Int),Ve (QH v v.synced) r.name r.key,Vg (QH v v.synced) r.name r.key,[],I (QH v v.synced,r.name,r.key)⟩
def QO(v:Sv)(s:Nat)(r:Rq):Bool:=v.waits s||(if r.kind=1then v.begun s else !v.begun s)
def Km(D:List UInt8->List UInt8)(v:Sv)(s:Nat)(r:Rq):Sv:=if r.kind=8then NA v s r else if QO v s r=M then Z7 v (G3 s 6)else if r.kind=1then Z7 {v with begun:=Vj v.begun s M,txns:=Vj v.txns s ⟨(v.synced:Int),[],[]⟩} (dB s (v.synced:Int))else if r.kind=7then Z7 (XS v s) (G3 s 0)else if Z8 (v.synced:Int) (v.txns s).start=N then Z7 (XS v s) (G3 s 10)else if r.kind=6then Kl D v s else FP v s r
def XA(D:List UInt8->List UInt8)(v:Sv)(s:Nat)(data:List UInt8):Sv:=if v.up=N then Z7 v (G3 s 13)else if QL data=0then Km D v s (Qw data)else Z7 v (G3 s (QL data))
def Gc:Nat->List Nat->List Rp|_,[]=>[]|n,s::q=>dB s ((n+1:Nat):Int)::Gc (n+1) q
def Vk(f:Nat->Bool)(q:List Nat):Nat->Bool:=fun j=>if j∈q then N else f j
def VS(v:Sv):Sv:={v with tape:=Kx v.tape,synced:=v.synced+v.queue.length,waits:=Vk v.waits v.queue,queue:=[],out:=v.out++Gc v.synced v.queue}
def UT(D:List UInt8->List UInt8)(v:Sv)(k:Int):Sv:=Gp N (xQ D (XC v.tape k)) (yW D (XC v.tape k)) v.out
def VA(D:List UInt8->List UInt8)(v:Sv)(a:Ac):Sv:=if a.kind=1then XA D v a.sess.toNat a.data else if a.kind=2then(if v.up=M then VS v else v)else if a.kind=3then(if v.up=M then UT D v a.keep else v)else{v with up:=M}
def Gq(D:List UInt8->List UInt8)(l:List Ac):Sv:=l.foldl (VA D) A9
theorem Wa(D:List UInt8->List UInt8)(l:List Ac)(a:Ac):Gq D (l++[a])=VA D (Gq D l) a:=by
 simp[Gq]
def qS(l:List Ac):Int:=Gz l
structure Oc where
  up : Bool
  turn : Int
  pending : Int
  forest : FL
  replies : List Rp
def Bf(v:Sv):Oc:=⟨v.up,(v.synced:Int),(v.queue.length:Int),QH v v.synced,v.out⟩
def Ic:Oc:=⟨N,0,0,[],[]⟩
def yF(D:List UInt8->List UInt8)(l:List Ac):Oc:=if qS l=0then Bf (Gq D l)else Ic
section
theorem Nh:∀{cs:List XO}{f:FL}{i:Nat},vX f i cs->zQ (i+1) cs|[],_,_,_=>trivial|_::_,_,_,h=>⟨by rw[h.2.1],h.1,Nh h.2.2.2⟩
theorem NP:∀{cs:List XO}{f:FL}{i:Nat}{c:XO},vX f i cs->Za c=0->c.turn=((i+cs.length+1:Nat):Int)->QZ (qT f cs) c.writes=0->vX f i (cs++[c])|[],_,_,_,_,h1,h2,h3=>⟨h1,by rw[h2];rfl,h3,trivial⟩|d::cs,f,i,c,h,h1,h2,h3=>⟨h.1,h.2.1,h.2.2.1,NP h.2.2.2 h1 (by rw[h2,sM];congr 1;omega) h3⟩
structure Zp (D : List UInt8 -> List UInt8) (v : Sv) : Prop where
  goes : vX [] 0 v.commits
  many : v.commits.length <= 300
  data : v.tape.data = Q6 D v.commits
  mark : v.tape.synced = ((Q6 D (v.commits.take v.synced)).length : Int)
  room : v.tape.data.length <= 200000
  turn : v.synced + v.queue.length = v.commits.length
  few : v.queue.length <= 6
  wait : ∀ s, v.waits s = M ↔ s ∈ v.queue
  once : v.queue.Nodup
  tx : ∀ s, v.begun s = M -> qX (v.txns s) ∧ (v.txns s).start <= (v.synced : Int)
  idle : ∀ s, v.waits s = M -> v.begun s = N
  down : v.up = N -> v.queue = [] ∧ ∀ s, v.begun s = N
variable{D:List UInt8->List UInt8}{v:Sv}
theorem Zp.tell(h:Zp D v)(r:Rp):Zp D (Z7 v r):=⟨h.goes,h.many,h.data,h.mark,h.room,h.turn,h.few,h.wait,h.once,h.tx,h.idle,h.down⟩
theorem Nc{f:Nat->Bool}{s j:Nat}(h:Vj f s N j=M):j≠s∧f j=M:=by
 by_cases e:j=s;·rw[e,Xl]at h;cases h
 ·exact⟨e,by rwa[Zo f _ e]at h⟩
theorem Zp.end(h:Zp D v)(s:Nat):Zp D (XS v s):=by
 refine⟨h.goes,h.many,h.data,h.mark,h.room,h.turn,h.few,h.wait,h.once,fun j hj=>h.tx j (Nc hj).2,fun j hj=>?_,fun hu=>⟨(h.down hu).1,fun j=>?_⟩⟩;·show Vj v.begun s N j=N;by_cases e:j=s;(·rw[e,Xl]);·rw[Zo _ _ e];exact h.idle j hj
 ·show Vj v.begun s N j=N;by_cases e:j=s;(·rw[e,Xl]);·rw[Zo _ _ e];exact(h.down hu).2 j
theorem Zp.txn(h:Zp D v){s:Nat}{t:Tx}(ht:qX t)(hs:t.start<=(v.synced:Int)):Zp D {v with txns:=Vj v.txns s t}:=by
 refine⟨h.goes,h.many,h.data,h.mark,h.room,h.turn,h.few,h.wait,h.once,fun j hj=>?_,h.idle,h.down⟩;show qX (Vj v.txns s t j)∧(Vj v.txns s t j).start<=_;by_cases e:j=s;·rw[e,Xl];exact⟨ht,hs⟩
 ·rw[Zo _ _ e];exact h.tx j hj
theorem Zp.may(h:Zp D v):GP v.tape=M:=by
 refine(KP _).2 ⟨h.room,?_⟩;rw[h.mark,h.data];have:=UZ D v.commits v.synced v.commits.length (by have:=h.turn;omega);rw[sC]at this;omega
theorem uG{t:Tx}{r:Rd}(h:Xs t r=0):(Yi t r).start=t.start:=by
 rw[Yi,if_pos h];split<;>rfl
theorem Cz{t:Tx}{w:Zi}(h:Xm t w=0):(YL t w).start=t.start:=by
 rw[YL,if_pos h]
theorem Zp.note(h:Zp D v){s:Nat}(hb:v.begun s=M){x:Rd}(hx:XM x=0)(o:Rp):Zp D (Vp v s x o):=by
 obtain⟨h1,h2⟩:=h.tx s hb;unfold Vp;by_cases e:Xs (v.txns s) x=0;·rw[if_pos e];exact(h.txn (fH h1 hx e) (by rw[uG e];exact h2)).tell _
 ·rw[if_neg e];exact h.tell _
theorem Zp.write(h:Zp D v){s:Nat}(hb:v.begun s=M){w:Zi}(hw:QC w=0):Zp D (yX v s w):=by
 obtain⟨h1,h2⟩:=h.tx s hb;unfold yX;by_cases e:Xm (v.txns s) w=0;·rw[if_pos e];exact(h.txn (cS h1 hw e) (by rw[Cz e];exact h2)).tell _
 ·rw[if_neg e];exact h.tell _
theorem uK{r:Rq}(h:Y6 r)(hk:r.kind=2∨r.kind=3):XM (Zx r)=0:=bD (by
 rw[(D0 h).1,if_pos hk])
theorem Wj{r:Rq}(h:Y6 r)(hk:r.kind=4∨r.kind=5):QC (XH r)=0:=E9 (by
 rw[(D0 h).2,if_pos hk])
theorem Zp.work(h:Zp D v){s:Nat}(hb:v.begun s=M){r:Rq}(hr:Y6 r)(hk:2<=r.kind∧r.kind<=5):Zp D (FP v s r):=by
 unfold FP;by_cases h1:r.kind=4∨r.kind=5;·rw[if_pos h1];exact h.write hb (Wj hr h1)
 ·rw[if_neg h1];by_cases h2:r.kind=2;(·rw[if_pos h2];unfold Dy;split;(·exact h.tell _);·exact h.note hb (uK hr (.inl h2)) _);·rw[if_neg h2];unfold FO;split;(·exact h.note hb (uK hr (.inr (by omega))) _);·exact h.tell _
theorem Cu{t:Tx}(ht:qX t)(hw:¬t.writes.length=0)(n:Nat)(hn:n<=300):Za ⟨((n+1:Nat):Int),t.writes⟩=0:=(K2 _).2 ⟨by
 show(1:Int)<=((n+1:Nat):Int)∧((n+1:Nat):Int)<=1048576;omega,⟨by
 show 1<=t.writes.length;omega,ht.writes⟩,ht.wrs⟩
theorem Bm(h:Zp D v){s:Nat}(hb:v.begun s=M)(h1:¬(v.txns s).writes.length=0)(h2:¬(v.queue.length=6∨v.commits.length=300))(h4:QZ (QH v v.commits.length) (v.txns s).writes=0)(h5:VG D v.tape (Js v s)=0):Zp D {XS v s with tape:=xE D v.tape (Js v s),commits:=v.commits++[Js v s],queue:=v.queue++[s],waits:=Vj v.waits s M}:=by
 obtain⟨ht,hst⟩:=h.tx s hb;have hm:=h.many;have hc:Za (Js v s)=0:=Cu ht h1 _ hm;have hmay:=h.may;have hroom:v.tape.data.length+(ZJ D (Js v s)).length<=200000:=by rw[VG,if_pos hmay,if_pos hc]at h5;by_cases e:200000<v.tape.data.length+(ZJ D (Js v s)).length;(·rw[if_pos e]at h5;exact absurd h5 (by decide));·omega
 have hT:xE D v.tape (Js v s)=⟨v.tape.data++ZJ D (Js v s),v.tape.synced⟩:=by rw[xE,if_pos h5]
 have hnw:v.waits s≠M:=fun e=>by have:=h.idle s e;rw[hb]at this;cases this
 have hnq:s∉v.queue:=fun e=>hnw ((h.wait s).2 e);have hup:v.up=M:=by cases hu:v.up with|true=>rfl|false=>have:=(h.down hu).2 s;rw[hb]at this;cases this
 have htn:=h.turn;rw[hT];refine⟨?_,?_,?_,?_,?_,?_,?_,?_,?_,?_,?_,?_⟩;·refine NP h.goes hc (by show((v.commits.length+1:Nat):Int)=_;congr 1;omega) ?_;rw[QH,sC]at h4;exact h4
 ·show(v.commits++[Js v s]).length<=300;rw[tB,tZ];omega
 ·show v.tape.data++ZJ D (Js v s)=Q6 D (v.commits++[Js v s]);rw[VK,PW,h.data]
 ·show v.tape.synced=((Q6 D ((v.commits++[Js v s]).take v.synced)).length:Int);rw[List.take_append_of_le_length (by omega)];exact h.mark
 ·show(v.tape.data++ZJ D (Js v s)).length<=200000;rw[tB];exact hroom
 ·show v.synced+(v.queue++[s]).length=(v.commits++[Js v s]).length;rw[tB,tB,tZ,tZ];omega
 ·show(v.queue++[s]).length<=6;have:=h.few;rw[tB,tZ];omega
 ·intro j;show Vj v.waits s M j=M↔j∈v.queue++[s];by_cases e:j=s;(·rw[e,Xl];simp);·rw[Zo _ _ e,h.wait j];simp[e]
 ·show(v.queue++[s]).Nodup;rw[pS];exact⟨h.once,by simp,fun a ha b hb e=>hnq (by simp at hb;rw[<-hb,<-e];exact ha)⟩
 ·intro j hj;exact h.tx j (Nc hj).2
 ·intro j hj;show Vj v.begun s N j=N;by_cases e:j=s;(·rw[e,Xl]);·rw[Zo _ _ e];exact h.idle j (by have:Vj v.waits s M j=M:=hj;rwa[Zo _ _ e]at this)
 ·intro hu;have:v.up=N:=hu;rw[hup]at this;cases this
theorem Zp.commit(h:Zp D v){s:Nat}(hb:v.begun s=M):Zp D (Kl D v s):=by
 unfold Kl;by_cases h1:(v.txns s).writes.length=0;·rw[if_pos h1];exact(h.end s).tell _
 ·rw[if_neg h1];by_cases h2:v.queue.length=6∨v.commits.length=300;(·rw[if_pos h2];exact h.tell _);·rw[if_neg h2];by_cases h3:UN (v.txns s) v.commits=M;(·rw[if_pos h3];exact(h.end s).tell _);·rw[if_neg h3];by_cases h4:QZ (QH v v.commits.length) (v.txns s).writes≠0;(·rw[if_pos h4];exact(h.end s).tell _);·rw[if_neg h4];by_cases h5:VG D v.tape (Js v s)≠0;(·rw[if_pos h5];exact(h.end s).tell _);·rw[if_neg h5];exact Bm h hb h1 h2 (sQ h4) (sQ h5)
theorem Zp.req(h:Zp D v)(hup:v.up=M)(s:Nat){r:Rq}(hr:Y6 r):Zp D (Km D v s r):=by
 unfold Km;by_cases h1:r.kind=8;·rw[if_pos h1];exact h.tell _
 ·rw[if_neg h1];by_cases h2:QO v s r=M;(·rw[if_pos h2];exact h.tell _);·rw[if_neg h2];(have h2':v.waits s=N∧(if r.kind=1then v.begun s else !v.begun s)=N:=by unfold QO at h2;cases hw:v.waits s;(·rw[hw]at h2;exact⟨rfl,by simpa using h2⟩);·rw[hw]at h2;exact absurd rfl h2);by_cases h3:r.kind=1;(·rw[if_pos h3];refine Zp.tell ?_ _;have hm:=h.many;have htn:=h.turn;refine⟨h.goes,h.many,h.data,h.mark,h.room,h.turn,h.few,h.wait,h.once,fun j hj=>?_,fun j hj=>?_,fun hu=>?_⟩;(·show qX (Vj v.txns s _ j)∧(Vj v.txns s _ j).start<=_;by_cases e:j=s;(·rw[e,Xl];exact⟨⟨by show(0:Int)<=(v.synced:Int)∧(v.synced:Int)<=1048576;omega,by simp,by simp,by simp,by simp,by simp,by simp[NW]⟩,Int.le_refl _⟩);·rw[Zo _ _ e];exact h.tx j (by have:Vj v.begun s M j=M:=hj;rwa[Zo _ _ e]at this));(·show Vj v.begun s M j=N;have hj':v.waits j=M:=hj;by_cases e:j=s;(·rw[e,h2'.1]at hj';cases hj');·rw[Zo _ _ e];exact h.idle j hj');·have:v.up=N:=hu;rw[hup]at this;cases this);·rw[if_neg h3];(have hb:v.begun s=M:=by have:=h2'.2;rw[if_neg h3]at this;simpa using this);by_cases h4:r.kind=7;(·rw[if_pos h4];exact(h.end s).tell _);·rw[if_neg h4];by_cases h5:Z8 (v.synced:Int) (v.txns s).start=N;(·rw[if_pos h5];exact(h.end s).tell _);·rw[if_neg h5];by_cases h6:r.kind=6;(·rw[if_pos h6];exact h.commit hb);·rw[if_neg h6];have hk:=hr.kind;exact h.work hb hr (by omega)
theorem Zp.ask(h:Zp D v)(s:Nat)(d:List UInt8):Zp D (XA D v s d):=by
 unfold XA;by_cases h1:v.up=N;·rw[if_pos h1];exact h.tell _
 ·rw[if_neg h1];by_cases h2:QL d=0;(·rw[if_pos h2];exact h.req (by simpa using h1) s ((YM _).1 (YY h2).1));·rw[if_neg h2];exact h.tell _
theorem Zp.sync(h:Zp D v):Zp D (VS v):=by
 have hm:=h.may;have htn:=h.turn;refine⟨h.goes,h.many,?_,?_,?_,?_,by simp[VS],?_,by simp[VS],?_,?_,?_⟩;·show(Kx v.tape).data=_;rw[Kx,if_pos hm];exact h.data
 ·show(Kx v.tape).synced=((Q6 D (v.commits.take (v.synced+v.queue.length))).length:Int);rw[Kx,if_pos hm,htn,sC,<-h.data]
 ·show(Kx v.tape).data.length<=_;rw[Kx,if_pos hm];exact h.room
 ·show v.synced+v.queue.length+([]:List Nat).length=v.commits.length;simpa using htn
 ·intro j;show Vk v.waits v.queue j=M↔j∈([]:List Nat);rw[Vk];constructor;(·intro e;split at e;(·cases e);·rename_i hq;exact absurd ((h.wait j).1 e) hq);·intro e;simp at e
 ·intro j hj;obtain⟨h1,h2⟩:=h.tx j hj;exact⟨h1,by show _<=((v.synced+v.queue.length:Nat):Int);have:(v.txns j).start<=(v.synced:Int):=h2;show(v.txns j).start<=_;omega⟩
 ·intro j hj;have:Vk v.waits v.queue j=M:=hj;rw[Vk]at this;split at this;(·cases this);·exact h.idle j this
 ·intro hu;exact⟨rfl,(h.down hu).2⟩
theorem LZ{up:Bool}{t:Gm}{cs:List XO}{o:List Rp}(hg:vX [] 0 cs)(hm:cs.length<=300)(hd:t=⟨Q6 D cs,((Q6 D cs).length:Int)⟩)(hr:(Q6 D cs).length<=200000):Zp D (Gp up t cs o):=by
 subst hd;refine⟨hg,hm,rfl,?_,hr,rfl,by simp[Gp],fun s=>by simp[Gp],by simp[Gp],fun s hs=>by simp[Gp]at hs,fun s hs=>by simp[Gp]at hs,fun _=>⟨rfl,fun _=>rfl⟩⟩;show((Q6 D cs).length:Int)=((Q6 D (cs.take cs.length)).length:Int);rw[sC]
theorem Av(D:List UInt8->List UInt8):Zp D A9:=LZ trivial (by
 simp) rfl (by
 simp[Q6])
theorem zB(hD:∀x,(D x).length=4)(h:Zp D v){k:Int}(hk:0<=k):∃j,v.synced<=j∧j<=v.commits.length∧UT D v k=Gp N ⟨Q6 D (v.commits.take j),((Q6 D (v.commits.take j)).length:Int)⟩ (v.commits.take j) v.out∧(k=0->j=v.synced):=by
 have hm:=h.may;obtain⟨m1,m2,m3⟩:=(KP _).1 hm;have hit:zQ 1 v.commits:=Nh h.goes;have htn:=h.turn;have hce:Uw v.tape k=0:=by rw[Uw,if_pos hm,if_neg (by omega)]
 have hcn:XE v.tape k<=v.tape.data.length∧v.tape.synced<=(XE v.tape k:Int):=by rw[XE];split<;>omega
 have hcT:XC v.tape k=⟨(Q6 D v.commits).take (XE v.tape k),(XE v.tape k:Int)⟩:=by rw[XC,if_pos hce,h.data]
 have hrl:(Q6 D v.commits).length<=200000:=by rw[<-h.data];exact h.room
 obtain⟨j,h1,h2,h3,_,h5,h6⟩:=aB hD hit (XE v.tape k) (XE v.tape k:Int) (by rw[<-h.data];exact hcn.1) (by omega) hrl;have hsj:v.synced<=j:=by refine Ec (D:=D) (cs:=v.commits) (k:=XE v.tape k) (by omega) h3 ?_;have:=h.mark;omega
 have e:(if(XE v.tape k:Int)>((Q6 D (v.commits.take j)).length:Int)then((Q6 D (v.commits.take j)).length:Int)else(XE v.tape k:Int))=((Q6 D (v.commits.take j)).length:Int):=by split<;>omega
 refine⟨j,hsj,h1,?_,?_⟩;·rw[UT,hcT,h5,h6,e]
 ·intro hk0;by_cases hj:j=v.synced;(·exact hj);·exfalso;(have hn:(XE v.tape k:Int)=v.tape.synced:=by rw[XE,hk0];split<;>omega);have g1:=UZ D v.commits (v.synced+1) j (by omega);have g2:=Af D v.commits v.synced (by omega);have hc:=(h.goes.at v.synced (by omega)).1;have g3:=(Bq hD hc).1;have hmk:=h.mark;rw[g2,tB]at g1;omega
theorem Zp.crash(hD:∀x,(D x).length=4)(h:Zp D v){k:Int}(hk:0<=k):Zp D (UT D v k):=by
 obtain⟨j,h1,h2,h3,_⟩:=zB hD h hk;have hm:=h.many;have hle:=UZ D v.commits j v.commits.length h2;rw[sC,<-h.data]at hle;have hr:=h.room;rw[h3];exact LZ (h.goes.take j) (by rw[pA];omega) rfl (by omega)
theorem Zp.start(h:Zp D v):Zp D {v with up:=M}:=⟨h.goes,h.many,h.data,h.mark,h.room,h.turn,h.few,h.wait,h.once,h.tx,h.idle,fun hu=>by
 cases hu⟩
theorem Zp.act(hD:∀x,(D x).length=4)(h:Zp D v){a:Ac}(ha:K8 a):Zp D (VA D v a):=by
 unfold VA;by_cases h1:a.kind=1;·rw[if_pos h1];exact h.ask _ _
 ·rw[if_neg h1];by_cases h2:a.kind=2;(·rw[if_pos h2];split;(·exact h.sync);·exact h);·rw[if_neg h2];by_cases h3:a.kind=3;(·rw[if_pos h3];split;(·exact h.crash hD (ha.keep h3).1);·exact h);·rw[if_neg h3];exact h.start
theorem Na(hD:∀x,(D x).length=4):∀(l:List Ac)(v:Sv),Zp D v->(∀a∈l,K8 a)->Zp D (l.foldl (VA D) v)|[],_,h,_=>h|a::l,v,h,ha=>Na hD l _ (h.act hD (ha a (by simp))) (fun x hx=>ha x (by simp[hx]))
theorem DW(hD:∀x,(D x).length=4)(l:List Ac)(h:∀a∈l,K8 a):Zp D (Gq D l):=Na hD l A9 (Av D) h
end
structure Same (v u : Sv) : Prop where
  up : u.up = v.up
  tape : u.tape = v.tape
  commits : u.commits = v.commits
  synced : u.synced = v.synced
  waits : u.waits = v.waits
  queue : u.queue = v.queue
structure fS (s : Nat) (v u : Sv) : Prop extends Same v u where
  out : ∃ r, u.out = v.out ++ [r] ∧ r.sess = (s : Int)
  begun : ∀ j, j ≠ s -> u.begun j = v.begun j
  txns : ∀ j, j ≠ s -> u.txns j = v.txns j
theorem Uk(v:Sv)(s:Nat)(r:Rp)(h:r.sess=(s:Int)):fS s v (Z7 v r):=⟨⟨rfl,rfl,rfl,rfl,rfl,rfl⟩,⟨r,rfl,h⟩,fun _ _=>rfl,fun _ _=>rfl⟩
theorem jG(v:Sv)(s:Nat)(r:Rp)(h:r.sess=(s:Int)):fS s v (Z7 (XS v s) r):=⟨⟨rfl,rfl,rfl,rfl,rfl,rfl⟩,⟨r,rfl,h⟩,fun _ hj=>Zo _ _ hj,fun _ _=>rfl⟩
theorem LI(v:Sv)(s:Nat)(t:Tx)(r:Rp)(h:r.sess=(s:Int)):fS s v (Z7 {v with txns:=Vj v.txns s t} r):=⟨⟨rfl,rfl,rfl,rfl,rfl,rfl⟩,⟨r,rfl,h⟩,fun _ _=>rfl,fun _ hj=>Zo _ _ hj⟩
theorem DX(v:Sv)(s:Nat)(x:Rd)(o:Rp)(h:o.sess=(s:Int)):fS s v (Vp v s x o):=by
 unfold Vp;split;·exact LI v s _ _ h
 ·exact Uk v s _ rfl
theorem WS(v:Sv)(s:Nat)(w:Zi):fS s v (yX v s w):=by
 unfold yX;split;·exact LI v s _ _ rfl
 ·exact Uk v s _ rfl
theorem Ou(v:Sv)(s:Nat)(r:Rq):fS s v (FP v s r):=by
 unfold FP;split;·exact WS v s _
 ·split;(·unfold Dy;split;(·exact Uk v s _ rfl);·exact DX v s _ _ rfl);·unfold FO;split;(·exact DX v s _ _ rfl);·exact Uk v s _ rfl
structure OW (D : List UInt8 -> List UInt8) (s : Nat) (v u : Sv) : Prop where
  up : u.up = v.up
  tape : u.tape = xE D v.tape (Js v s)
  commits : u.commits = v.commits ++ [Js v s]
  synced : u.synced = v.synced
  waits : u.waits = Vj v.waits s M
  queue : u.queue = v.queue ++ [s]
  out : u.out = v.out
  begun : u.begun = Vj v.begun s N
  txns : u.txns = v.txns
  full : (v.txns s).writes.length ≠ 0
  room : v.queue.length ≠ 6 ∧ v.commits.length ≠ 300
  clash : UN (v.txns s) v.commits = N
  fits : QZ (QH v v.commits.length) (v.txns s).writes = 0
  app : VG D v.tape (Js v s) = 0
theorem IU(D:List UInt8->List UInt8)(v:Sv)(s:Nat):fS s v (Kl D v s)∨OW D s v (Kl D v s):=by
 unfold Kl;by_cases h1:(v.txns s).writes.length=0;·rw[if_pos h1];exact .inl (jG v s _ rfl)
 ·rw[if_neg h1];by_cases h2:v.queue.length=6∨v.commits.length=300;(·rw[if_pos h2];exact .inl (Uk v s _ rfl));·rw[if_neg h2];by_cases h3:UN (v.txns s) v.commits=M;(·rw[if_pos h3];exact .inl (jG v s _ rfl));·rw[if_neg h3];by_cases h4:QZ (QH v v.commits.length) (v.txns s).writes≠0;(·rw[if_pos h4];exact .inl (jG v s _ rfl));·rw[if_neg h4];by_cases h5:VG D v.tape (Js v s)≠0;(·rw[if_pos h5];exact .inl (jG v s _ rfl));·rw[if_neg h5];exact .inr ⟨rfl,rfl,rfl,rfl,rfl,rfl,rfl,rfl,rfl,h1,⟨fun e=>h2 (.inl e),fun e=>h2 (.inr e)⟩,by simpa using h3,sQ h4,sQ h5⟩
theorem iI(D:List UInt8->List UInt8)(v:Sv)(s:Nat)(r:Rq):fS s v (Km D v s r)∨(r.kind=6∧QO v s r=N∧OW D s v (Km D v s r)):=by
 unfold Km;by_cases h1:r.kind=8;·rw[if_pos h1];exact .inl (Uk v s _ rfl)
 ·rw[if_neg h1];by_cases h2:QO v s r=M;(·rw[if_pos h2];exact .inl (Uk v s _ rfl));·rw[if_neg h2];by_cases h3:r.kind=1;(·rw[if_pos h3];exact .inl ⟨⟨rfl,rfl,rfl,rfl,rfl,rfl⟩,⟨_,rfl,rfl⟩,fun _ hj=>Zo _ _ hj,fun _ hj=>Zo _ _ hj⟩);·rw[if_neg h3];by_cases h4:r.kind=7;(·rw[if_pos h4];exact .inl (jG v s _ rfl));·rw[if_neg h4];by_cases h5:Z8 (v.synced:Int) (v.txns s).start=N;(·rw[if_pos h5];exact .inl (jG v s _ rfl));·rw[if_neg h5];by_cases h6:r.kind=6;(·rw[if_pos h6];rcases IU D v s with h|h;(·exact .inl h);·exact .inr ⟨h6,by simpa using h2,h⟩);·rw[if_neg h6];exact .inl (Ou v s r)
theorem iG(D:List UInt8->List UInt8)(v:Sv)(s:Nat)(d:List UInt8):fS s v (XA D v s d)∨(v.up=M∧QL d=0∧(Qw d).kind=6∧v.waits s=N∧v.begun s=M∧OW D s v (XA D v s d)):=by
 unfold XA;by_cases h1:v.up=N;·rw[if_pos h1];exact .inl (Uk v s _ rfl)
 ·rw[if_neg h1];by_cases h2:QL d=0;(·rw[if_pos h2];rcases iI D v s (Qw d)with h|⟨h3,h4,h5⟩;(·exact .inl h);·right;unfold QO at h4;rw[if_neg (by omega)]at h4;simp only[rT,Bool.not_eq_false']at h4;exact⟨by simpa using h1,h2,h3,h4.1,h4.2,h5⟩);·rw[if_neg h2];exact .inl (Uk v s _ rfl)
theorem Fk:∀(q:List Nat)(n:Nat),(Gc n q).length=q.length|[],_=>rfl|_::q,n=>by rw[Gc,sM,sM,Fk q]
structure Gr where
  kind : Int
  sess : Int
  name : Int
  key : Int
  value : Int
def UF(n:Int)(many:Nat):Nat:=if n<0then((-(n+1))%(many:Int)).toNat else(n%(many:Int)).toNat
theorem yD(n:Int){many:Nat}(h:0<many):UF n many<many:=by
 unfold UF;split;·have b0:=oG (-(n+1)) (show(many:Int)≠0 by omega);have b1:=pT (-(n+1)) (show(0:Int)<many by omega);omega
 ·have b0:=oG n (show(many:Int)≠0 by omega);have b1:=pT n (show(0:Int)<many by omega);omega
def gW(n:Int):List UInt8:=[rB (97+UF n 3)]
def iX(n:Int):List UInt8:=[rB (107+UF n 5)]
def mU(n:Int):List UInt8:=[rB (UF n 50)]
def Ey(k:Nat)(a b c d:List UInt8):Rq:=if k<4then⟨1,[],[],[],[]⟩else if k<7then⟨2,a,b,[],[]⟩else if k=7then⟨3,a,b,c,[]⟩else if k<12then⟨4,a,b,[],d⟩else if k=12then⟨5,a,b,[],[]⟩else if k<17then⟨6,[],[],[],[]⟩else if k=17then⟨7,[],[],[],[]⟩else⟨8,a,b,[],[]⟩
def Iy(g:Gr):Rq:=Ey (UF g.kind 20) (gW g.name) (iX g.key) (iX g.value) (mU g.value)
theorem gH{r:Rq}(h:Y6 r):yK r=KH r:=by
 rw[yK,if_pos ((YM r).2 h)]
structure Ga (l : FL) : Prop where
  many : l.length * 48 <= 140737488355328
  each : ∀ i, i < l.length -> (l.getD i ([], [])).1.length <= 140737488355328 ∧ kN (l.getD i ([], [])).2
theorem Ga.len{l:FL}(h:Ga l):l.length<=140737488355328:=by
 have:=h.many;omega
theorem Z6.fits{l:FL}(h:Z6 l):Ga l:=by
 refine⟨by have:=h.room;omega,fun i hi=>?_⟩;have:=h.tens l[i] (sN hi);rw[show l[i]=l.getD i ([],[])by simp[hi]]at this;exact⟨by omega,this.2.2.fits⟩
def D5(w:F)(b o:Nat)(t:Tn):Prop:=∃vn vp,w.cell? ⟨b,o,G⟩=I vn∧w.cell? ⟨b,o+1,G⟩=I vp∧Qe w vn t.1∧Qq w vp t.2
theorem D5.grown{w w':F}{b o:Nat}{t:Tn}(h:D5 w b o t)(hg:L w w' G):D5 w' b o t:=by
 obtain⟨vn,vp,c1,c2,h1,h2⟩:=h;exact⟨vn,vp,hg.cell c1 (by simp),hg.cell c2 (by simp),h1.grown hg,h2.grown hg⟩
def ZK(w:F)(v:H)(l:FL):Prop:=∃a cap,v=J a l.length cap∧l.length<=cap∧((l=[]∧(a=G->cap=0))∨∃b o,a=I ⟨b,o,G⟩∧∀i,i<l.length->D5 w b (o+i*2) (l.getD i ([],[])))
theorem V6(w:F):ZK w (J G 0 0) []:=⟨G,0,rfl,sA _,.inl ⟨rfl,fun _=>rfl⟩⟩
theorem ZK.grown{w w':F}{v:H}{l:FL}(h:ZK w v l)(hg:L w w' G):ZK w' v l:=by
 obtain⟨a,cap,rfl,hc,h⟩:=h;refine⟨a,cap,rfl,hc,?_⟩;rcases h with h|⟨b,o,rfl,h⟩;·exact .inl h
 ·exact .inr ⟨b,o,rfl,fun i hi=>(h i hi).grown hg⟩
theorem ZK.shape{w:F}{v:H}{l:FL}(h:ZK w v l):∃a cap,v=J a l.length cap:=by
 obtain⟨a,cap,rfl,_⟩:=h;exact⟨a,cap,rfl⟩
theorem ZK.at{w:F}{a:Option rC}{n cap:Nat}{l:FL}(h:ZK w (J a n cap) l)(i:Nat)(hi:i<l.length):∃b o,a=I ⟨b,o,G⟩∧D5 w b (o+i*2) (l.getD i ([],[])):=by
 obtain⟨a',cap',e,hc,h⟩:=h;simp only[tG]at e;obtain⟨rfl,rfl,rfl⟩:=e;rcases h with⟨rfl,_⟩|⟨b,o,rfl,h⟩;·simp at hi
 ·exact⟨b,o,rfl,h i hi⟩
theorem gP:(99:Nat)≠5:=by
 decide
theorem gL:(99:Nat)≠44:=by
 decide
def ZG(base:Nat)(w:F)(v:H)(l:FL):Prop:=∃vs:List (H×H),vs.length=l.length∧w.ownsRow base 99 2 v l.length (flat vs)∧∀i,i<l.length->Qh 0 w (vs.getD i (sI,sI)).1 (l.getD i ([],[])).1∧QP 0 w (vs.getD i (sI,sI)).2 (l.getD i ([],[])).2
theorem yU(base:Nat)(w:F):ZG base w (J G 0 0) []:=⟨[],rfl,sR _ _ _ _,fun i hi=>by
 simp at hi⟩
theorem ZG.row{base:Nat}{w:F}{v:H}{l:FL}(h:ZG base w v l):v.ownBlock=G∨∃g cur t fz,v.ownBlock=I g∧base<=g∧w.heap[g]?=I (S cur t fz)∧t≠5∧t≠44:=by
 obtain⟨vs,_,h,_⟩:=h;rcases h.2with⟨rfl,_⟩|⟨g,cap,cur,rfl,hb,hg,_⟩;·exact .inl rfl
 ·exact .inr ⟨g,cur,_,_,rfl,hb,hg,gP,gL⟩
theorem ZG.row0{base:Nat}{w:F}{v:H}{l:FL}(h:ZG base w v l):v.ownBlock=G∨∃g cur t fz,v.ownBlock=I g∧0<=g∧w.heap[g]?=I (S cur t fz)∧t≠5∧t≠44:=by
 rcases h.row with h|⟨g,cur,t,fz,h1,_,h3⟩;·exact .inl h
 ·exact .inr ⟨g,cur,t,fz,h1,tS _,h3⟩
theorem lC{base:Nat}{w:F}{r:Option Nat}(h:r=G∨∃g cur t fz,r=I g∧base<=g∧w.heap[g]?=I (S cur t fz)∧t≠5∧t≠44):r=G∨∃g cur t fz,r=I g∧base<=g∧w.heap[g]?=I (S cur t fz)∧t≠5:=by
 rcases h with h|⟨g,cur,t,fz,h1,h2,h3,h4,_⟩;·exact .inl h
 ·exact .inr ⟨g,cur,t,fz,h1,h2,h3,h4⟩
theorem ZG.lt{base:Nat}{w:F}{v:H}{l:FL}(h:ZG base w v l):∀k,v.ownBlock=I k->base<=k∧k<w.heap.size:=by
 obtain⟨vs,_,h,_⟩:=h;exact sK h
theorem ZG.grownNone{base:Nat}{w w':F}{v:H}{l:FL}(h:ZG base w v l)(hg:L w w' G):ZG base w' v l:=by
 obtain⟨vs,h1,h2,h3⟩:=h;refine⟨vs,h1,tX h2 hg ?_,fun i hi=>⟨((h3 i hi).1).keptT hg (.inl rfl),((h3 i hi).2).kept hg (.inl rfl)⟩⟩;cases hv:v.ownBlock with|none=>exact .inl rfl|some k=>exact .inr (by simp)
theorem ZG.alloc{base:Nat}{w:F}{v:H}{l:FL}(h:ZG base w v l)(o:Obj):ZG base (w.alloc o) v l:=h.grownNone (rA _ _ _)
theorem ZG.shape{base:Nat}{w:F}{v:H}{l:FL}(h:ZG base w v l):∃a cap,v=J a l.length cap:=by
 obtain⟨vs,_,h,_⟩:=h;rcases h.2with⟨rfl,h0⟩|⟨g,cap,cur,rfl,_⟩;·exact⟨G,0,by rw[h0]⟩
 ·exact⟨_,cap,rfl⟩
theorem ZG.cells{base:Nat}{w:F}{g n cap:Nat}{vs:List (H×H)}{l:FL}(hr:w.ownsRow base 99 2 (J (I ⟨g,0,G⟩) n cap) l.length (flat vs)):∀j u,(flat vs)[j]?=I u->w.cell? ⟨g,j,G⟩=I u:=by
 intro j u hj;rcases hr.2with⟨e,_⟩|⟨g',cap',cur,e,hb,hg,hn,hm,hs,ht⟩;·cases e
 ·simp only[tG,Y,rK]at e;obtain⟨⟨rfl,_⟩,_,_⟩:=e;(have hlt:j<l.length*2:=by have:=(sH.1 hj).1;rw[hr.1]at this;exact this);(have e2:(cur.toList.take (l.length*2))[j]?=(flat vs)[j]?:=by rw[ht]);rw[sB,if_pos hlt,hj]at e2;simp[tR,hg];simpa using e2
theorem ZG.list{base:Nat}{w:F}{v:H}{l:FL}(h:ZG base w v l):ZK w v l:=by
 obtain⟨vs,hl,hr,h3⟩:=h;have hr':=hr;rcases hr.2with⟨rfl,h0⟩|⟨g,cap,cur,rfl,hb,hg,hn,hm,hs,ht⟩;·have:l=[]:=tJ h0;subst this;exact V6 w
 ·refine⟨_,cap,rfl,hn,.inr ⟨g,0,rfl,fun i hi=>?_⟩⟩;have hf:=yC vs i (by omega);refine⟨(vs.getD i (sI,sI)).1,(vs.getD i (sI,sI)).2,?_,?_,(h3 i hi).1.1,(h3 i hi).2.list⟩;(·have:=ZG.cells hr' _ _ hf.1;rw[sL];exact this);·have:=ZG.cells hr' _ _ hf.2;rw[sL];exact this
theorem Ri{base:Nat}{w W w1:F}{v:H}{l:FL}(h:L w W G)(ho:ZG base W v l)(hb:w.heap.size<=base)(hg:L W w1 v.ownBlock):L w w1 G:=⟨hg.os.trans h.os,hg.tape.trans h.tape,hg.output.trans h.output,tN h.size hg.size,fun i hi hn=>(hg.block i (tI hi h.size) (fun e=>by
 have:=(ho.lt i e.symm).1;omega)).trans (h.block i hi hn)⟩
theorem Tp:(O.info? 99).map (fun i=>(i.zero,i.size,i.bytes))=I (I (sU #[J G 0 0,J G 0 0]),2,48):=by
 kernel_rfl
theorem kJ{w:F}{o:rS}{a:Act}{K:Act->F->Prop}{Q:Exit->Act->F->Prop}(s x:rM)(ho:o.op=.call {callee:=.builtin .append,args:=#[s,x],argTypes:=#[28,28]})(base:Nat)(v:H)(l:FL)(hs:a.eval s=v)(hown:ZG base w v l)(vn vp:H)(t:Tn)(hk:Qh 0 w vn t.1)(hv:QP 0 w vp t.2)(nb:Nat)(hb:w.heap[nb]?=I (S #[vn,vp] 99))(hx:a.eval x=J (I ⟨nb,0,G⟩) 1 1)(hl:(l.length+1)*48<=140737488355328)(hbase:base<=w.heap.size)(h:∀v' w',ZG base w' v' (l++[t])->L w w' v.ownBlock->K (a.put o.dst v') w'):o.wp O a w K Q:=by
 obtain⟨i0,hi,hz0,hz1,hz2⟩:=pD Tp;have hrow:=hown.row0;obtain⟨vs,hvl,hr,hp⟩:=hown;refine wp_append_lies w s x 28 ho base 99 i0 (sU #[J G 0 0,J G 0 0]) 2 48 Tryz.underlying28 hi hz0 hz1 hz2 rfl (by decide) v l.length (flat vs) hs hr ⟨nb,0,G⟩ 1 1 (flat [(vn,vp)]) hx rfl (rF (cs:=#[vn,vp]) hb) ?_ (by omega) (by unfold pL;omega) hl hbase _ rfl ?_;·intro u hu;simp only[flat,tM,rO,rU,tK,tQ,or_false]at hu;rcases hu with rfl|rfl;(·exact ZU hk);·exact yQ hv
 ·intro g cap w' h1 h2 _ _;refine h _ w' ⟨vs++[(vn,vp)],by simp[hvl],?_,?_⟩ h2;(·rw[Ka,tB];exact h1);·intro i hi;rw[Jp,Jp,hvl];by_cases hil:i<l.length;(·rw[if_pos hil,if_pos hil];exact⟨(hp i hil).1.keptT h2 (lC hrow),(hp i hil).2.kept h2 hrow⟩);·rw[if_neg hil,if_neg hil];(obtain rfl:i=l.length:=by simp at hi;omega);rw[oI];exact⟨hk.keptT h2 (lC hrow),hv.kept h2 hrow⟩
theorem Tf{w:F}{ops:Array rS}{o:rS}{a:Act}{K:Act->F->Prop}{Q:Exit->Act->F->Prop}{E:Prop}(hgd:o.guard=G)(s x:rM)(ho:o.op=.call {callee:=.builtin .append,args:=#[s,x],argTypes:=#[28,28]})(base:Nat)(v:H)(l:FL)(hs:a.eval s=v)(hown:ZG base w v l)(vn vp:H)(t:Tn)(hk:Qh 0 w vn t.1)(hv:QP 0 w vp t.2)(nb:Nat)(hb:w.heap[nb]?=I (S #[vn,vp] 99))(hx:a.eval x=J (I ⟨nb,0,G⟩) 1 1)(hl:(l.length+1)*48<=140737488355328)(hbase:base<=w.heap.size)(h:∀v' w',ZG base w' v' (l++[t])->L w w' v.ownBlock->K (a.put o.dst v') w'):if sD o (pE ops a.tmps)=M then Oper.wp O o a w K Q else E:=by
 have hw:sD o (pE ops a.tmps)=M:=by simp[sD,hgd]
 rw[if_pos hw];exact kJ s x ho base v l hs hown vn vp t hk hv nb hb hx hl hbase h
theorem u7{w:F}{ops:Array rS}{rest:List rS}{o:rS}{a:Act}{Q:Exit->Act->F->Prop}(hgd:o.guard=G)(s x:rM)(ho:o.op=.call {callee:=.builtin .append,args:=#[s,x],argTypes:=#[28,28]})(base:Nat)(v:H)(l:FL)(hs:a.eval s=v)(hown:ZG base w v l)(vn vp:H)(t:Tn)(hk:Qh 0 w vn t.1)(hv:QP 0 w vp t.2)(nb:Nat)(hb:w.heap[nb]?=I (S #[vn,vp] 99))(hx:a.eval x=J (I ⟨nb,0,G⟩) 1 1)(hl:(l.length+1)*48<=140737488355328)(hbase:base<=w.heap.size)(h:∀v' w',ZG base w' v' (l++[t])->L w w' v.ownBlock->wpList O ops Q rest (a.put o.dst v') w'):wpList O ops Q (o::rest) a w:=wpList_plain hgd fun _ hK=>kJ s x ho base v l hs hown vn vp t hk hv nb hb hx hl hbase fun v' w' h1 h2=>hK _ _ (h v' w' h1 h2)
theorem Qj{w:F}{b i:Nat}{cs:Array H}{t:tV}{fz:Nat×Nat}{u:H}(h:w.heap[b]?=I (S cs t fz)):(tC w ⟨b,i,G⟩ u).heap[b]?=I (S (cs.setIfInBounds i u) t fz):=by
 simp only[tC,tU,if_true,h,rP];rfl
theorem Qy{w:F}{b c i:Nat}{o:Obj}{u:H}(h:w.heap[b]?=I o)(hne:b≠c):(tC w ⟨c,i,G⟩ u).heap[b]?=I o:=by
 simp only[tC,tU];rw[if_neg (fun e=>hne e.symm)];exact h
theorem YV(w:F)(b i:Nat)(u:H):L w (tC w ⟨b,i,G⟩ u) (I b):=Qg (Qb w _) i u
theorem Qh.setOther{base:Nat}{w:F}{v:H}{bs:List UInt8}(h:Qh base w v bs){b i:Nat}{cs:Array H}{t:tV}{fz:Nat×Nat}(hb:w.heap[b]?=I (S cs t fz))(ht:t≠5)(hbb:base<=b)(u:H):Qh base (tC w ⟨b,i,G⟩ u) v bs:=h.keptT (YV w b i u) (.inr ⟨b,cs,t,fz,rfl,hbb,hb,ht⟩)
def Q5(rb pb:Nat)(w:F)(v:H)(l:List Zi):Prop:=∃us:List WV,us.map (·.1)=l∧w.ownsRow rb 172 4 v l.length (Jd us)∧∀x∈us,Qh pb w x.2.1 x.1.name∧Qh pb w x.2.2.1 x.1.key∧Qh pb w x.2.2.2 x.1.value
theorem XF(rb pb:Nat)(w:F):Q5 rb pb w (J G 0 0) []:=⟨[],rfl,sR _ _ _ _,fun x hx=>by
 simp at hx⟩
theorem Q5.row{rb pb:Nat}{w:F}{v:H}{l:List Zi}(h:Q5 rb pb w v l):v.ownBlock=G∨∃g cur fz,v.ownBlock=I g∧rb<=g∧w.heap[g]?=I (S cur 172 fz):=by
 obtain⟨us,_,h,_⟩:=h;rcases h.2with⟨rfl,_⟩|⟨g,cap,cur,rfl,hb,hg,_⟩;·exact .inl rfl
 ·exact .inr ⟨g,cur,_,rfl,hb,hg⟩
theorem Q5.lt{rb pb:Nat}{w:F}{v:H}{l:List Zi}(h:Q5 rb pb w v l):∀k,v.ownBlock=I k->rb<=k∧k<w.heap.size:=by
 obtain⟨us,_,h,_⟩:=h;exact sK h
theorem Q5.ne{rb pb:Nat}{w:F}{v:H}{l:List Zi}(h:Q5 rb pb w v l){b:Nat}{cs:Array H}{t:tV}{fz:Nat×Nat}(hb:w.heap[b]?=I (S cs t fz))(ht:t≠172):v.ownBlock≠I b:=by
 intro e;rcases h.row with h0|⟨g,cur,fz2,h1,_,h2⟩;·rw[h0]at e;cases e
 ·rw[h1]at e;cases e;rw[hb]at h2;simp only[Y,tW]at h2;exact ht h2.2.1
theorem Q5.kept{rb pb:Nat}{w w':F}{v:H}{l:List Zi}(h:Q5 rb pb w v l){row:Option Nat}(hg:L w w' row)(hne:v.ownBlock=G∨v.ownBlock≠row)(hrow:row=G∨∃g cur t fz,row=I g∧pb<=g∧w.heap[g]?=I (S cur t fz)∧t≠5):Q5 rb pb w' v l:=by
 obtain⟨us,h1,h2,h3⟩:=h;exact⟨us,h1,tX h2 hg hne,fun x hx=>⟨(h3 x hx).1.keptT hg hrow,(h3 x hx).2.1.keptT hg hrow,(h3 x hx).2.2.keptT hg hrow⟩⟩
theorem Q5.grownNone{rb pb:Nat}{w w':F}{v:H}{l:List Zi}(h:Q5 rb pb w v l)(hg:L w w' G):Q5 rb pb w' v l:=h.kept hg (by
 cases hv:v.ownBlock with|none=>exact .inl rfl|some k=>exact .inr (by simp)) (.inl rfl)
theorem Q5.setOther{rb pb:Nat}{w:F}{v:H}{l:List Zi}(h:Q5 rb pb w v l){b i:Nat}{cs:Array H}{t:tV}{fz:Nat×Nat}(hb:w.heap[b]?=I (S cs t fz))(ht:t≠5)(ht2:t≠172)(hbb:pb<=b)(u:H):Q5 rb pb (tC w ⟨b,i,G⟩ u) v l:=h.kept (YV w b i u) (.inr (h.ne hb ht2)) (.inr ⟨b,cs,t,fz,rfl,hbb,hb,ht⟩)
theorem Q5.shape{rb pb:Nat}{w:F}{v:H}{l:List Zi}(h:Q5 rb pb w v l):∃a cap,v=J a l.length cap:=by
 obtain⟨us,_,h,_⟩:=h;rcases h.2with⟨rfl,h0⟩|⟨g,cap,cur,rfl,_⟩;·exact⟨G,0,by rw[h0]⟩
 ·exact⟨_,cap,rfl⟩
theorem Q5.any{rb pb:Nat}{w:F}{v:H}{l:List Zi}(h:Q5 rb pb w v l):∃a n cap,v=J a n cap:=by
 obtain⟨a,cap,e⟩:=h.shape;exact⟨a,_,cap,e⟩
theorem Q5.down{rb pb:Nat}{w:F}{v:H}{l:List Zi}(h:Q5 rb pb w v l)(rb':Nat)(hb:rb'<=rb):Q5 rb' pb w v l:=by
 obtain⟨us,h1,h2,h3⟩:=h;refine⟨us,h1,⟨h2.1,?_⟩,h3⟩;rcases h2.2with h|⟨g,cap,cur,e,hb2,rest⟩;·exact .inl h
 ·exact .inr ⟨g,cap,cur,e,tN hb hb2,rest⟩
theorem Q5.writesB{rb pb:Nat}{w:F}{v:H}{l:List Zi}(h:Q5 rb pb w v l):Xv pb w v l:=by
 obtain⟨us,hl,hr,h3⟩:=h;rcases hr.2with⟨rfl,h0⟩|⟨g,cap,cur,rfl,hb,hg,hn,hm,hs,ht⟩;·have:l=[]:=tJ h0;rw[this];exact Cg pb w
 ·(have hcell:∀j u,(Jd us)[j]?=I u->w.cell? ⟨g,j,G⟩=I u:=by intro j u hj;(have hlt:j<l.length*4:=by have:=(sH.1 hj).1;rw[hr.1]at this;exact this);(have e2:(cur.toList.take (l.length*4))[j]?=(Jd us)[j]?:=by rw[ht]);rw[sB,if_pos hlt,hj]at e2;simp[tR,hg];simpa using e2);refine⟨_,cap,rfl,hn,.inr ⟨g,0,rfl,.inr ⟨_,_,hg⟩,fun i hi=>?_⟩⟩;obtain⟨e1,e2⟩:=Wl hl i hi;(have hlen:us.length=l.length:=by rw[<-hl];simp);obtain⟨c1,c2,c3,c4⟩:=Mh us i (by omega);have hp:=h3 _ e2;rw[e1]at c3 hp;rw[sL];exact⟨_,_,_,hcell _ _ c1,hcell _ _ c2,hcell _ _ c3,hcell _ _ c4,hp.1,hp.2.1,hp.2.2⟩
theorem Q5.list{rb pb:Nat}{w:F}{v:H}{l:List Zi}(h:Q5 rb pb w v l):QS w v l:=h.writesB.list
theorem Gk{rb pb:Nat}{w W w1:F}{v:H}{l:List Zi}(h:L w W G)(ho:Q5 rb pb W v l)(hb:w.heap.size<=rb)(hg:L W w1 v.ownBlock):L w w1 G:=⟨hg.os.trans h.os,hg.tape.trans h.tape,hg.output.trans h.output,tN h.size hg.size,fun i hi hn=>(hg.block i (tI hi h.size) (fun e=>by
 have:=(ho.lt i e.symm).1;omega)).trans (h.block i hi hn)⟩
def RY(w:F)(b o:Nat)(r:Rd):Prop:=∃vn vk vl,w.cell? ⟨b,o,G⟩=I vn∧w.cell? ⟨b,o+1,G⟩=I vk∧w.cell? ⟨b,o+2,G⟩=I (tL r.wide)∧w.cell? ⟨b,o+3,G⟩=I vl∧Qe w vn r.name∧Qe w vk r.key∧Qe w vl r.last
theorem RY.grown{w w':F}{b o:Nat}{r:Rd}(h:RY w b o r)(hg:L w w' G):RY w' b o r:=by
 obtain⟨vn,vk,vl,c1,c2,c3,c4,h1,h2,h3⟩:=h;exact⟨vn,vk,vl,hg.cell c1 (by simp),hg.cell c2 (by simp),hg.cell c3 (by simp),hg.cell c4 (by simp),h1.grown hg,h2.grown hg,h3.grown hg⟩
def Xd(w:F)(v:H)(l:List Rd):Prop:=∃a cap,v=J a l.length cap∧l.length<=cap∧((l=[]∧(a=G->cap=0))∨∃b o,a=I ⟨b,o,G⟩∧∀i,i<l.length->RY w b (o+i*4) (l.getD i Zh))
theorem Bi(w:F):Xd w (J G 0 0) []:=⟨G,0,rfl,sA _,.inl ⟨rfl,fun _=>rfl⟩⟩
theorem Xd.shape{w:F}{v:H}{l:List Rd}(h:Xd w v l):∃a cap,v=J a l.length cap:=by
 obtain⟨a,cap,rfl,_⟩:=h;exact⟨a,cap,rfl⟩
theorem Xd.grown{w w':F}{v:H}{l:List Rd}(h:Xd w v l)(hg:L w w' G):Xd w' v l:=by
 obtain⟨a,cap,rfl,hc,h⟩:=h;refine⟨a,cap,rfl,hc,?_⟩;rcases h with h|⟨b,o,rfl,h⟩;·exact .inl h
 ·exact .inr ⟨b,o,rfl,fun i hi=>(h i hi).grown hg⟩
theorem Xd.at{w:F}{a:Option rC}{n cap:Nat}{l:List Rd}(h:Xd w (J a n cap) l)(i:Nat)(hi:i<l.length):∃b o,a=I ⟨b,o,G⟩∧RY w b (o+i*4) (l.getD i Zh):=by
 obtain⟨a',cap',e,hc,h⟩:=h;simp only[tG]at e;obtain⟨rfl,rfl,rfl⟩:=e;rcases h with⟨rfl,_⟩|⟨b,o,rfl,h⟩;·simp at hi
 ·exact⟨b,o,rfl,h i hi⟩
structure mD (l : List Rd) : Prop where
  many : l.length * 80 <= 140737488355328
  each : ∀ i, i < l.length -> Fe (l.getD i Zh)
structure xW (t : Tx) : Prop where
  start : -9223372036854775808 <= t.start ∧ t.start <= 9223372036854775807
  reads : mD t.reads
  writes : uQ t.writes
def qJ(w:F)(v:H)(t:Tx):Prop:=∃vr vw,v=sU #[tA tE t.start,vr,vw]∧Xd w vr t.reads∧QS w vw t.writes
theorem qJ.grown{w w':F}{v:H}{t:Tx}(h:qJ w v t)(hg:L w w' G):qJ w' v t:=by
 obtain⟨vr,vw,rfl,h1,h2⟩:=h;exact⟨vr,vw,rfl,h1.grown hg,h2.grown hg⟩
theorem qJ.agg{w:F}{v:H}{t:Tx}(h:qJ w v t):∃ra rc wa wc,v=sU #[tA tE t.start,J ra t.reads.length rc,J wa t.writes.length wc]:=by
 obtain⟨vr,vw,rfl,h1,h2⟩:=h;obtain⟨ra,rc,rfl⟩:=h1.shape;obtain⟨wa,wc,rfl⟩:=h2.shape;exact⟨ra,rc,wa,wc,rfl⟩
theorem qJ.parts{w:F}{t:Tx}{x y z:H}(h:qJ w (sU #[x,y,z]) t):x=tA tE t.start∧Xd w y t.reads∧QS w z t.writes:=by
 obtain⟨vr,vw,e,h1,h2⟩:=h;simp only[Value.agg.injEq,Array.mk.injEq,List.cons.injEq,and_true]at e;obtain⟨rfl,rfl,rfl⟩:=e;exact⟨rfl,h1,h2⟩
theorem PZ{r:Rd}(h:XM r=0):Fe r:=by
 obtain⟨h1,h2,h3⟩:=(EW r).1 h;refine⟨by omega,by omega,?_⟩;split at h3;·omega
 ·rw[h3];simp
abbrev RV:=Rd×H×H×H
def Ae:RV:=(Zh,sI,sI,sI)
def GJ(us:List RV):List H:=us.flatMap fun x=>[x.2.1,x.2.2.1,tL x.1.wide,x.2.2.2]
theorem Ms(a b:List RV):GJ (a++b)=GJ a++GJ b:=by
 simp[GJ]
theorem Nw:∀(us:List RV)(i:Nat),i<us.length->(GJ us)[i*4]?=I (us.getD i Ae).2.1∧(GJ us)[i*4+1]?=I (us.getD i Ae).2.2.1∧(GJ us)[i*4+2]?=I (tL (us.getD i Ae).1.wide)∧(GJ us)[i*4+3]?=I (us.getD i Ae).2.2.2|[],i,h=>by simp at h|x::us,0,_=>⟨rfl,rfl,rfl,rfl⟩|x::us,i+1,h=>by have:=Nw us i (by simpa using h);rw[show(i+1)*4=i*4+4by omega];exact this
theorem lJ:(191:Nat)≠5:=by
 decide
theorem lY:(191:Nat)≠172:=by
 decide
def ZN(rb pb:Nat)(w:F)(v:H)(l:List Rd):Prop:=∃us:List RV,us.map (·.1)=l∧w.ownsRow rb 191 4 v l.length (GJ us)∧∀x∈us,Qh pb w x.2.1 x.1.name∧Qh pb w x.2.2.1 x.1.key∧Qh pb w x.2.2.2 x.1.last
theorem Uv(rb pb:Nat)(w:F):ZN rb pb w (J G 0 0) []:=⟨[],rfl,sR _ _ _ _,fun x hx=>by
 simp at hx⟩
theorem ZN.row{rb pb:Nat}{w:F}{v:H}{l:List Rd}(h:ZN rb pb w v l):v.ownBlock=G∨∃g cur fz,v.ownBlock=I g∧rb<=g∧w.heap[g]?=I (S cur 191 fz):=by
 obtain⟨us,_,h,_⟩:=h;rcases h.2with⟨rfl,_⟩|⟨g,cap,cur,rfl,hb,hg,_⟩;·exact .inl rfl
 ·exact .inr ⟨g,cur,_,rfl,hb,hg⟩
theorem ZN.lt{rb pb:Nat}{w:F}{v:H}{l:List Rd}(h:ZN rb pb w v l):∀k,v.ownBlock=I k->rb<=k∧k<w.heap.size:=by
 obtain⟨us,_,h,_⟩:=h;exact sK h
theorem ZN.ne{rb pb:Nat}{w:F}{v:H}{l:List Rd}(h:ZN rb pb w v l){b:Nat}{cs:Array H}{t:tV}{fz:Nat×Nat}(hb:w.heap[b]?=I (S cs t fz))(ht:t≠191):v.ownBlock≠I b:=by
 intro e;rcases h.row with h0|⟨g,cur,fz2,h1,_,h2⟩;·rw[h0]at e;cases e
 ·rw[h1]at e;cases e;rw[hb]at h2;simp only[Y,tW]at h2;exact ht h2.2.1
theorem ZN.kept{rb pb:Nat}{w w':F}{v:H}{l:List Rd}(h:ZN rb pb w v l){row:Option Nat}(hg:L w w' row)(hne:v.ownBlock=G∨v.ownBlock≠row)(hrow:row=G∨∃g cur t fz,row=I g∧pb<=g∧w.heap[g]?=I (S cur t fz)∧t≠5):ZN rb pb w' v l:=by
 obtain⟨us,h1,h2,h3⟩:=h;exact⟨us,h1,tX h2 hg hne,fun x hx=>⟨(h3 x hx).1.keptT hg hrow,(h3 x hx).2.1.keptT hg hrow,(h3 x hx).2.2.keptT hg hrow⟩⟩
theorem ZN.grownNone{rb pb:Nat}{w w':F}{v:H}{l:List Rd}(h:ZN rb pb w v l)(hg:L w w' G):ZN rb pb w' v l:=h.kept hg (by
 cases hv:v.ownBlock with|none=>exact .inl rfl|some k=>exact .inr (by simp)) (.inl rfl)
theorem ZN.setOther{rb pb:Nat}{w:F}{v:H}{l:List Rd}(h:ZN rb pb w v l){b i:Nat}{cs:Array H}{t:tV}{fz:Nat×Nat}(hb:w.heap[b]?=I (S cs t fz))(ht:t≠5)(ht2:t≠191)(hbb:pb<=b)(u:H):ZN rb pb (tC w ⟨b,i,G⟩ u) v l:=h.kept (YV w b i u) (.inr (h.ne hb ht2)) (.inr ⟨b,cs,t,fz,rfl,hbb,hb,ht⟩)
theorem ZN.down{rb pb:Nat}{w:F}{v:H}{l:List Rd}(h:ZN rb pb w v l)(rb':Nat)(hb:rb'<=rb):ZN rb' pb w v l:=by
 obtain⟨us,h1,h2,h3⟩:=h;refine⟨us,h1,⟨h2.1,?_⟩,h3⟩;rcases h2.2with h|⟨g,cap,cur,e,hb2,rest⟩;·exact .inl h
 ·exact .inr ⟨g,cap,cur,e,tN hb hb2,rest⟩
theorem ZN.shape{rb pb:Nat}{w:F}{v:H}{l:List Rd}(h:ZN rb pb w v l):∃a cap,v=J a l.length cap:=by
 obtain⟨us,_,h,_⟩:=h;rcases h.2with⟨rfl,h0⟩|⟨g,cap,cur,rfl,_⟩;·exact⟨G,0,by rw[h0]⟩
 ·exact⟨_,cap,rfl⟩
theorem Ip{us:List RV}{l:List Rd}(h:us.map (·.1)=l)(i:Nat)(hi:i<l.length):(us.getD i Ae).1=l.getD i Zh∧us.getD i Ae∈us:=by
 subst h;have hi':i<us.length:=by simpa using hi
 refine⟨by simp[hi'],?_⟩;rw[show us.getD i Ae=us[i]by simp[hi']];exact sN hi'
theorem ZN.list{rb pb:Nat}{w:F}{v:H}{l:List Rd}(h:ZN rb pb w v l):Xd w v l:=by
 obtain⟨us,hl,hr,h3⟩:=h;rcases hr.2with⟨rfl,h0⟩|⟨g,cap,cur,rfl,hb,hg,hn,hm,hs,ht⟩;·have:l=[]:=tJ h0;rw[this];exact Bi w
 ·(have hcell:∀j u,(GJ us)[j]?=I u->w.cell? ⟨g,j,G⟩=I u:=by intro j u hj;(have hlt:j<l.length*4:=by have:=(sH.1 hj).1;rw[hr.1]at this;exact this);(have e2:(cur.toList.take (l.length*4))[j]?=(GJ us)[j]?:=by rw[ht]);rw[sB,if_pos hlt,hj]at e2;simp[tR,hg];simpa using e2);refine⟨_,cap,rfl,hn,.inr ⟨g,0,rfl,fun i hi=>?_⟩⟩;obtain⟨e1,e2⟩:=Ip hl i hi;(have hlen:us.length=l.length:=by rw[<-hl];simp);obtain⟨c1,c2,c3,c4⟩:=Nw us i (by omega);have hp:=h3 _ e2;rw[e1]at c3 hp;rw[sL];exact⟨_,_,_,hcell _ _ c1,hcell _ _ c2,hcell _ _ c3,hcell _ _ c4,hp.1.1,hp.2.1.1,hp.2.2.1⟩
theorem T9{rb pb:Nat}{w W w1:F}{v:H}{l:List Rd}(h:L w W G)(ho:ZN rb pb W v l)(hb:w.heap.size<=rb)(hg:L W w1 v.ownBlock):L w w1 G:=⟨hg.os.trans h.os,hg.tape.trans h.tape,hg.output.trans h.output,tN h.size hg.size,fun i hi hn=>(hg.block i (tI hi h.size) (fun e=>by
 have:=(ho.lt i e.symm).1;omega)).trans (h.block i hi hn)⟩
theorem lG:(O.info? 191).map (fun i=>(i.zero,i.size,i.bytes))=I (I (sU #[J G 0 0,J G 0 0,tL N,J G 0 0]),4,80):=by
 kernel_rfl
def qE(w:F)(v:H)(t:Tx):Prop:=∃vr vw,v=sU #[tA tE t.start,vr,vw]∧ZN 0 0 w vr t.reads∧Q5 0 0 w vw t.writes
theorem qE.is{w:F}{v:H}{t:Tx}(h:qE w v t):qJ w v t:=by
 obtain⟨vr,vw,rfl,h1,h2⟩:=h;exact⟨vr,vw,rfl,h1.list,h2.list⟩
theorem xU(w:F):qE w (sU #[tA tE 0,J G 0 0,J G 0 0]) F6:=⟨_,_,rfl,Uv 0 0 w,XF 0 0 w⟩
def Ef(w:F)(b o:Nat)(s:Vl):Prop:=∃vo,w.cell? ⟨b,o,G⟩=I (tA tE s.bit)∧w.cell? ⟨b,o+1,G⟩=I (tL s.right)∧w.cell? ⟨b,o+2,G⟩=I vo∧Qe w vo s.other
theorem Ef.grown{w w':F}{b o:Nat}{s:Vl}(h:Ef w b o s)(hg:L w w' G):Ef w' b o s:=by
 obtain⟨vo,c1,c2,c3,h1⟩:=h;exact⟨vo,hg.cell c1 (by simp),hg.cell c2 (by simp),hg.cell c3 (by simp),h1.grown hg⟩
def Jz(w:F)(v:H)(l:List Vl):Prop:=∃a cap,v=J a l.length cap∧l.length<=cap∧((l=[]∧(a=G->cap=0))∨∃b o,a=I ⟨b,o,G⟩∧∀i,i<l.length->Ef w b (o+i*3) (l.getD i QV))
theorem Ba(w:F):Jz w (J G 0 0) []:=⟨G,0,rfl,sA _,.inl ⟨rfl,fun _=>rfl⟩⟩
theorem Jz.grown{w w':F}{v:H}{l:List Vl}(h:Jz w v l)(hg:L w w' G):Jz w' v l:=by
 obtain⟨a,cap,rfl,hc,h⟩:=h;refine⟨a,cap,rfl,hc,?_⟩;rcases h with h|⟨b,o,rfl,h⟩;·exact .inl h
 ·exact .inr ⟨b,o,rfl,fun i hi=>(h i hi).grown hg⟩
theorem Jz.shape{w:F}{v:H}{l:List Vl}(h:Jz w v l):∃a cap,v=J a l.length cap:=by
 obtain⟨a,cap,rfl,_⟩:=h;exact⟨a,cap,rfl⟩
theorem Jz.at{w:F}{a:Option rC}{n cap:Nat}{l:List Vl}(h:Jz w (J a n cap) l)(i:Nat)(hi:i<l.length):∃b o,a=I ⟨b,o,G⟩∧Ef w b (o+i*3) (l.getD i QV):=by
 obtain⟨a',cap',e,hc,h⟩:=h;simp only[tG]at e;obtain⟨rfl,rfl,rfl⟩:=e;rcases h with⟨rfl,_⟩|⟨b,o,rfl,h⟩;·simp at hi
 ·exact⟨b,o,rfl,h i hi⟩
def Xw(w:F)(v:H)(p:Gw):Prop:=∃vs vk vv,v=sU #[tL p.empty,vs,vk,vv]∧Jz w vs p.steps∧Qe w vk p.pair.1∧Qe w vv p.pair.2
theorem Xw.grown{w w':F}{v:H}{p:Gw}(h:Xw w v p)(hg:L w w' G):Xw w' v p:=by
 obtain⟨vs,vk,vv,rfl,h0,h1,h2⟩:=h;exact⟨vs,vk,vv,rfl,h0.grown hg,h1.grown hg,h2.grown hg⟩
def jC(p:Gw):Prop:=p.steps.length*40<=140737488355328∧(∀i,i<p.steps.length->(-9223372036854775808<=(p.steps.getD i QV).bit∧(p.steps.getD i QV).bit<=9223372036854775807)∧(p.steps.getD i QV).other.length<=140737488355328)∧p.pair.1.length<=140737488355328∧p.pair.2.length<=140737488355328
theorem Zn{w:F}{b:Nat}{x y:H}{t:tV}(h:w.heap[b]?=I (S #[x,y] t)):w.cell? ⟨b,0,G⟩=I x∧w.cell? ⟨b,1,G⟩=I y∧w.frozen? ⟨b,0,G⟩=N∧w.frozen? ⟨b,1,G⟩=N:=by
 refine⟨?_,?_,?_,?_⟩<;>simp[tR,r8,h]
theorem qW{w:F}{b:Nat}{x y:H}{t:tV}(h:w.heap[b]?=I (S #[x,y] t))(u v:H):((tC w ⟨b,0,G⟩ u).setCell ⟨b,1,G⟩ v).heap[b]?=I (S #[u,v] t):=by
 have h0:(tC w ⟨b,0,G⟩ u).heap[b]?=I (S #[u,y] t):=by simp only[tC,tU,if_true,h,rP];first|rfl|simp
 rw[tC,tU,if_pos rfl,h0];first|rfl|simp
theorem X9{w:F}{b:Nat}{x y z:H}{t:tV}(h:w.heap[b]?=I (S #[x,y,z] t)):(w.cell? ⟨b,0,G⟩=I x∧w.cell? ⟨b,1,G⟩=I y∧w.cell? ⟨b,2,G⟩=I z)∧w.frozen? ⟨b,0,G⟩=N∧w.frozen? ⟨b,1,G⟩=N∧w.frozen? ⟨b,2,G⟩=N:=by
 refine⟨⟨?_,?_,?_⟩,?_,?_,?_⟩<;>simp[tR,r8,h]
theorem Nl{w:F}{b:Nat}{x y z:H}{t:tV}(h:w.heap[b]?=I (S #[x,y,z] t))(x' y' z':H):(((tC w ⟨b,0,G⟩ x').setCell ⟨b,1,G⟩ y').setCell ⟨b,2,G⟩ z').heap[b]?=I (S #[x',y',z'] t):=by
 have h0:(tC w ⟨b,0,G⟩ x').heap[b]?=I (S #[x',y,z] t):=by simp only[tC,tU,if_true,h,rP];first|rfl|simp
 have h1:((tC w ⟨b,0,G⟩ x').setCell ⟨b,1,G⟩ y').heap[b]?=I (S #[x',y',z] t):=by rw[tC,tU,if_pos rfl,h0];first|rfl|simp
 rw[tC,tU,if_pos rfl,h1];first|rfl|simp
theorem Fx{w w1:F}(h:L w w1 G)(b:Nat)(hb:w.heap.size<=b)(x y z:H):L w (((tC w1 ⟨b,0,G⟩ x).setCell ⟨b,1,G⟩ y).setCell ⟨b,2,G⟩ z) G:=Qc (Qc (Qc h _ hb _ _) _ hb _ _) _ hb _ _
theorem VM{w w1:F}(h:L w w1 G)(b:Nat)(hb:w.heap.size<=b)(x y:H):L w ((tC w1 ⟨b,0,G⟩ x).setCell ⟨b,1,G⟩ y) G:=Qc (Qc h _ hb _ _) _ hb _ _
def i4(w:F)(b:Nat):Prop:=∃cur t fz,w.heap[b]?=I (S cur t fz)∧(t=5∨∃q,cur[0]?=I (tA pO q))
def jV(w:F)(b:Nat):Prop:=∃cur t fz,w.heap[b]?=I (S cur t fz)∧t≠5∧∀q,cur[0]?≠I (tA pO q)
theorem i4.ne{w:F}{a b:Nat}(h:i4 w a)(h':jV w b):a≠b:=by
 rintro rfl;obtain⟨cur,t,fz,h1,h2⟩:=h;obtain⟨cur',t',fz',h3,h4,h5⟩:=h';rw[h1]at h3;simp only[Y,tW]at h3;obtain⟨rfl,rfl,_⟩:=h3;rcases h2 with h2|⟨q,h2⟩;·exact h4 h2
 ·exact h5 q h2
theorem jV.grown{w w':F}{b:Nat}(h:jV w b)(hg:L w w' G):jV w' b:=by
 obtain⟨cur,t,fz,h1,h2⟩:=h;exact⟨cur,t,fz,by rw[hg.block b (tH.1 h1).1 (by simp)];exact h1,h2⟩
theorem jV.set{w:F}{c:Nat}(h:jV w c)(i:Nat)(u:H)(hu:∀q,u≠tA pO q):jV (tC w ⟨c,i,G⟩ u) c:=by
 obtain⟨cur,t,fz,h1,h2,h3⟩:=h;refine⟨cur.setIfInBounds i u,t,fz,?_,h2,fun q hq=>?_⟩;·simp only[tC,tU,if_true,h1,rP];first|rfl|simp
 ·rw[Array.getElem?_setIfInBounds]at hq;split at hq;(·split at hq;(·simp at hq;exact hu q hq);·cases hq);·exact h3 q hq
theorem Dh{w:F}{c:Nat}{x:H}{xs:List H}{t:tV}{fz:Nat×Nat}(h:w.heap[c]?=I (S ⟨x::xs⟩ t fz))(ht:t≠5)(hx:∀q,x≠tA pO q):jV w c:=⟨_,t,fz,h,ht,fun q hq=>by
 simp at hq;exact hx q hq⟩
def Ya(w:F)(v:H)(bs:List UInt8):Prop:=Qe w v bs∧(bs=[]∨∃b,v.ownBlock=I b∧b<w.heap.size∧i4 w b)
theorem lP:(122:Nat)≠5:=by
 decide
theorem UG(w:F):Ya w (J G 0 0) []:=⟨QE _,.inl rfl⟩
theorem Q9.partS{base':Nat}{w:F}{v:H}{bs:List UInt8}(h:Q9 base' w v bs):Ya w v bs:=by
 refine⟨h.slice,?_⟩;rcases h.2with⟨rfl,h0⟩|⟨g,cap,cur,rfl,hb,hg,_⟩;·exact .inl (tJ h0)
 ·exact .inr ⟨g,rfl,(tH.1 hg).1,cur,_,_,hg,.inl rfl⟩
theorem ZL.partS{w:F}{nb:Nat}{bs:List UInt8}(h:ZL w nb bs)(hl:bs.length=32):Ya w (J (I ⟨nb,0,G⟩) 32 32) bs:=by
 refine⟨h.slice32 hl,.inr ⟨nb,rfl,UD (h.cell 0 (by omega)),?_⟩⟩;have hc:=h.cell 0 (by omega);obtain⟨t,hb⟩:=h;refine⟨_,t,_,hb,.inr ⟨((bs.getD 0 0).toNat:Int),?_⟩⟩;·simpa[tR,hb]using hc
theorem EP{w:F}{v:H}{bs:List UInt8}(h:Ya w v bs):v.oneCell'=M:=by
 obtain⟨⟨a,cap,rfl,_⟩,_⟩:=h;rfl
def l6(w:F)(row:Option Nat):Prop:=row=G∨∃g,row=I g∧jV w g
theorem Ya.kept{w w':F}{v:H}{bs:List UInt8}(h:Ya w v bs){row:Option Nat}(hg:L w w' row)(hrow:l6 w row):Ya w' v bs:=by
 obtain⟨hs,ho⟩:=h;rcases ho with rfl|⟨b,hb,hlt,hc⟩;·obtain⟨a,cap,rfl,hc,h⟩:=hs;refine⟨⟨a,cap,rfl,hc,?_⟩,.inl rfl⟩;rcases h with h|⟨b,o,rfl,h⟩;(·exact .inl h);·exact .inr ⟨b,o,rfl,fun i hi=>by simp at hi⟩
 ·(have hne:I b≠row:=by intro e;rcases hrow with rfl|⟨g,rfl,hg'⟩;(·cases e);·cases e;exact hc.ne hg' rfl);have hblk:=hg.block b hlt hne;refine⟨?_,.inr ⟨b,hb,tI hlt hg.size,?_⟩⟩;(·obtain⟨a,cap,rfl,hcp,h⟩:=hs;refine⟨a,cap,rfl,hcp,?_⟩;rcases h with h|⟨b',o,rfl,h⟩;(·exact .inl h);·refine .inr ⟨b',o,rfl,fun i hi=>?_⟩;simp[pJ]at hb;subst hb;exact hg.cell (h i hi) (by simpa using hne));·obtain⟨cur,t,fz,hc,hc2⟩:=hc;exact⟨cur,t,fz,by rw[hblk];exact hc,hc2⟩
theorem Ya.grown{w w':F}{v:H}{bs:List UInt8}(h:Ya w v bs)(hg:L w w' G):Ya w' v bs:=h.kept hg (.inl rfl)
theorem Ya.set{w:F}{v:H}{bs:List UInt8}(h:Ya w v bs){c:Nat}(hc:jV w c)(i:Nat)(u:H):Ya (tC w ⟨c,i,G⟩ u) v bs:=h.kept (Qg (Qb _ (I c)) i u) (.inr ⟨c,rfl,hc⟩)
abbrev SV:=Vl×H
def Wi:SV:=(QV,sI)
def Up(us:List SV):List H:=us.flatMap fun x=>[tA tE x.1.bit,tL x.1.right,x.2]
theorem Dk(a b:List SV):Up (a++b)=Up a++Up b:=by
 simp[Up]
theorem Mo:∀(us:List SV)(i:Nat),i<us.length->(Up us)[i*3]?=I (tA tE (us.getD i Wi).1.bit)∧(Up us)[i*3+1]?=I (tL (us.getD i Wi).1.right)∧(Up us)[i*3+2]?=I (us.getD i Wi).2|[],i,h=>by simp at h|x::r,0,_=>by simp[Up]|x::r,i+1,h=>by have:=Mo r i (by simpa using h);rw[show(i+1)*3=i*3+3by omega,show i*3+3+1=(i*3+1)+3by omega,show i*3+3+2=(i*3+2)+3by omega];simpa[Up]using this
theorem Wr(us:List SV):∀u∈Up us,(∀x∈us,x.2.oneCell'=M)->u.oneCell'=M:=by
 intro u hu h;obtain⟨x,hx,hu⟩:=List.mem_flatMap.1 hu;simp only[tK,tQ,or_false]at hu;rcases hu with rfl|rfl|rfl;·rfl
 ·rfl
 ·exact h x hx
def J0(base:Nat)(w:F)(v:H)(l:List Vl):Prop:=∃us:List SV,us.map (·.1)=l∧w.ownsRow base 122 3 v l.length (Up us)∧(∀x∈us,Ya w x.2 x.1.other)∧(l=[]->v=J G 0 0)
theorem vF(base:Nat)(w:F):J0 base w (J G 0 0) []:=⟨[],rfl,sR _ _ _ _,fun x hx=>by
 simp at hx,fun _=>rfl⟩
theorem J0.row{base:Nat}{w:F}{v:H}{l:List Vl}(h:J0 base w v l):l6 w v.ownBlock:=by
 obtain⟨us,hm,h,_,h0⟩:=h;cases l with|nil=>rw[h0 rfl];exact .inl rfl|cons x r=>rcases h.2with⟨rfl,_⟩|⟨g,cap,cur,rfl,hb,hg,hn,_,_,ht⟩;(·exact .inl rfl);·refine .inr ⟨g,rfl,cur,_,_,hg,lP,fun q=>?_⟩;cases us with|nil=>simp at hm|cons u us=>simp only[List.map_cons,List.cons.injEq]at hm;(have e:(cur.toList.take ((x::r).length*3))[0]?=(Up (u::us))[0]?:=by rw[ht]);rw[sB,if_pos (by simp)]at e;rw[<-pC,e];simp[Up]
theorem J0.lt{base:Nat}{w:F}{v:H}{l:List Vl}(h:J0 base w v l):∀k,v.ownBlock=I k->base<=k∧k<w.heap.size:=by
 obtain⟨us,_,h,_⟩:=h;exact sK h
theorem J0.grownNone{base:Nat}{w w':F}{v:H}{l:List Vl}(h:J0 base w v l)(hg:L w w' G):J0 base w' v l:=by
 obtain⟨us,h1,h2,h3,h4⟩:=h;refine⟨us,h1,tX h2 hg ?_,fun x hx=>(h3 x hx).grown hg,h4⟩;cases hv:v.ownBlock with|none=>exact .inl rfl|some k=>exact .inr (by simp)
theorem J0.alloc{base:Nat}{w:F}{v:H}{l:List Vl}(h:J0 base w v l)(o:Obj):J0 base (w.alloc o) v l:=h.grownNone (rA _ _ _)
theorem J0.shape{base:Nat}{w:F}{v:H}{l:List Vl}(h:J0 base w v l):∃a cap,v=J a l.length cap:=by
 obtain⟨us,_,h,_⟩:=h;rcases h.2with⟨rfl,h0⟩|⟨g,cap,cur,rfl,_⟩;·exact⟨G,0,by rw[h0]⟩
 ·exact⟨_,cap,rfl⟩
theorem J0.cells{base:Nat}{w:F}{g n cap:Nat}{us:List SV}{k:Nat}(hr:w.ownsRow base 122 3 (J (I ⟨g,0,G⟩) n cap) k (Up us)):∀j u,(Up us)[j]?=I u->w.cell? ⟨g,j,G⟩=I u:=by
 intro j u hj;rcases hr.2with⟨e,_⟩|⟨g',cap',cur,e,hb,hg,hn,hm,hs,ht⟩;·cases e
 ·simp only[tG,Y,rK]at e;obtain⟨⟨rfl,_⟩,_,_⟩:=e;(have hlt:j<k*3:=by have:=(sH.1 hj).1;rw[hr.1]at this;exact this);(have e2:(cur.toList.take (k*3))[j]?=(Up us)[j]?:=by rw[ht]);rw[sB,if_pos hlt,hj]at e2;simp[tR,hg];simpa using e2
theorem bB{us:List SV}{l:List Vl}(h:us.map (·.1)=l)(i:Nat)(hi:i<l.length):(us.getD i Wi).1=l.getD i QV∧us.getD i Wi∈us:=by
 subst h;have hi':i<us.length:=by simpa using hi
 constructor;·simp[hi']
 ·rw[show us.getD i Wi=us[i]by simp[hi']];exact sN _
theorem J0.list{base:Nat}{w:F}{v:H}{l:List Vl}(h:J0 base w v l):Jz w v l:=by
 obtain⟨us,hl,hr,h3,_⟩:=h;have hul:us.length=l.length:=by rw[<-hl];simp
 rcases hr.2with⟨rfl,h0⟩|⟨g,cap,cur,rfl,hb,hg,hn,hm,hs,ht⟩;·have:l=[]:=tJ h0;subst this;exact Ba w
 ·refine⟨_,cap,rfl,hn,.inr ⟨g,0,rfl,fun i hi=>?_⟩⟩;obtain⟨e1,e2⟩:=bB hl i hi;obtain⟨c1,c2,c3⟩:=Mo us i (by omega);have hp:=h3 _ e2;rw[e1]at c1 c2 hp;rw[sL];exact⟨_,J0.cells hr _ _ c1,J0.cells hr _ _ c2,J0.cells hr _ _ c3,hp.1⟩
theorem J0.set{base:Nat}{w:F}{v:H}{l:List Vl}(h:J0 base w v l){c:Nat}(hc:jV w c)(hne:c<base)(i:Nat)(u:H):J0 base (tC w ⟨c,i,G⟩ u) v l:=by
 have hlt:=h.lt;obtain⟨us,h1,h2,h3,h4⟩:=h;refine⟨us,h1,tX h2 (Qg (Qb _ (I c)) i u) ?_,fun x hx=>(h3 x hx).set hc i u,h4⟩;cases hv:v.ownBlock with|none=>exact .inl rfl|some k=>exact .inr (by have:=(hlt k hv).1;simp;omega)
theorem iL:(46:Nat)≠5:=by
 decide
theorem mC:(44:Nat)≠5:=by
 decide
theorem VC{W:F}{pb:Nat}{x y:H}(h:W.heap[pb]?=I (S #[x,y] 44))(hx:∀q,x≠tA pO q)(ua va:Option rC)(un uc vn vc:Nat){z:H}{bs:List UInt8}(hz:Ya W z bs):Ya ((tC W ⟨pb,0,G⟩ (J ua un uc)).setCell ⟨pb,1,G⟩ (J va vn vc)) z bs:=have h0:jV W pb:=Dh (xs:=[y]) h mC hx;have h1:=h0.set 0 (J ua un uc) (fun q=>by
 simp);(hz.set h0 0 _).set h1 1 _
theorem Ya.quad{w:F}{v:H}{bs:List UInt8}(h:Ya w v bs){c:Nat}(hc:jV w c){e:Bool}{sa:Option rC}{sn sc:Nat}{ka va:Option rC}{kn kc vn vc:Nat}:Ya ((((tC w ⟨c,0,G⟩ (tL e)).setCell ⟨c,1,G⟩ (J sa sn sc)).setCell ⟨c,2,G⟩ (J ka kn kc)).setCell ⟨c,3,G⟩ (J va vn vc)) v bs:=have h1:=hc.set 0 (tL e) (fun q=>by
 simp);have h2:=h1.set 1 (J sa sn sc) (fun q=>by
 simp);have h3:=h2.set 2 (J ka kn kc) (fun q=>by
 simp);(((h.set hc 0 _).set h1 1 _).set h2 2 _).set h3 3 _
theorem J0.quad{base:Nat}{w:F}{v:H}{l:List Vl}(h:J0 base w v l){c:Nat}(hc:jV w c)(hne:c<base){e:Bool}{sa:Option rC}{sn sc:Nat}{ka va:Option rC}{kn kc vn vc:Nat}:J0 base ((((tC w ⟨c,0,G⟩ (tL e)).setCell ⟨c,1,G⟩ (J sa sn sc)).setCell ⟨c,2,G⟩ (J ka kn kc)).setCell ⟨c,3,G⟩ (J va vn vc)) v l:=have h1:=hc.set 0 (tL e) (fun q=>by
 simp);have h2:=h1.set 1 (J sa sn sc) (fun q=>by
 simp);have h3:=h2.set 2 (J ka kn kc) (fun q=>by
 simp);(((h.set hc hne 0 _).set h1 hne 1 _).set h2 hne 2 _).set h3 hne 3 _
def ZD(n:Nat)(w:F)(v:H)(p:Gw):Prop:=∃base vs vk vv,v=sU #[tL p.empty,vs,vk,vv]∧n<=base∧base<=w.heap.size∧J0 base w vs p.steps∧Ya w vk p.pair.1∧Ya w vv p.pair.2
theorem ZD.is{n:Nat}{w:F}{v:H}{p:Gw}(h:ZD n w v p):Xw w v p:=by
 obtain⟨base,vs,vk,vv,rfl,_,_,h1,h2,h3⟩:=h;exact⟨vs,vk,vv,rfl,h1.list,h2.1,h3.1⟩
theorem Sq{base:Nat}{w W w1:F}{v:H}{l:List Vl}(h:L w W G)(ho:J0 base W v l)(hb:w.heap.size<=base)(hg:L W w1 v.ownBlock):L w w1 G:=⟨hg.os.trans h.os,hg.tape.trans h.tape,hg.output.trans h.output,tN h.size hg.size,fun i hi hn=>(hg.block i (tI hi h.size) (fun e=>by
 have:=(ho.lt i e.symm).1;omega)).trans (h.block i hi hn)⟩
theorem OU:(O.info? 122).map (fun i=>(i.zero,i.size,i.bytes))=I (I (sU #[tA tE 0,tL N,J G 0 0]),3,40):=by
 kernel_rfl
theorem RW{w:F}{o:rS}{a:Act}{K:Act->F->Prop}{Q:Exit->Act->F->Prop}(s x:rM)(ho:o.op=.call {callee:=.builtin .append,args:=#[s,x],argTypes:=#[42,42]})(base:Nat)(v:H)(l:List Vl)(hs:a.eval s=v)(hown:J0 base w v l)(vo:H)(p:Vl)(hk:Ya w vo p.other)(nb:Nat)(hb:∀j u,[tA tE p.bit,tL p.right,vo][j]?=I u->w.cell? ⟨nb,j,G⟩=I u)(hx:a.eval x=J (I ⟨nb,0,G⟩) 1 1)(hl:(l.length+1)*40<=140737488355328)(hbase:base<=w.heap.size)(h:∀v' w',J0 base w' v' (l++[p])->L w w' v.ownBlock->K (a.put o.dst v') w'):o.wp O a w K Q:=by
 obtain⟨i0,hi,hz0,hz1,hz2⟩:=pD OU;have hrow:=hown.row;obtain⟨us,hul,hr,hp,_⟩:=hown;refine wp_append_own w s x 42 ho base 122 i0 (sU #[tA tE 0,tL N,J G 0 0]) 3 40 Tryz.underlying42 hi hz0 hz1 hz2 rfl (by decide) v l.length (Up us) hs hr ⟨nb,0,G⟩ 1 1 (Up [(p,vo)]) hx rfl ?_ ?_ (by unfold pL;omega) hl hbase ?_;·intro j u hj;rw[Xp,sL];exact hb j u (by simpa[Up]using hj)
 ·intro u hu;exact Wr _ u hu fun y hy=>by simp at hy;subst hy;exact EP hk
 ·intro v' w' h1 h2 _;refine h _ w' ⟨us++[(p,vo)],by simp[hul],?_,?_,fun e=>by simp at e⟩ h2;(·rw[Dk,tB];exact h1);·intro y hy;rcases tY.1 hy with hy|hy;(·exact(hp y hy).kept h2 hrow);·simp at hy;subst hy;exact hk.kept h2 hrow
theorem uB{w:F}{ops:Array rS}{rest:List rS}{o:rS}{a:Act}{Q:Exit->Act->F->Prop}(hgd:o.guard=G)(s x:rM)(ho:o.op=.call {callee:=.builtin .append,args:=#[s,x],argTypes:=#[42,42]})(base:Nat)(v:H)(l:List Vl)(hs:a.eval s=v)(hown:J0 base w v l)(vo:H)(p:Vl)(hk:Ya w vo p.other)(nb:Nat)(hb:∀j u,[tA tE p.bit,tL p.right,vo][j]?=I u->w.cell? ⟨nb,j,G⟩=I u)(hx:a.eval x=J (I ⟨nb,0,G⟩) 1 1)(hl:(l.length+1)*40<=140737488355328)(hbase:base<=w.heap.size)(h:∀v' w',J0 base w' v' (l++[p])->L w w' v.ownBlock->wpList O ops Q rest (a.put o.dst v') w'):wpList O ops Q (o::rest) a w:=wpList_plain hgd fun _ hK=>RW s x ho base v l hs hown vo p hk nb hb hx hl hbase fun v' w' h1 h2=>hK _ _ (h v' w' h1 h2)
theorem Wu{w:F}{nb:Nat}{p:Vl}{vo:H}{t:tV}(h:w.heap[nb]?=I (S #[tA tE p.bit,tL p.right,vo] t)):∀j u,[tA tE p.bit,tL p.right,vo][j]?=I u->w.cell? ⟨nb,j,G⟩=I u:=by
 intro j u hj;simp[tR,h];simpa using hj
def gU:H->Nat|J _ n _=>n|_=>0
def PA(t:tV):Prop:=t=93∨t=48∨t=181∨t=28∨t=3
def Lu(B:Nat)(w:F)(i:Nat):Prop:=i<B∨∀cs t fz,w.heap[i]?=I (S cs t fz)->(¬PA t∨∃q,cs[0]?=I (tA pO q))
structure Kp (B : Nat) (w w' : F) : Prop where
  os : w'.os = w.os
  tape : w'.tape = w.tape
  output : w'.output = w.output
  size : w.heap.size <= w'.heap.size
  keep : ∀ i, i < w.heap.size -> Lu B w i -> w'.heap[i]? = w.heap[i]?
theorem Kp.refl(B:Nat)(w:F):Kp B w w:=⟨rfl,rfl,rfl,sA _,fun _ _ _=>rfl⟩
theorem Lu.same{B:Nat}{w w':F}{i:Nat}(h:Lu B w i)(e:w'.heap[i]?=w.heap[i]?):Lu B w' i:=by
 rcases h with h|h;·exact .inl h
 ·exact .inr fun cs t fz hc=>h cs t fz (by rw[<-e];exact hc)
theorem Kp.trans{B:Nat}{w w1 w2:F}(h:Kp B w w1)(k:Kp B w1 w2):Kp B w w2:=⟨k.os.trans h.os,k.tape.trans h.tape,k.output.trans h.output,tN h.size k.size,fun i hi hs=>by
 have e:=h.keep i hi hs;exact(k.keep i (tI hi h.size) (hs.same e)).trans e⟩
theorem Kp.grown{B:Nat}{w w':F}(h:L w w' G):Kp B w w':=⟨h.os,h.tape,h.output,h.size,fun i hi _=>h.block i hi (by
 simp)⟩
theorem Kp.turn{B:Nat}{w w':F}{g:Nat}{cs:Array H}{t:tV}{fz:Nat×Nat}(h:L w w' (I g))(hB:B<=g)(hb:w.heap[g]?=I (S cs t fz))(ht:PA t)(h0:∀q,cs[0]?≠I (tA pO q)):Kp B w w':=⟨h.os,h.tape,h.output,h.size,fun i hi hs=>by
 refine h.block i hi fun e=>?_;cases e;rcases hs with hs|hs;·omega
 ·rcases hs cs t fz hb with h1|⟨q,h1⟩;(·exact h1 ht);·exact h0 q h1⟩
theorem Kp.low{B:Nat}{w w':F}(h:Kp B w w')(w0:F)(hg:L w0 w G)(hB:w0.heap.size<=B):L w0 w' G:=⟨h.os.trans hg.os,h.tape.trans hg.tape,h.output.trans hg.output,tN hg.size h.size,fun i hi hn=>(h.keep i (tI hi hg.size) (.inl (by
 omega))).trans (hg.block i hi hn)⟩
def qR(t:tV):Prop:=t=5∨t=44∨t=99∨t=172∨t=191∨t=122
def xD(t:tV):Prop:=¬qR t
theorem PA.two{t:tV}(h:PA t):xD t:=by
 rcases h with rfl|rfl|rfl|rfl|rfl<;>simp[xD,qR]
def M6(B:Nat)(w:F)(i:Nat):Prop:=i<B∨∀cs t fz,w.heap[i]?=I (S cs t fz)->(¬xD t∨∃q,cs[0]?=I (tA pO q))
structure Ad (B : Nat) (w w' : F) : Prop where
  os : w'.os = w.os
  tape : w'.tape = w.tape
  output : w'.output = w.output
  size : w.heap.size <= w'.heap.size
  keep : ∀ i, i < w.heap.size -> M6 B w i -> w'.heap[i]? = w.heap[i]?
theorem Kp.two{B C:Nat}{w w':F}(h:Kp B w w')(hC:C<=B):Ad C w w':=⟨h.os,h.tape,h.output,h.size,fun i hi hs=>h.keep i hi (by
 rcases hs with hs|hs;·exact .inl (tI hs hC)
 ·exact .inr fun cs t fz hc=>(hs cs t fz hc).imp (fun h1 h2=>h1 h2.two) id)⟩
theorem Ad.refl(B:Nat)(w:F):Ad B w w:=⟨rfl,rfl,rfl,sA _,fun _ _ _=>rfl⟩
theorem M6.same{B:Nat}{w w':F}{i:Nat}(h:M6 B w i)(e:w'.heap[i]?=w.heap[i]?):M6 B w' i:=by
 rcases h with h|h;·exact .inl h
 ·exact .inr fun cs t fz hc=>h cs t fz (by rw[<-e];exact hc)
theorem Ad.trans{B:Nat}{w w1 w2:F}(h:Ad B w w1)(k:Ad B w1 w2):Ad B w w2:=⟨k.os.trans h.os,k.tape.trans h.tape,k.output.trans h.output,tN h.size k.size,fun i hi hs=>by
 have e:=h.keep i hi hs;exact(k.keep i (tI hi h.size) (hs.same e)).trans e⟩
theorem Ad.grown{B:Nat}{w w':F}(h:L w w' G):Ad B w w':=⟨h.os,h.tape,h.output,h.size,fun i hi _=>h.block i hi (by
 simp)⟩
def LU(w:F)(i:Nat):Prop:=∀cs t fz,w.heap[i]?=I (S cs t fz)->(qR t∨t=48∨∃q,cs[0]?=I (tA pO q))
structure KL (w w' : F) : Prop where
  os : w'.os = w.os
  tape : w'.tape = w.tape
  output : w'.output = w.output
  size : w.heap.size <= w'.heap.size
  keep : ∀ i, i < w.heap.size -> LU w i -> w'.heap[i]? = w.heap[i]?
theorem KL.two{w w':F}(h:KL w w'):Ad 0 w w':=⟨h.os,h.tape,h.output,h.size,fun i hi hs=>h.keep i hi fun cs t fz hc=>by
 rcases hs with hs|hs;·omega
 ·rcases hs cs t fz hc with h1|h1;(·exact .inl (sQ h1));·exact .inr (.inr h1)⟩
theorem KL.refl(w:F):KL w w:=⟨rfl,rfl,rfl,sA _,fun _ _ _=>rfl⟩
theorem LU.same{w w':F}{i:Nat}(h:LU w i)(e:w'.heap[i]?=w.heap[i]?):LU w' i:=fun cs t fz hc=>h cs t fz (by
 rw[<-e];exact hc)
theorem KL.trans{w w1 w2:F}(h:KL w w1)(k:KL w1 w2):KL w w2:=⟨k.os.trans h.os,k.tape.trans h.tape,k.output.trans h.output,tN h.size k.size,fun i hi hs=>by
 have e:=h.keep i hi hs;exact(k.keep i (tI hi h.size) (hs.same e)).trans e⟩
theorem KL.grown{w w':F}(h:L w w' G):KL w w':=⟨h.os,h.tape,h.output,h.size,fun i hi _=>h.block i hi (by
 simp)⟩
theorem KL.turn{w w':F}{row:Option Nat}(h:L w w' row)(hr:∀g,row=I g->∃cs t fz,w.heap[g]?=I (S cs t fz)∧¬qR t∧t≠48∧∀q,cs[0]?≠I (tA pO q)):KL w w':=⟨h.os,h.tape,h.output,h.size,fun i hi hs=>by
 refine h.block i hi fun e=>?_;obtain⟨cs,t,fz,hb,h1,h2,h3⟩:=hr i e.symm;rcases hs cs t fz hb with h4|h4|⟨q,h4⟩;·exact h1 h4
 ·exact h2 h4
 ·exact h3 q h4⟩
def JV(w:F)(P:F->Prop):Prop:=∀w',KL w w'->P w'
theorem JV.now{w:F}{P:F->Prop}(h:JV w P):P w:=h w (KL.refl w)
theorem JV.later{w w':F}{P:F->Prop}(h:JV w P)(k:KL w w'):JV w' P:=fun w2 k2=>h w2 (k.trans k2)
theorem JV.grown{w w':F}{P:F->Prop}(h:JV w P)(k:L w w' G):JV w' P:=h.later (KL.grown k)
def Ju(w:F)(P:F->Prop):Prop:=∀w',L w w' G->P w'
theorem Ju.now{w:F}{P:F->Prop}(h:Ju w P):P w:=h w (Qb w G)
theorem Ju.grown{w w':F}{P:F->Prop}(h:Ju w P)(k:L w w' G):Ju w' P:=fun w2 k2=>h w2 (Qa k k2)
def Zf(B:Nat)(w:F)(P:F->Prop):Prop:=∀w',Ad B w w'->P w'
theorem Zf.now{B:Nat}{w:F}{P:F->Prop}(h:Zf B w P):P w:=h w (Ad.refl B w)
theorem Zf.later{B C:Nat}{w w':F}{P:F->Prop}(h:Zf C w P)(k:Kp B w w')(hC:C<=B:=by
 first|exact Nat.zero_le _|exact Nat.le_refl _):Zf C w' P:=fun w2 k2=>h w2 ((k.two hC).trans k2)
theorem Zf.later2{C:Nat}{w w':F}{P:F->Prop}(h:Zf C w P)(k:Ad C w w'):Zf C w' P:=fun w2 k2=>h w2 (k.trans k2)
theorem Zf.grown{C:Nat}{w w':F}{P:F->Prop}(h:Zf C w P)(k:L w w' G):Zf C w' P:=h.later2 (Ad.grown k)
theorem Zf.mono{B:Nat}{w:F}{P Q:F->Prop}(h:Zf B w P)(k:∀w',P w'->Q w'):Zf B w Q:=fun w' h'=>k w' (h w' h')
theorem Vy{w w':F}{v:H}{bs:List UInt8}(h:Qe w v bs)(hb:bs=[]∨∃b,v.ownBlock=I b∧w'.heap[b]?=w.heap[b]?):Qe w' v bs:=by
 obtain⟨a,cap,rfl,hc,h⟩:=h;refine⟨a,cap,rfl,hc,?_⟩;rcases h with h|⟨b,o,rfl,h⟩;·exact .inl h
 ·refine .inr ⟨b,o,rfl,fun i hi=>?_⟩;rcases hb with rfl|⟨b',e,hb⟩;(·simp at hi);·simp[pJ]at e;subst e;rw[sJ hb];exact h i hi
theorem l8:¬xD 5:=by
 simp[xD,qR]
theorem ZZ{B:Nat}{w:F}{v:H}{bs:List UInt8}(h:Qh 0 w v bs):Zf B w (fun w=>Qh 0 w v bs):=fun w' k=>by
 obtain⟨h1,h2⟩:=h;rcases h2 with h2|⟨b,e,hl,h2⟩;·exact⟨Vy h1 (.inl h2),.inl h2⟩
 ·(obtain⟨cur,fz,h2⟩:∃cur fz,w.heap[b]?=I (S cur 5 fz):=by rcases h2 with h2|h2;(·omega);·exact h2);have hs:w'.heap[b]?=w.heap[b]?:=k.keep b hl (.inr fun cs t f hc=>.inl (by rw[h2]at hc;simp only[Y,tW]at hc;rw[<-hc.2.1];exact l8));exact⟨Vy h1 (.inr ⟨b,e,hs⟩),.inr ⟨b,e,tI hl k.size,.inr ⟨cur,fz,by rw[hs];exact h2⟩⟩⟩
theorem GK{B:Nat}{w:F}{v:H}{bs:List UInt8}(h:Ya w v bs):Zf B w (fun w=>Ya w v bs):=fun w' k=>by
 obtain⟨h1,h2⟩:=h;rcases h2 with h2|⟨b,e,hl,cur,t,fz,h2,h3⟩;·exact⟨Vy h1 (.inl h2),.inl h2⟩
 ·have hs:w'.heap[b]?=w.heap[b]?:=k.keep b hl (.inr fun cs t' f hc=>by rw[h2]at hc;simp only[Y,tW]at hc;obtain⟨rfl,rfl,_⟩:=hc;rcases h3 with rfl|h3;(·exact .inl l8);·exact .inr h3);exact⟨Vy h1 (.inr ⟨b,e,hs⟩),.inr ⟨b,e,tI hl k.size,cur,t,fz,by rw[hs];exact h2,h3⟩⟩
theorem UV{B base:Nat}{w:F}{t:tV}{n m:Nat}{v:H}{xs:List H}(h:w.ownsRow base t n v m xs)(ht:¬xD t):Zf B w (fun w=>w.ownsRow base t n v m xs):=fun w' k=>by
 refine⟨h.1,?_⟩;rcases h.2with h|⟨g,cap,cur,e,hb,hg,rest⟩;·exact .inl h
 ·refine .inr ⟨g,cap,cur,e,hb,?_,rest⟩;rw[k.keep g (tH.1 hg).1 (.inr fun cs t' f hc=>.inl (by rw[hg]at hc;simp only[Y,tW]at hc;rw[<-hc.2.1];exact ht))];exact hg
theorem Sg{B rb:Nat}{w:F}{v:H}{l:List Rd}(h:ZN rb 0 w v l):Zf B w (fun w=>ZN rb 0 w v l):=fun w' k=>by
 obtain⟨us,h1,h2,h3⟩:=h;exact⟨us,h1,UV h2 (by simp[xD,qR]) w' k,fun x hx=>⟨ZZ (h3 x hx).1 w' k,ZZ (h3 x hx).2.1 w' k,ZZ (h3 x hx).2.2 w' k⟩⟩
theorem Aw{B rb:Nat}{w:F}{v:H}{l:List Zi}(h:Q5 rb 0 w v l):Zf B w (fun w=>Q5 rb 0 w v l):=fun w' k=>by
 obtain⟨us,h1,h2,h3⟩:=h;exact⟨us,h1,UV h2 (by simp[xD,qR]) w' k,fun x hx=>⟨ZZ (h3 x hx).1 w' k,ZZ (h3 x hx).2.1 w' k,ZZ (h3 x hx).2.2 w' k⟩⟩
theorem VE{B:Nat}{w:F}{v:H}{l:PL}(h:QP 0 w v l):Zf B w (fun w=>QP 0 w v l):=fun w' k=>by
 obtain⟨a,cap,rfl,hc,h⟩:=h;refine⟨a,cap,rfl,hc,?_⟩;rcases h with h|⟨b,o,rfl,hb,h⟩;·exact .inl h
 ·(obtain⟨cur,fz,hb⟩:∃cur fz,w.heap[b]?=I (S cur 44 fz):=by rcases hb with hb|hb;(·omega);·exact hb);have hs:w'.heap[b]?=w.heap[b]?:=k.keep b (tH.1 hb).1 (.inr fun cs t f hc=>.inl (by rw[hb]at hc;simp only[Y,tW]at hc;rw[<-hc.2.1];simp[xD,qR]));refine .inr ⟨b,o,rfl,.inr ⟨cur,fz,by rw[hs];exact hb⟩,fun i hi=>?_⟩;obtain⟨vk,vv,c1,c2,h1,h2⟩:=h i hi;exact⟨vk,vv,by rw[sJ hs];exact c1,by rw[sJ hs];exact c2,ZZ h1 w' k,ZZ h2 w' k⟩
theorem AJ{B rb:Nat}{w:F}{v:H}{l:FL}(h:ZG rb w v l):Zf B w (fun w=>ZG rb w v l):=fun w' k=>by
 obtain⟨vs,h1,h2,h3⟩:=h;exact⟨vs,h1,UV h2 (by simp[xD,qR]) w' k,fun i hi=>⟨ZZ (h3 i hi).1 w' k,VE (h3 i hi).2 w' k⟩⟩
theorem Ez{B:Nat}{w:F}{v:H}{l:List Zi}(h:Xv 0 w v l):Zf B w (fun w=>Xv 0 w v l):=fun w' k=>by
 obtain⟨a,cap,rfl,hc,h⟩:=h;refine⟨a,cap,rfl,hc,?_⟩;rcases h with h|⟨b,o,rfl,hb,h⟩;·exact .inl h
 ·(obtain⟨cur,fz,hb⟩:∃cur fz,w.heap[b]?=I (S cur 172 fz):=by rcases hb with hb|hb;(·omega);·exact hb);have hs:w'.heap[b]?=w.heap[b]?:=k.keep b (tH.1 hb).1 (.inr fun cs t f hc=>.inl (by rw[hb]at hc;simp only[Y,tW]at hc;rw[<-hc.2.1];simp[xD,qR]));refine .inr ⟨b,o,rfl,.inr ⟨cur,fz,by rw[hs];exact hb⟩,fun i hi=>?_⟩;obtain⟨vn,vk,vv,c1,c2,c3,c4,h1,h2,h3⟩:=h i hi;exact⟨vn,vk,vv,by rw[sJ hs];exact c1,by rw[sJ hs];exact c2,by rw[sJ hs];exact c3,by rw[sJ hs];exact c4,ZZ h1 w' k,ZZ h2 w' k,ZZ h3 w' k⟩
theorem PH{B:Nat}{w:F}{v:H}{t:Tx}(h:qE w v t):Zf B w (fun w=>qE w v t):=fun w' k=>by
 obtain⟨vr,vw,rfl,h1,h2⟩:=h;exact⟨vr,vw,rfl,Sg h1 w' k,Aw h2 w' k⟩
theorem SJ{B base:Nat}{w:F}{v:H}{l:List Vl}(h:J0 base w v l):Zf B w (fun w=>J0 base w v l):=fun w' k=>by
 obtain⟨us,h1,h2,h3,h4⟩:=h;exact⟨us,h1,UV h2 (by simp[xD,qR]) w' k,fun x hx=>GK (h3 x hx) w' k,h4⟩
theorem yS{B n:Nat}{w:F}{v:H}{p:Gw}(h:ZD n w v p):Zf B w (fun w=>Xw w v p):=fun w' k=>by
 obtain⟨base,vs,vk,vv,rfl,_,_,h1,h2,h3⟩:=h;exact⟨vs,vk,vv,rfl,(SJ h1 w' k).list,(GK h2 w' k).1,(GK h3 w' k).1⟩
section
section
variable{α:Type}{T:tV}{k:Nat}{P:F->List H->α->Prop}{B:Nat}{w w':F}{v:H}{l:List α}
def JR(T:tV)(k:Nat)(P:F->List H->α->Prop)(B:Nat)(w:F)(v:H)(l:List α):Prop:=∃us:List (List H×α),us.map (·.2)=l∧w.ownsRow B T k v l.length (us.flatMap (·.1))∧(l=[]->v=J G 0 0)∧∀x∈us,x.1.length=k∧(∀u∈x.1,u.oneCell'=M)∧(∀q,x.1[0]?≠I (tA pO q))∧Zf 0 w (fun w=>P w x.1 x.2)
theorem Pb(T:tV)(k:Nat)(P:F->List H->α->Prop)(B:Nat)(w:F):JR T k P B w (J G 0 0) []:=⟨[],rfl,sR _ _ _ _,fun _=>rfl,fun x hx=>by
 simp at hx⟩
theorem JR.kept(h:JR T k P B w v l)(hk:Kp B w w')(hs:∀g,v.ownBlock=I g->w'.heap[g]?=w.heap[g]?):JR T k P B w' v l:=by
 obtain⟨us,h1,h2,h3,h4⟩:=h;refine⟨us,h1,⟨h2.1,?_⟩,h3,fun x hx=>⟨(h4 x hx).1,(h4 x hx).2.1,(h4 x hx).2.2.1,(h4 x hx).2.2.2.later hk⟩⟩;rcases h2.2with h|⟨g,cap,cur,rfl,hb,hg,rest⟩;·exact .inl h
 ·exact .inr ⟨g,cap,cur,rfl,hb,by rw[hs g rfl];exact hg,rest⟩
theorem JR.kept2(h:JR T k P B w v l)(hk:Ad 0 w w')(hs:∀g,v.ownBlock=I g->w'.heap[g]?=w.heap[g]?):JR T k P B w' v l:=by
 obtain⟨us,h1,h2,h3,h4⟩:=h;refine⟨us,h1,⟨h2.1,?_⟩,h3,fun x hx=>⟨(h4 x hx).1,(h4 x hx).2.1,(h4 x hx).2.2.1,(h4 x hx).2.2.2.later2 hk⟩⟩;rcases h2.2with h|⟨g,cap,cur,rfl,hb,hg,rest⟩;·exact .inl h
 ·exact .inr ⟨g,cap,cur,rfl,hb,by rw[hs g rfl];exact hg,rest⟩
theorem JR.lt(h:JR T k P B w v l):∀g,v.ownBlock=I g->B<=g∧g<w.heap.size:=by
 obtain⟨us,h1,h2,h3,h4⟩:=h;exact sK h2
theorem JR.grown(h:JR T k P B w v l)(hg:L w w' G):JR T k P B w' v l:=h.kept (Kp.grown hg) fun g e=>hg.block g (h.lt g e).2 (by
 simp)
theorem JR.shape(h:JR T k P B w v l):∃a cap,v=J a l.length cap:=by
 obtain⟨us,_,h,_⟩:=h;rcases h.2with⟨rfl,h0⟩|⟨g,cap,cur,rfl,_⟩;·exact⟨G,0,by rw[h0]⟩
 ·exact⟨_,cap,rfl⟩
theorem LM{k:Nat}:∀(us:List (List H×α))(_:∀x∈us,x.1.length=k)(i:Nat)(hi:i<us.length)(j:Nat),j<k->(us.flatMap (·.1))[i*k+j]?=us[i].1[j]?|[],_,i,hi,_,_=>by simp at hi|x::us,hk,0,_,j,hj=>by have:=hk x (by simp);simp[pM (show j<x.1.length by omega)]|x::us,hk,i+1,hi,j,hj=>by have hx:=hk x (by simp);have:=LM us (fun y hy=>hk y (by simp[hy])) i (by simpa using hi) j hj;rw[tM,List.getElem?_append_right (by rw[hx,pB];omega),hx,show(i+1)*k+j-k=i*k+j by rw[pB];omega,this];simp
theorem JR.blk(hk0:0<k)(h:JR T k P B w v l):v.ownBlock=G∨∃g cs,v.ownBlock=I g∧B<=g∧w.heap[g]?=I (S cs T (0,0))∧∀q,cs[0]?≠I (tA pO q):=by
 obtain⟨us,h1,h2,h3,h4⟩:=h;rcases h2.2with⟨rfl,_⟩|⟨g,cap,cur,rfl,hb,hg,hn,_,hcs,ht⟩;·exact .inl rfl
 ·refine .inr ⟨g,cur,rfl,hb,hg,fun q hq=>?_⟩;cases us with|nil=>subst h1;have:=h3 rfl;cases this|cons x us=>(have hl:l.length=us.length+1:=by rw[<-h1];simp);(have e:(cur.toList.take (l.length*k))[0]?=((x::us).flatMap (·.1))[0]?:=by rw[ht]);have hx:=(h4 x (by simp)).1;rw[sB,if_pos (by rw[hl,pB];omega),tM,pM (by omega),pC,hq]at e;exact(h4 x (by simp)).2.2.1 q e.symm
theorem JR.turn(hk0:0<k)(hT:PA T)(h:JR T k P B w v l)(hg:L w w' v.ownBlock):Kp B w w':=by
 rcases h.blk hk0 with e|⟨g,cs,e,hb,hc,h0⟩;·rw[e]at hg;exact Kp.grown hg
 ·rw[e]at hg;exact Kp.turn hg hb hc hT h0
theorem JR.other(hk0:0<k)(h:JR T k P B w v l){row:Option Nat}(hk:Kp B w w')(hg:L w w' row)(hr:row=G∨∃g cs t fz,row=I g∧w.heap[g]?=I (S cs t fz)∧t≠T):JR T k P B w' v l:=by
 refine h.kept hk fun g e=>?_;refine hg.block g (h.lt g e).2 fun e2=>?_;rcases hr with rfl|⟨g',cs,t,fz,rfl,hc,ht⟩;·cases e2
 ·cases e2;rcases h.blk hk0 with e3|⟨g2,cs2,e3,_,hc2,_⟩;(·rw[e3]at e;cases e);·rw[e3]at e;cases e;rw[hc]at hc2;simp only[Y,tW]at hc2;exact ht hc2.2.1
theorem JR.at(h:JR T k P B w v l)(d:α)(i:Nat)(hi:i<l.length):∃g cap cs,v=J (I ⟨g,0,G⟩) l.length cap∧cs.length=k∧l.length<=cap∧(∀j,j<k->w.cell? ⟨g,i*k+j,G⟩=cs[j]?)∧Zf 0 w (fun w=>P w cs (l.getD i d)):=by
 obtain⟨us,h1,h2,h3,h4⟩:=h;have hul:us.length=l.length:=by rw[<-h1];simp
 rcases h2.2with⟨rfl,h0⟩|⟨g,cap,cur,rfl,hb,hg,hn,_,hcs,ht⟩;·omega
 ·have hx:=h4 us[i] (sN (by omega));refine⟨g,cap,us[i].1,rfl,hx.1,hn,fun j hj=>?_,?_⟩;(·(have e:(cur.toList.take (l.length*k))[i*k+j]?=(us.flatMap (·.1))[i*k+j]?:=by rw[ht]);(have hlt:i*k+j<l.length*k:=by have:(i+1)*k<=l.length*k:=pF k hi;rw[pB]at this;omega);rw[LM us (fun x hx=>(h4 x hx).1) i (by omega) j hj,sB,if_pos hlt,pC]at e;simp[tR,hg,e]);·(have e:l.getD i d=us[i].2:=by subst h1;simp[List.getD,show i<us.length by omega]);rw[e];exact hx.2.2.2
theorem yR{o:rS}{a:Act}{K:Act->F->Prop}{Q:Exit->Act->F->Prop}(s x:rM)(t:tV)(ho:o.op=.call {callee:=.builtin .append,args:=#[s,x],argTypes:=#[t,t]})(i:TypeInfo)(z:H)(bytes:Nat)(ht:O.underlying t=I (.slice T))(hi:O.info? T=I i)(hz:i.zero=I z)(hsize:i.size=k)(hby:i.bytes=bytes)(hzs:z.cells.size=k)(hsz:0<k)(hT:PA T)(hs:a.eval s=v)(hown:JR T k P B w v l)(nb:Nat)(cs:List H)(y:α)(hx:a.eval x=J (I ⟨nb,0,G⟩) 1 1)(hcl:cs.length=k)(hc:∀j u,cs[j]?=I u->w.cell? ⟨nb,j,G⟩=I u)(h1:∀u∈cs,u.oneCell'=M)(h0:∀q,cs[0]?≠I (tA pO q))(hP:Zf 0 w (fun w=>P w cs y))(h63:l.length+1<=pL)(hbytes:(l.length+1)*bytes<=140737488355328)(hbase:B<=w.heap.size)(h:∀v' w',JR T k P B w' v' (l++[y])->Kp B w w'->L w w' v.ownBlock->K (a.put o.dst v') w'):o.wp O a w K Q:=by
 have hown0:=hown;obtain⟨us,e1,h2,h3,h4⟩:=hown;refine wp_append_lies w s x t ho B T i z k bytes ht hi hz hsize hby hzs hsz v l.length (us.flatMap (·.1)) hs h2 ⟨nb,0,G⟩ 1 1 cs hx (by omega) (fun j u hj=>by rw[Xp,sL];exact hc j u hj) h1 (by omega) h63 hbytes hbase _ rfl ?_;intro g cap w' hr hg hgg hlt;have hk:=hown0.turn hsz hT hg;refine h _ w' ⟨us++[(cs,y)],by simp[e1],?_,fun e=>by simp at e,fun x hx=>?_⟩ hk hg;·simpa[List.flatMap_append]using hr
 ·rcases tY.1 hx with hx|hx;(·exact⟨(h4 x hx).1,(h4 x hx).2.1,(h4 x hx).2.2.1,(h4 x hx).2.2.2.later hk⟩);·(obtain rfl:x=(cs,y):=by simpa using hx);exact⟨hcl,h1,h0,hP.later hk⟩
theorem JR.take(h:JR T k P B w v l){a:Option rC}{n cap:Nat}(hv:v=J a n cap)(m:Nat)(hm:m<=l.length)(h0:0<m):JR T k P B w (J a m cap) (l.take m):=by
 subst hv;obtain⟨us,h1,h2,h3,h4⟩:=h;have hul:us.length=l.length:=by rw[<-h1];simp
 have hlm:(l.take m).length=m:=by simp;omega
 rcases h2.2with⟨e,h0'⟩|⟨g,cp,cur,e,hb,hg,hn,hmx,hcs,ht⟩;·omega
 ·simp only[tG]at e;obtain⟨rfl,rfl,rfl⟩:=e;(have hfl:(us.take m).flatMap (·.1)=(us.flatMap (·.1)).take (m*k):=by(have hk:∀(vs:List (List H×α)),(∀x∈vs,x.1.length=k)->∀m,(vs.take m).flatMap (·.1)=(vs.flatMap (·.1)).take (m*k):=by intro vs;induction vs with|nil=>intro _ m;simp|cons x vs ih=>intro hx m;cases m with|zero=>simp|succ m=>have:=hx x (by simp);rw[rG,tM,tM,ih (fun y hy=>hx y (by simp[hy])) m,List.take_append,this,pB,show m*k+k-k=m*k by omega,List.take_of_length_le (l:=x.1) (by omega)]);exact hk us (fun x hx=>(h4 x hx).1) m);refine⟨us.take m,by rw[<-h1,List.map_take],⟨?_,.inr ⟨g,cap,cur,by rw[hlm],hb,hg,by omega,hmx,hcs,?_⟩⟩,fun e=>?_,fun x hx=>h4 x (List.mem_of_mem_take hx)⟩;(·rw[hfl,pA,h2.1,hlm];have:m*k<=l.length*k:=pF k hm;omega);(·rw[hlm,hfl,<-ht,oE];have:m*k<=l.length*k:=pF k hm;rw[oF this]);·rw[e]at hlm;simp at hlm;omega
end
end
theorem FH:(181:Nat)≠5:=by
 decide
theorem j9:(181:Nat)≠172:=by
 decide
def Ck(w:F)(b o:Nat)(c:XO):Prop:=∃vs,w.cell? ⟨b,o,G⟩=I (tA tE c.turn)∧w.cell? ⟨b,o+1,G⟩=I vs∧QS w vs c.writes
theorem Ck.grown{w w':F}{b o:Nat}{c:XO}(h:Ck w b o c)(hg:L w w' G):Ck w' b o c:=by
 obtain⟨vs,c1,c2,h⟩:=h;exact⟨vs,hg.cell c1 (by simp),hg.cell c2 (by simp),h.grown hg⟩
def Ji(w:F)(v:H)(l:List XO):Prop:=∃a cap,v=J a l.length cap∧l.length<=cap∧((l=[]∧(a=G->cap=0))∨∃b o,a=I ⟨b,o,G⟩∧∀i,i<l.length->Ck w b (o+i*2) (l.getD i Zr))
theorem EH(w:F):Ji w (J G 0 0) []:=⟨G,0,rfl,sA _,.inl ⟨rfl,fun _=>rfl⟩⟩
theorem Ji.shape{w:F}{v:H}{l:List XO}(h:Ji w v l):∃a cap,v=J a l.length cap:=by
 obtain⟨a,cap,rfl,_⟩:=h;exact⟨a,cap,rfl⟩
theorem Ji.grown{w w':F}{v:H}{l:List XO}(h:Ji w v l)(hg:L w w' G):Ji w' v l:=by
 obtain⟨a,cap,rfl,hc,h⟩:=h;refine⟨a,cap,rfl,hc,?_⟩;rcases h with h|⟨b,o,rfl,h⟩;·exact .inl h
 ·exact .inr ⟨b,o,rfl,fun i hi=>(h i hi).grown hg⟩
theorem Ji.at{w:F}{a:Option rC}{n cap:Nat}{l:List XO}(h:Ji w (J a n cap) l)(i:Nat)(hi:i<l.length):∃b o,a=I ⟨b,o,G⟩∧Ck w b (o+i*2) (l.getD i Zr):=by
 obtain⟨a',cap',e,hc,h⟩:=h;simp only[tG]at e;obtain⟨rfl,rfl,rfl⟩:=e;rcases h with⟨rfl,_⟩|⟨b,o,rfl,h⟩;·simp at hi
 ·exact⟨b,o,rfl,h i hi⟩
structure Ax (l : List XO) : Prop where
  many : l.length * 32 <= 140737488355328
  each : ∀ i, i < l.length -> NZ (l.getD i Zr)
abbrev CV:=XO×H
def kI(us:List CV):List H:=us.flatMap fun x=>[tA tE x.1.turn,x.2]
theorem Mw(a b:List CV):kI (a++b)=kI a++kI b:=by
 simp[kI]
theorem fU:(O.info? 181).map (fun i=>(i.zero,i.size,i.bytes))=I (I (sU #[tA tE 0,J G 0 0]),2,32):=by
 kernel_rfl
def Je(base:Nat)(w:F)(v:H)(l:List XO):Prop:=∃us:List CV,us.map (·.1)=l∧w.ownsRow base 181 2 v l.length (kI us)∧(l=[]->v=J G 0 0)∧∀x∈us,Xv 0 w x.2 x.1.writes
theorem Cn(base:Nat)(w:F):Je base w (J G 0 0) []:=⟨[],rfl,sR _ _ _ _,fun _=>rfl,fun x hx=>by
 simp at hx⟩
theorem Je.row{base:Nat}{w:F}{v:H}{l:List XO}(h:Je base w v l):v.ownBlock=G∨∃g cur t fz,v.ownBlock=I g∧base<=g∧w.heap[g]?=I (S cur t fz)∧t≠5∧t≠172:=by
 obtain⟨us,_,h,_⟩:=h;rcases h.2with⟨rfl,_⟩|⟨g,cap,cur,rfl,hb,hg,_⟩;·exact .inl rfl
 ·exact .inr ⟨g,cur,_,_,rfl,hb,hg,FH,j9⟩
theorem Je.row0{base:Nat}{w:F}{v:H}{l:List XO}(h:Je base w v l):v.ownBlock=G∨∃g cur t fz,v.ownBlock=I g∧0<=g∧w.heap[g]?=I (S cur t fz)∧t≠5∧t≠172:=by
 rcases h.row with h|⟨g,cur,t,fz,h1,_,h2⟩;·exact .inl h
 ·exact .inr ⟨g,cur,t,fz,h1,tS _,h2⟩
theorem Je.lt{base:Nat}{w:F}{v:H}{l:List XO}(h:Je base w v l):∀k,v.ownBlock=I k->base<=k∧k<w.heap.size:=by
 obtain⟨us,_,h,_⟩:=h;exact sK h
theorem Je.grownNone{base:Nat}{w w':F}{v:H}{l:List XO}(h:Je base w v l)(hg:L w w' G):Je base w' v l:=by
 obtain⟨us,h1,h2,h0,h3⟩:=h;refine⟨us,h1,tX h2 hg ?_,h0,fun x hx=>(h3 x hx).kept hg (.inl rfl)⟩;cases hv:v.ownBlock with|none=>exact .inl rfl|some k=>exact .inr (by simp)
theorem Je.shape{base:Nat}{w:F}{v:H}{l:List XO}(h:Je base w v l):∃a cap,v=J a l.length cap:=by
 obtain⟨us,_,h,_⟩:=h;rcases h.2with⟨rfl,h0⟩|⟨g,cap,cur,rfl,_⟩;·exact⟨G,0,by rw[h0]⟩
 ·exact⟨_,cap,rfl⟩
theorem Sa{base:Nat}{w W w1:F}{v:H}{l:List XO}(h:L w W G)(ho:Je base W v l)(hb:w.heap.size<=base)(hg:L W w1 v.ownBlock):L w w1 G:=⟨hg.os.trans h.os,hg.tape.trans h.tape,hg.output.trans h.output,tN h.size hg.size,fun i hi hn=>(hg.block i (tI hi h.size) (fun e=>by
 have:=(ho.lt i e.symm).1;omega)).trans (h.block i hi hn)⟩
theorem Ek{w:F}{o:rS}{a:Act}{K:Act->F->Prop}{Q:Exit->Act->F->Prop}(s x:rM)(ho:o.op=.call {callee:=.builtin .append,args:=#[s,x],argTypes:=#[83,83]})(base:Nat)(v:H)(l:List XO)(hs:a.eval s=v)(hown:Je base w v l)(vw:H)(c:XO)(hw:Xv 0 w vw c.writes)(nb:Nat)(hb:w.heap[nb]?=I (S #[tA tE c.turn,vw] 181))(hx:a.eval x=J (I ⟨nb,0,G⟩) 1 1)(hl:(l.length+1)*32<=140737488355328)(hbase:base<=w.heap.size)(h:∀v' w',Je base w' v' (l++[c])->L w w' v.ownBlock->K (a.put o.dst v') w'):o.wp O a w K Q:=by
 obtain⟨i0,hi,hz0,hz1,hz2⟩:=pD fU;have hrow:=hown.row0;obtain⟨us,hul,hr,_,hp⟩:=hown;refine wp_append_lies w s x 83 ho base 181 i0 (sU #[tA tE 0,J G 0 0]) 2 32 Tryz.underlying83 hi hz0 hz1 hz2 rfl (by decide) v l.length (kI us) hs hr ⟨nb,0,G⟩ 1 1 (kI [(c,vw)]) hx rfl (rF (cs:=#[tA tE c.turn,vw]) hb) ?_ (by omega) (by unfold pL;omega) hl hbase _ rfl ?_;·intro u hu;simp only[kI,tM,rO,rU,tK,tQ,or_false]at hu;rcases hu with rfl|rfl;(·rfl);·exact hw.oneCell
 ·intro g cap w' q1 q2 _ _;refine h _ w' ⟨us++[(c,vw)],by simp[hul],?_,fun e=>by simp at e,?_⟩ q2;(·rw[Mw,tB];exact q1);·intro y hy;rcases tY.1 hy with hy|hy;(·exact(hp y hy).kept q2 hrow);·simp only[tK,tQ,or_false]at hy;subst hy;exact hw.kept q2 hrow
theorem kW{w:F}{ops:Array rS}{rest:List rS}{o:rS}{a:Act}{Q:Exit->Act->F->Prop}(hgd:o.guard=G)(s x:rM)(ho:o.op=.call {callee:=.builtin .append,args:=#[s,x],argTypes:=#[83,83]})(base:Nat)(v:H)(l:List XO)(hs:a.eval s=v)(hown:Je base w v l)(vw:H)(c:XO)(hw:Xv 0 w vw c.writes)(nb:Nat)(hb:w.heap[nb]?=I (S #[tA tE c.turn,vw] 181))(hx:a.eval x=J (I ⟨nb,0,G⟩) 1 1)(hl:(l.length+1)*32<=140737488355328)(hbase:base<=w.heap.size)(h:∀v' w',Je base w' v' (l++[c])->L w w' v.ownBlock->wpList O ops Q rest (a.put o.dst v') w'):wpList O ops Q (o::rest) a w:=wpList_plain hgd fun _ hK=>Ek s x ho base v l hs hown vw c hw nb hb hx hl hbase fun v' w' h1 h2=>hK _ _ (h v' w' h1 h2)
theorem Je.ne{base:Nat}{w:F}{v:H}{l:List XO}(h:Je base w v l){b:Nat}{cs:Array H}{t:tV}{fz:Nat×Nat}(hb:w.heap[b]?=I (S cs t fz))(ht:t≠181):v.ownBlock≠I b:=by
 intro e;obtain⟨us,_,h,_⟩:=h;rcases h.2with⟨rfl,_⟩|⟨g,cap,cur,rfl,_,hg,_⟩;·cases e
 ·cases e;rw[hb]at hg;simp only[Y,tW]at hg;exact ht hg.2.1
theorem Je.setOther{base:Nat}{w:F}{v:H}{l:List XO}(h:Je base w v l){b i:Nat}{cs:Array H}{t:tV}{fz:Nat×Nat}(hb:w.heap[b]?=I (S cs t fz))(ht:t≠5)(ht2:t≠172)(ht3:t≠181)(u:H):Je base (tC w ⟨b,i,G⟩ u) v l:=by
 have hne:=h.ne hb ht3;obtain⟨us,h1,h2,h0,h3⟩:=h;exact⟨us,h1,tX h2 (YV w b i u) (.inr hne),h0,fun x hx=>(h3 x hx).kept (YV w b i u) (.inr ⟨b,cs,t,fz,rfl,tS _,hb,ht,ht2⟩)⟩
theorem Je.other{base:Nat}{w w':F}{v:H}{l:List XO}(h:Je base w v l)(hg:L w w' v.ownBlock){b:Nat}{cs:Array H}{t:tV}{fz:Nat×Nat}(hb:w.heap[b]?=I (S cs t fz))(ht:t≠181):w'.heap[b]?=I (S cs t fz):=by
 rw[hg.block b (tH.1 hb).1 (fun e=>h.ne hb ht e.symm)];exact hb
def Is:Prop:=∀(w:F)(v u:H)(t:Tx)(r:Rd),qJ w v t->xW t->Yx w u r->Fe r->sW O 99 #[v,u] w fun e w'=>∃x,e=tD (sE #[x,tA tE (Xs t r)])∧qE w' x (Yi t r)∧L w w' G
theorem Qf(w:F)(o:Obj):∃W:F,Hid (W=w.alloc o)∧L w W G∧Hid (W.heap[w.heap.size]?=I o):=⟨w.alloc o,rfl,rA _ _ _,oJ w o⟩
theorem Z4{x y:Int}(h:x=y):tD (tA tE y)=tD (tA tE x):=by
 rw[h]
theorem YZ{x y:Bool}(h:x=y):tD (tL y)=tD (tL x):=by
 rw[h]
theorem XJ{W w:F}{b:Nat}{x y z:H}{t:tV}(hg:L W w G)(h:W.heap[b]?=I (S #[x,y,z] t)):w.cell? ⟨b,0,G⟩=I x∧w.cell? ⟨b,1,G⟩=I y∧w.cell? ⟨b,2,G⟩=I z:=by
 have hb:w.heap[b]?=I (S #[x,y,z] t):=by rw[hg.block b (tH.1 h).1 (by simp)];exact h
 refine⟨?_,?_,?_⟩<;>simp[tR,hb]
def MI(p:List Rd)(r:Rd):Int:=if XM r=0then(if p.any (fun q=>XP q r)=M then 3 else 0)else XM r
def Dm(p:List Zi)(w:Zi):Int:=if QC w=0then(if p.any (fun q=>ZQ q w)=M then 3 else 0)else QC w
theorem cJ(l:List Rd)(m:Nat)(h:m<l.length):qI (l.take m) (l.drop m)=if MI (l.take m) (l.getD m Zh)=0then qI (l.take (m+1)) (l.drop (m+1))else MI (l.take m) (l.getD m Zh):=by
 rw[sS h,qI,sZ h,show l[m]=l.getD m Zh by simp[h]];unfold MI;by_cases h1:XM (l.getD m Zh)=0;·rw[if_pos h1,if_pos h1];by_cases h2:(l.take m).any (fun q=>XP q (l.getD m Zh))=M;(·rw[if_pos h2,if_pos h2,if_neg (by omega)]);·rw[if_neg h2,if_neg h2,if_pos rfl]
 ·rw[if_neg h1,if_neg h1,if_neg h1]
theorem cT(l:List Zi)(m:Nat)(h:m<l.length):yH (l.take m) (l.drop m)=if Dm (l.take m) (l.getD m Qr)=0then yH (l.take (m+1)) (l.drop (m+1))else Dm (l.take m) (l.getD m Qr):=by
 rw[sS h,yH,sZ h,show l[m]=l.getD m Qr by simp[h]];unfold Dm;by_cases h1:QC (l.getD m Qr)=0;·rw[if_pos h1,if_pos h1];by_cases h2:(l.take m).any (fun q=>ZQ q (l.getD m Qr))=M;(·rw[if_pos h2,if_pos h2,if_neg (by omega)]);·rw[if_neg h2,if_neg h2,if_pos rfl]
 ·rw[if_neg h1,if_neg h1,if_neg h1]
theorem Fd{α:Type}(d:α)(f:α->Bool)(l:List α)(k:Nat)(h:k<l.length):(l.take (k+1)).any f=((l.take k).any f||f (l.getD k d)):=by
 rw[sZ h,List.any_append,show l[k]=l.getD k d by simp[h]];simp
theorem E6{α:Type}(d:α)(f:α->Bool)(l:List α)(k m:Nat)(hk:k<m)(hm:m<=l.length)(h:f (l.getD k d)=M):(l.take m).any f=M:=by
 rw[rD];refine⟨l.getD k d,?_,h⟩;rw[show l.getD k d=(l.take m)[k]'(by rw[pA];omega)by rw[List.getElem_take];simp[show k<l.length by omega]];exact sN _
theorem xK{w:F}{a:Option rC}{n cap:Nat}{l:List Rd}(h:Xd w (J a n cap) l)(i:Nat)(hi:i<l.length):∃b o,a=I ⟨b,o,G⟩∧∃u1 u2 u3 u4 u5 u6,(w.cell? ⟨b,o+i*4,G⟩=I (J u1 (l.getD i Zh).name.length u2)∧w.cell? ⟨b,o+i*4+1,G⟩=I (J u3 (l.getD i Zh).key.length u4)∧w.cell? ⟨b,o+i*4+2,G⟩=I (tL (l.getD i Zh).wide)∧w.cell? ⟨b,o+i*4+3,G⟩=I (J u5 (l.getD i Zh).last.length u6))∧Yx w (sU #[J u1 (l.getD i Zh).name.length u2,J u3 (l.getD i Zh).key.length u4,tL (l.getD i Zh).wide,J u5 (l.getD i Zh).last.length u6]) (l.getD i Zh):=by
 obtain⟨b,o,rfl,hat⟩:=h.at i hi;obtain⟨vn,vk,vl,c1,c2,c3,c4,s1,s2,s3⟩:=hat;obtain⟨u1,u2,rfl⟩:=s1.shape;obtain⟨u3,u4,rfl⟩:=s2.shape;obtain⟨u5,u6,rfl⟩:=s3.shape;exact⟨b,o,rfl,u1,u2,u3,u4,u5,u6,⟨c1,c2,c3,c4⟩,⟨_,_,_,rfl,s1,s2,s3⟩⟩
theorem Yl{w:F}{a:Option rC}{n cap:Nat}{l:List Zi}(h:QS w (J a n cap) l)(i:Nat)(hi:i<l.length):∃b o,a=I ⟨b,o,G⟩∧∃u1 u2 u3 u4 u5 u6,(w.cell? ⟨b,o+i*4,G⟩=I (J u1 (l.getD i Qr).name.length u2)∧w.cell? ⟨b,o+i*4+1,G⟩=I (J u3 (l.getD i Qr).key.length u4)∧w.cell? ⟨b,o+i*4+2,G⟩=I (tL (l.getD i Qr).gone)∧w.cell? ⟨b,o+i*4+3,G⟩=I (J u5 (l.getD i Qr).value.length u6))∧Xe w (sU #[J u1 (l.getD i Qr).name.length u2,J u3 (l.getD i Qr).key.length u4,tL (l.getD i Qr).gone,J u5 (l.getD i Qr).value.length u6]) (l.getD i Qr):=by
 obtain⟨b,o,rfl,hat⟩:=h.at i hi;obtain⟨vn,vk,vl,c1,c2,c3,c4,s1,s2,s3⟩:=hat;obtain⟨u1,u2,rfl⟩:=s1.shape;obtain⟨u3,u4,rfl⟩:=s2.shape;obtain⟨u5,u6,rfl⟩:=s3.shape;exact⟨b,o,rfl,u1,u2,u3,u4,u5,u6,⟨c1,c2,c3,c4⟩,⟨_,_,_,rfl,s1,s2,s3⟩⟩
theorem Es{x y:Bool}{a b:Int}(h:x=y)(k:a=b):tD (sE #[tL y,tA tE b])=tD (sE #[tL x,tA tE a]):=by
 rw[h,k]
theorem OP{α:Type}(f:α->Bool)(l:List α)(d:α)(i:Nat)(hi:i<l.length)(h:f (l.getD i d)=M):l.any f=M:=by
 have:=E6 d f l i l.length hi (sA _) h;rw[sC]at this;exact this
theorem zV:(88:Nat)≠5:=by
 decide
theorem kL:(88:Nat)≠191:=by
 decide
theorem qM:(88:Nat)≠172:=by
 decide
theorem ZN.block{rb pb:Nat}{W w':F}{v:H}{l:List Rd}(ho:ZN rb pb W v l)(hg:L W w' v.ownBlock){b:Nat}{cs:Array H}{t:tV}{fz:Nat×Nat}(h:W.heap[b]?=I (S cs t fz))(ht:t≠191):w'.heap[b]?=I (S cs t fz):=by
 rw[hg.block b (tH.1 h).1 (fun e=>ho.ne h ht e.symm)];exact h
theorem Q5.block{rb pb:Nat}{W w':F}{v:H}{l:List Zi}(ho:Q5 rb pb W v l)(hg:L W w' v.ownBlock){b:Nat}{cs:Array H}{t:tV}{fz:Nat×Nat}(h:W.heap[b]?=I (S cs t fz))(ht:t≠172):w'.heap[b]?=I (S cs t fz):=by
 rw[hg.block b (tH.1 h).1 (fun e=>ho.ne h ht e.symm)];exact h
theorem ZN.keptV{rb rb':Nat}{W w':F}{v u:H}{l:List Rd}{k:List Zi}(hR:ZN rb 0 W v l)(hV:Q5 rb' 0 W u k)(hg:L W w' u.ownBlock):ZN rb 0 w' v l:=by
 refine hR.kept hg ?_ ?_;·rcases hR.row with h|⟨g,cur,fz,e,_,h⟩;(·exact .inl h);·refine .inr ?_;rw[e];exact fun e2=>hV.ne h (fun e=>lY e) e2.symm
 ·rcases hV.row with h|⟨g,cur,fz,e,_,h⟩;(·exact .inl h);·exact .inr ⟨g,cur,_,fz,e,tS _,h,uL⟩
theorem QI{w:F}{b:Nat}{x y z:H}{t:tV}(h:w.heap[b]?=I (S #[x,y,z] t)):(w.cell? ⟨b,0,G⟩=I x∧w.cell? ⟨b,1,G⟩=I y∧w.cell? ⟨b,2,G⟩=I z)∧w.frozen? ⟨b,0,G⟩=N∧w.frozen? ⟨b,1,G⟩=N∧w.frozen? ⟨b,2,G⟩=N:=by
 refine⟨⟨?_,?_,?_⟩,?_,?_,?_⟩<;>simp[tR,r8,h]
theorem UX{rb:Nat}{w wr:F}{RB:Nat}{x y z:H}{st:Int}{va ua:Option rC}{n m vc uc:Nat}{R:List Rd}{V:List Zi}(h:wr.heap[RB]?=I (S #[x,y,z] 88))(hR:ZN rb 0 wr (J va n vc) R)(hV:Q5 rb 0 wr (J ua m uc) V)(hg:L w wr G)(hw:w.heap.size<=RB):((((tC wr ⟨RB,0,G⟩ (tA tE st)).setCell ⟨RB,1,G⟩ (J va n vc)).setCell ⟨RB,2,G⟩ (J ua m uc)).cell? ⟨RB,0,G⟩=I (tA tE st)∧(((tC wr ⟨RB,0,G⟩ (tA tE st)).setCell ⟨RB,1,G⟩ (J va n vc)).setCell ⟨RB,2,G⟩ (J ua m uc)).cell? ⟨RB,1,G⟩=I (J va n vc)∧(((tC wr ⟨RB,0,G⟩ (tA tE st)).setCell ⟨RB,1,G⟩ (J va n vc)).setCell ⟨RB,2,G⟩ (J ua m uc)).cell? ⟨RB,2,G⟩=I (J ua m uc))∧ZN rb 0 (((tC wr ⟨RB,0,G⟩ (tA tE st)).setCell ⟨RB,1,G⟩ (J va n vc)).setCell ⟨RB,2,G⟩ (J ua m uc)) (J va n vc) R∧Q5 rb 0 (((tC wr ⟨RB,0,G⟩ (tA tE st)).setCell ⟨RB,1,G⟩ (J va n vc)).setCell ⟨RB,2,G⟩ (J ua m uc)) (J ua m uc) V∧L w (((tC wr ⟨RB,0,G⟩ (tA tE st)).setCell ⟨RB,1,G⟩ (J va n vc)).setCell ⟨RB,2,G⟩ (J ua m uc)) G:=by
 have b1:=Qj (i:=0) (u:=tA tE st) h;have b2:=Qj (i:=1) (u:=J va n vc) b1;have b3:=Qj (i:=2) (u:=J ua m uc) b2;exact⟨(QI (x:=tA tE st) (y:=J va n vc) (z:=J ua m uc) b3).1,((hR.setOther h zV kL (tS _) _).setOther b1 zV kL (tS _) _).setOther b2 zV kL (tS _) _,((hV.setOther h zV qM (tS _) _).setOther b1 zV qM (tS _) _).setOther b2 zV qM (tS _) _,Qc (Qc (Qc hg _ hw _ _) _ hw _ _) _ hw _ _⟩
theorem Q5.keptR{rb rb':Nat}{W w':F}{v u:H}{l:List Zi}{k:List Rd}(hV:Q5 rb 0 W v l)(hR:ZN rb' 0 W u k)(hg:L W w' u.ownBlock):Q5 rb 0 w' v l:=by
 refine hV.kept hg ?_ ?_;·rcases hV.row with h|⟨g,cur,fz,e,_,h⟩;(·exact .inl h);·refine .inr ?_;rw[e];exact fun e2=>hR.ne h (fun e=>lY e.symm) e2.symm
 ·rcases hR.row with h|⟨g,cur,fz,e,_,h⟩;(·exact .inl h);·exact .inr ⟨g,cur,_,fz,e,tS _,h,lJ⟩
theorem G0{w:F}{v1 v2:H}{st:Int}{R:List Rd}{V:List Zi}{rb:Nat}{t:Tx}(e:t=⟨st,R,V⟩)(h1:ZN rb 0 w v1 R)(h2:Q5 rb 0 w v2 V):qE w (sU #[tA tE st,v1,v2]) t:=by
 subst e;exact⟨_,_,rfl,h1.down 0 (tS _),h2.down 0 (tS _)⟩
theorem UW{v:H}{a b:Int}(h:a=b):tD (sE #[v,tA tE b])=tD (sE #[v,tA tE a]):=by
 rw[h]
theorem LX:∀(l:List Zi)(w:Zi)(m:Nat),m<l.length->(l.take m).any (fun q=>ZQ q w)=N->ZQ (l.getD m Qr) w=M->xP l w=l.set m w|[],_,_,h,_,_=>by simp at h|a::l,w,0,_,_,h=>by have h':ZQ a w=M:=h;rw[xP,if_pos h'];rfl|a::l,w,m+1,h0,h1,h2=>by rw[rG,pG,rT]at h1;rw[xP,if_neg (by rw[h1.1];decide),pR,LX l w m (by simpa using h0) h1.2 (by simpa using h2)]
theorem DA:∀(l:List Zi)(w:Zi),l.any (fun q=>ZQ q w)=N->xP l w=l++[w]|[],_,_=>rfl|a::l,w,h=>by rw[pG,rT]at h;rw[xP,if_neg (by rw[h.1];decide),DA l w h.2];rfl
theorem Q5.zero{rb:Nat}{w:F}{b o n cap:Nat}{l:List Zi}(h:Q5 rb 0 w (J (I ⟨b,o,G⟩) n cap) l):o=0:=by
 obtain⟨us,hl,hr,h3⟩:=h;rcases hr.2with⟨e,_⟩|⟨g',cap',cur,e,_⟩;·cases e
 ·simp only[tG,Y,rK]at e;exact e.1.2.1
theorem Q5.frozenT{rb:Nat}{w:F}{g n cap:Nat}{l:List Zi}(h:Q5 rb 0 w (J (I ⟨g,0,G⟩) n cap) l)(j:Nat):w.frozen? ⟨g,j,G⟩=N:=by
 obtain⟨us,hl,hr,h3⟩:=h;rcases hr.2with⟨e,_⟩|⟨g',cap',cur,e,hb,hg,_⟩;·cases e
 ·simp only[tG,Y,rK]at e;obtain⟨⟨rfl,_⟩,_⟩:=e;simp[r8,hg]
theorem Eu:∀(us:List WV)(i:Nat)(x:WV),Jd (us.set i x)=((((Jd us).set (i*4) x.2.1).set (i*4+1) x.2.2.1).set (i*4+2) (tL x.1.gone)).set (i*4+3) x.2.2.2|[],i,x=>by simp[Jd]|y::us,0,x=>by simp[Jd]|y::us,i+1,x=>by have ih:=Eu us i x;(have e:∀us:List WV,Jd (y::us)=y.2.1::y.2.2.1::tL y.1.gone::y.2.2.2::Jd us:=fun us=>by simp[Jd]);rw[pR,e,e,ih,show(i+1)*4=i*4+4by omega];rfl
theorem Q5.setT{rb:Nat}{w:F}{g n cap:Nat}{l:List Zi}(h:Q5 rb 0 w (J (I ⟨g,0,G⟩) n cap) l)(i:Nat)(vn vk vv:H)(p:Zi)(h1:Qh 0 w vn p.name)(h2:Qh 0 w vk p.key)(h3:Qh 0 w vv p.value):Q5 rb 0 ((((tC w ⟨g,i*4,G⟩ vn).setCell ⟨g,i*4+1,G⟩ vk).setCell ⟨g,i*4+2,G⟩ (tL p.gone)).setCell ⟨g,i*4+3,G⟩ vv) (J (I ⟨g,0,G⟩) n cap) (l.set i p):=by
 obtain⟨us,hul,hr,hp⟩:=h;have hgr:L w ((((tC w ⟨g,i*4,G⟩ vn).setCell ⟨g,i*4+1,G⟩ vk).setCell ⟨g,i*4+2,G⟩ (tL p.gone)).setCell ⟨g,i*4+3,G⟩ vv) (I g):=Qg (Qg (Qg (Qg (Qb _ _) _ _) _ _) _ _) _ _;rcases hr.2with⟨e,_⟩|⟨g',cap',cur,e,hb,hg,hn,hm,hs,ht⟩;·cases e
 ·simp only[tG,Y,rK]at e;obtain⟨⟨rfl,_⟩,rfl,rfl⟩:=e;have hrow:(I g:Option Nat)=G∨∃g' cur t fz,(I g:Option Nat)=I g'∧0<=g'∧w.heap[g']?=I (S cur t fz)∧t≠5:=.inr ⟨g,cur,_,_,rfl,tS _,hg,uL⟩;(have hus:us.length=l.length:=by rw[<-hul];simp);refine⟨us.set i (p,vn,vk,vv),by rw[List.map_set,hul],⟨by rw[Wm,rV,rV,hus],.inr ⟨g,cap,_,by rw[rV],hb,Qj (Qj (Qj (Qj hg))),by rw[rV];exact hn,hm,by simpa using hs,?_⟩⟩,?_⟩;(·rw[Eu,rV];simp only[Array.toList_setIfInBounds];rw[pH,pH,pH,pH,ht]);·intro x hx;rcases List.mem_or_eq_of_mem_set hx with hx|rfl;(·exact⟨(hp x hx).1.keptT hgr hrow,(hp x hx).2.1.keptT hgr hrow,(hp x hx).2.2.keptT hgr hrow⟩);·exact⟨h1.keptT hgr hrow,h2.keptT hgr hrow,h3.keptT hgr hrow⟩
def Uj(n k:List UInt8)(q:Zi):Bool:=tP (q.name=n)&&tP (q.key=k)
theorem Bw{α:Type}(p:α->Bool)(d:α):∀(l:List α)(m:Nat),m<l.length->(l.take m).any p=N->p (l.getD m d)=M->l.find? p=I (l.getD m d)|[],_,h,_,_=>by simp at h|a::l,0,_,_,h=>by have h':p a=M:=h;rw[List.find?_cons_of_pos h'];rfl|a::l,m+1,h0,h1,h2=>by rw[rG,pG,rT]at h1;rw[List.find?_cons_of_neg (by rw[h1.1];decide),Bw p d l m (by simpa using h0) h1.2 (by simpa using h2)];simp
theorem L7{α:Type}(p:α->Bool)(l:List α)(h:l.any p=N):l.find? p=G:=by
 rw[List.find?_eq_none];intro x hx hp;rw[List.any_eq_false]at h;exact h x hx hp
theorem iS{l:List Zi}{n k:List UInt8}{m:Nat}(h:m<l.length)(h1:(l.take m).any (Uj n k)=N)(h2:Uj n k (l.getD m Qr)=M):lL l n k=I (l.getD m Qr):=Bw (Uj n k) Qr l m h h1 h2
theorem eC{l:List Zi}{n k:List UInt8}(h:l.any (Uj n k)=N):lL l n k=G:=L7 (Uj n k) l h
theorem Ow{l:FL}{t:Tx}{n k:List UInt8}(h:KI l t n k≠0):V1 l t n k=N∧Vh l t n k=N∧U3 l t n k=[]:=by
 rw[V1,Vh,U3,if_neg h,if_neg h,if_neg h];exact⟨rfl,rfl,rfl⟩
theorem fI{l:FL}{t:Tx}{n k:List UInt8}(h:xI l t≠0):KI l t n k=xI l t:=by
 rw[KI,if_neg h]
theorem DM{l:FL}{t:Tx}(h:xI l t=0):Z6 l∧qX t:=by
 unfold xI at h;by_cases hf:Q4 l=0;·rw[if_pos hf]at h;exact⟨(Xb l).1 hf,(uJ t).1 h⟩
 ·rw[if_neg hf]at h;exact absurd h hf
theorem bZ{l:FL}{t:Tx}{n k:List UInt8}(h:xI l t=0){m:Nat}(hm:m<t.writes.length)(h1:(t.writes.take m).any (Uj n k)=N)(h2:Uj n k (t.writes.getD m Qr)=M):KI l t n k=0∧V1 l t n k=M∧Vh l t n k=!(t.writes.getD m Qr).gone∧U3 l t n k=(t.writes.getD m Qr).value:=by
 obtain⟨hf,ht⟩:=DM h;have ha:=iS hm h1 h2;have hs:=OL ha;have hw:=(XT _).1 (ht.wrs _ hs.1);rw[hs.2.1,hs.2.2]at hw;have h0:=Lh hf ht hw.1 hw.2.1;refine⟨h0,?_,?_,?_⟩;·rw[V1,if_pos h0,ha];rfl
 ·rw[Vh,if_pos h0,ha]
 ·rw[U3,if_pos h0,ha]
theorem bV{l:FL}{t:Tx}{n k:List UInt8}(h:xI l t=0)(h1:t.writes.any (Uj n k)=N):KI l t n k=VX l n k∧V1 l t n k=N∧Vh l t n k=Ve l n k∧U3 l t n k=Vg l n k:=by
 obtain⟨hf,ht⟩:=DM h;have ha:=eC h1;have hfo:=(Xb l).2 hf;have hE:KI l t n k=VX l n k:=by rw[KI,if_pos h,VX,G4,if_pos hfo];by_cases hn:Qt n.length=0;(·rw[if_pos hn,if_pos hn,Xf,if_pos ((Yh _).2 (Kj hf n))]);·rw[if_neg hn,if_neg hn]
 refine⟨hE,?_,?_,?_⟩;·rw[V1,ha];by_cases h0:KI l t n k=0;(·rw[if_pos h0];rfl);·rw[if_neg h0]
 ·rw[Vh,ha];by_cases h0:KI l t n k=0;(·rw[if_pos h0]);·rw[if_neg h0];rw[hE]at h0;rw[Ve];by_cases hn:G4 l n=0;(·rw[VX,if_pos hn]at h0;rw[if_pos hn,EA];simp[h0]);·rw[if_neg hn]
 ·rw[U3,ha];by_cases h0:KI l t n k=0;(·rw[if_pos h0]);·rw[if_neg h0];rw[hE]at h0;rw[Vg];by_cases hn:G4 l n=0;(·rw[VX,if_pos hn]at h0;rw[if_pos hn,EB,if_neg h0]);·rw[if_neg hn]
theorem IW{X:PL}(h:Zd X)(k:List UInt8):Zd (kT X k):=⟨tN (Lm X k) h.room,fun p hp=>h.pairs p (oD.1 hp).1,NS X k h.rises⟩
theorem DD{X:PL}(h:Zd X)(f u:List UInt8):Zd (Vm X f u):=⟨tN (WX X f u) h.room,fun p hp=>h.pairs p (oD.1 hp).1,Bp X f u h.rises⟩
theorem Hg{X:PL}(h:Zd X){p:Pr}(hp:(1<=p.1.length∧p.1.length<=16)∧p.2.length<=32)(hl:(Kn X p).length<=60):Zd (Kn X p):=⟨hl,Nf X p h.pairs hp,Px X p h.rises⟩
theorem kM(n a b:List UInt8)(w:Zi):XZ ⟨n,a,M,b⟩ w=M↔w.name=n∧l5 a b w.key=M:=by
 show(tP (n=w.name)&&l5 a b w.key)=M↔_;rw[rN,decide_eq_true_iff];exact⟨fun h=>⟨h.1.symm,h.2⟩,fun h=>⟨h.1.symm,h.2⟩⟩
theorem Oj{n a b:List UInt8}{w:Zi}(h:XZ ⟨n,a,M,b⟩ w=N)(X:PL):K6 n a b X w=X:=by
 rw[K6,if_neg];intro e;rw[(kM n a b w).2 e]at h;cases h
theorem aW{n a b:List UInt8}{w:Zi}(h:XZ ⟨n,a,M,b⟩ w=M)(hg:w.gone=M){X:PL}(hX:Zd X)(hw:QC w=0):Xf X w.key=0∧xH X w.key=K6 n a b X w∧Zd (K6 n a b X w):=by
 have hk:=((XT w).1 hw).2.1;have h0:=Po hX hk;have e:K6 n a b X w=kT X w.key:=by rw[K6,if_pos ((kM n a b w).1 h),if_pos hg]
 refine⟨h0,by rw[e,xH,if_pos h0],by rw[e];exact IW hX _⟩
theorem bT{n a b:List UInt8}{w:Zi}(h:XZ ⟨n,a,M,b⟩ w=M)(hg:w.gone=N){X:PL}(hX:Zd X)(hw:QC w=0):K6 n a b X w=Kn X (w.key,w.value)∧(60<(K6 n a b X w).length->Kt X (w.key,w.value)=11)∧(¬60<(K6 n a b X w).length->Kt X (w.key,w.value)=0∧Vu X (w.key,w.value)=K6 n a b X w∧Zd (K6 n a b X w)):=by
 have hk:=(XT w).1 hw;have hv:w.value.length<=32:=by have:=hk.2.2;rw[hg,if_neg (by decide)]at this;exact this
 have e:K6 n a b X w=Kn X (w.key,w.value):=by rw[K6,if_pos ((kM n a b w).1 h),hg,if_neg (by decide)]
 have h0:Gi X (w.key,w.value)=0:=by rw[Gi,if_pos ((Yh X).2 hX)];exact(Yq _).2 ⟨hk.2.1,hv⟩
 refine⟨e,fun hl=>?_,fun hl=>?_⟩;·rw[e]at hl;rw[Kt,if_pos h0,if_pos hl]
 ·rw[e]at hl;(have h1:Kt X (w.key,w.value)=0:=by rw[Kt,if_pos h0,if_neg hl]);refine⟨h1,by rw[e,Vu,if_pos h1],?_⟩;rw[e];exact Hg hX ⟨hk.2.1,hv⟩ (by omega)
def JT(n a b:List UInt8)(X:PL)(ws:List Zi):Int×PL:=(uH n a b X ws,if uH n a b X ws=0then SI n a b X ws else[])
theorem S9(n a b:List UInt8)(X:PL):JT n a b X []=(0,X):=rfl
theorem PR{n a b:List UInt8}{X:PL}{ws:List Zi}{m:Nat}(hm:m<ws.length)(h:¬60<(K6 n a b X (ws.getD m Qr)).length):JT n a b X (ws.drop m)=JT n a b (K6 n a b X (ws.getD m Qr)) (ws.drop (m+1)):=by
 rw[sS hm,show ws[m]=ws.getD m Qr by simp[hm]];rw[JT,JT,uH,if_neg h];rfl
theorem Co{n a b:List UInt8}{X:PL}{ws:List Zi}{m:Nat}(hm:m<ws.length)(h:60<(K6 n a b X (ws.getD m Qr)).length):JT n a b X (ws.drop m)=(11,[]):=by
 rw[sS hm,show ws[m]=ws.getD m Qr by simp[hm]];rw[JT,uH,if_pos h,if_neg (by decide)]
theorem dU{l:FL}{t:Tx}{n a b:List UInt8}(h:xI l t≠0):KM l t n a b=xI l t∧Gh l t n a b=[]:=by
 have e:KM l t n a b=xI l t:=by rw[KM,if_neg h]
 exact⟨e,by rw[Gh,e,if_neg h]⟩
theorem Sw{l:FL}{t:Tx}{n a b:List UInt8}(h:xI l t=0)(h1:YK l n a b≠0):KM l t n a b=YK l n a b∧Gh l t n a b=[]:=by
 obtain⟨hf,ht⟩:=DM h;have hfo:=(Xb l).2 hf;have e:KM l t n a b=YK l n a b:=by(have hE:YK l n a b=if Qt n.length=0then(if Qn a.length=0then Qn b.length else Qn a.length)else Qt n.length:=by rw[YK,G4,if_pos hfo];by_cases hn:Qt n.length=0;(·rw[if_pos hn,if_pos hn,YI,Xf,if_pos ((Yh _).2 (Kj hf n))]);·rw[if_neg hn,if_neg hn]);rw[KM,if_pos h,hE];by_cases hn:Qt n.length=0;(·rw[if_pos hn,if_pos hn];by_cases ha:Qn a.length=0;(·rw[if_pos ha,if_pos ha];by_cases hb:Qn b.length=0;(·rw[hE,if_pos hn,if_pos ha]at h1;exact absurd hb h1);·rw[if_neg hb]);·rw[if_neg ha,if_neg ha]);·rw[if_neg hn,if_neg hn]
 exact⟨e,by rw[Gh,e,if_neg h1]⟩
theorem AI{l:FL}{t:Tx}{n a b:List UInt8}(h:xI l t=0)(h1:YK l n a b=0):JT n a b (Ku l n a b) t.writes=(KM l t n a b,Gh l t n a b)∧Zd (Ku l n a b):=by
 obtain⟨hf,ht⟩:=DM h;have hfo:=(Xb l).2 hf;have hn:G4 l n=0:=by by_cases hn:G4 l n=0;(·exact hn);·rw[YK,if_neg hn]at h1;exact absurd h1 hn
 have hr:YI (YE l n) a b=0:=by rw[YK,if_pos hn]at h1;exact h1
 have hg:=Ah hr;have hb:Qn b.length=0:=by rw[YI,if_pos hg]at hr;exact hr
 have ha:Qn a.length=0:=(Zc _).2 (O6 hg);have hnn:Qt n.length=0:=(Zj _).2 (zL hn).2;have e:Ku l n a b=Vm (YE l n) a b:=by rw[Ku,if_pos hn,KZ,if_pos hr]
 have eE:KM l t n a b=uH n a b (Vm (YE l n) a b) t.writes:=by rw[KM,if_pos h,if_pos hnn,if_pos ha,if_pos hb]
 refine⟨?_,by rw[e];exact DD (Kj hf n) a b⟩;rw[e,JT,Gh,eE]
def WU:Prop:=∀(w:F)(v:H)(t:Tx),qJ w v t->xW t->sW O 103 #[v] w fun e w'=>e=tD (tA tE (GA t))∧L w w' G
def Of:Prop:=∀(w:F)(v:H)(l:PL),Qq w v l->kN l->sW O 35 #[v] w fun e w'=>e=tD (tA tE (Qz l))∧L w w' G
theorem Td{w:F}{o:rS}{a:Act}{K:Act->F->Prop}{Q:Exit->Act->F->Prop}(s x:rM)(ho:o.op=.call {callee:=.builtin .append,args:=#[s,x],argTypes:=#[41,41]})(rb base:Nat)(hrb:base<=rb)(v:H)(l:PL)(hs:a.eval s=v)(hown:Kz rb base w v l)(vk vv:H)(p:Pr)(hk:Qh base w vk p.1)(hv:Qh base w vv p.2)(nb:Nat)(hb:w.heap[nb]?=I (S #[vk,vv] 44))(hx:a.eval x=J (I ⟨nb,0,G⟩) 1 1)(hl:(l.length+1)*48<=140737488355328)(hbase:rb<=w.heap.size)(h:∀v' w',Kz rb base w' v' (l++[p])->L w w' v.ownBlock->K (a.put o.dst v') w'):o.wp O a w K Q:=by
 obtain⟨i0,hi,hz0,hz1,hz2⟩:=pD Cy;have hrow:=hown.row hrb;obtain⟨vs,hvl,hr,hp⟩:=hown;refine wp_append_lies w s x 41 ho rb 44 i0 (sU #[J G 0 0,J G 0 0]) 2 48 Tryz.underlying41 hi hz0 hz1 hz2 rfl (by decide) v l.length (flat vs) hs hr ⟨nb,0,G⟩ 1 1 (flat [(vk,vv)]) hx rfl (rF (cs:=#[vk,vv]) hb) ?_ (by omega) (by unfold pL;omega) hl hbase _ rfl ?_;·intro u hu;simp only[flat,tM,rO,rU,tK,tQ,or_false]at hu;rcases hu with rfl|rfl;(·exact ZU hk);·exact ZU hv
 ·intro g cap w' h1 h2 _ _;refine h _ w' ⟨vs++[(vk,vv)],by simp[hvl],?_,?_⟩ h2;(·rw[Ka,tB];exact h1);·intro i hi;rw[Jp,Jp,hvl];by_cases hil:i<l.length;(·rw[if_pos hil,if_pos hil];exact⟨(hp i hil).1.kept h2 hrow,(hp i hil).2.kept h2 hrow⟩);·rw[if_neg hil,if_neg hil];(obtain rfl:i=l.length:=by simp at hi;omega);rw[oI];exact⟨hk.kept h2 hrow,hv.kept h2 hrow⟩
theorem Gy{w:F}{ops:Array rS}{o:rS}{a:Act}{K:Act->F->Prop}{Q:Exit->Act->F->Prop}{E:Prop}(hgd:o.guard=G)(s x:rM)(ho:o.op=.call {callee:=.builtin .append,args:=#[s,x],argTypes:=#[41,41]})(rb base:Nat)(hrb:base<=rb)(v:H)(l:PL)(hs:a.eval s=v)(hown:Kz rb base w v l)(vk vv:H)(p:Pr)(hk:Qh base w vk p.1)(hv:Qh base w vv p.2)(nb:Nat)(hb:w.heap[nb]?=I (S #[vk,vv] 44))(hx:a.eval x=J (I ⟨nb,0,G⟩) 1 1)(hl:(l.length+1)*48<=140737488355328)(hbase:rb<=w.heap.size)(h:∀v' w',Kz rb base w' v' (l++[p])->L w w' v.ownBlock->K (a.put o.dst v') w'):if sD o (pE ops a.tmps)=M then Oper.wp O o a w K Q else E:=by
 have hw:sD o (pE ops a.tmps)=M:=by simp[sD,hgd]
 rw[if_pos hw];exact Td s x ho rb base hrb v l hs hown vk vv p hk hv nb hb hx hl hbase h
theorem Eb(w:F):(sizeOf (O.elem 41)).run O w=.ok 2 w:=by
 kernel_rfl
theorem Qq.sliced{w:F}{a:Option rC}{cap:Nat}{l:PL}(h:Qq w (J a l.length cap) l)(i j:Nat)(hij:i<=j)(hj:j<=l.length):Qq w (sP a i j cap 2) ((l.take j).drop i):=by
 obtain⟨a',cap',e,hc,h⟩:=h;simp only[tG,true_and]at e;obtain⟨rfl,rfl⟩:=e;have hlen:((l.take j).drop i).length=j-i:=by simp;omega
 refine⟨if cap=i then a else a.map (·.add (i*2)),cap-i,by rw[hlen];rfl,by rw[hlen];omega,?_⟩;by_cases hci:cap=i;·left;exact⟨tJ (by rw[hlen];omega),fun _=>by omega⟩
 ·rw[if_neg hci];rcases h with⟨rfl,h⟩|⟨b,o,rfl,h⟩;(·left;refine⟨by simp,fun e=>?_⟩;cases a with|none=>have:=h rfl;simp at hj;omega|some x=>cases e);·right;refine⟨b,o+i*2,by simp[Xp],fun k hk=>?_⟩;rw[hlen]at hk;have:=h (i+k) (by omega);(have e:((l.take j).drop i).getD k ([],[])=l.getD (i+k) ([],[]):=by simp[show i+k<j by omega]);rw[e,show o+i*2+k*2=o+(i+k)*2by omega];exact this
theorem Pc(a:Option rC)(cap:Nat)(l:PL)(n:Nat)(hn:n<=l.length)(hc:l.length<=cap):∃a1 c1,(∀W,(rX 41 (J a l.length cap) G (I (tA tE (n:Int))) G).run O W=.ok (J a1 n c1) W)∧∀W,Qq W (J a l.length cap) l->Qq W (J a1 n c1) (l.take n):=by
 refine⟨if cap=0then a else a.map (·.add (0*2)),cap-0,fun W=>?_,fun W h=>?_⟩;·rw[run_slice_h _ _ _ _ _ (by kernel_rfl) _ _ (by omega) (by omega),Eb];simp only[rJ,sP,sY,pI]
 ·have:=h.sliced 0 n (by omega) hn;simpa only[sP,oH,pI]using this
theorem Pp(a:Option rC)(cap:Nat)(l:PL)(n:Nat)(hn:n<=l.length):∃a1 c1,(∀W,(rX 41 (J a l.length cap) (I (tA tE (n:Int))) G G).run O W=.ok (J a1 (l.length-n) c1) W)∧∀W,Qq W (J a l.length cap) l->Qq W (J a1 (l.length-n) c1) (l.drop n):=by
 refine⟨if cap=n then a else a.map (·.add (n*2)),cap-n,fun W=>?_,fun W h=>?_⟩;·rw[run_slice_l _ _ _ _ _ (by kernel_rfl) _ _ (by omega) (by omega),Eb];simp only[rJ,sP,sY]
 ·have:=h.sliced n l.length hn (sA _);simpa only[sP,sC]using this
theorem Mi(a:Option rC)(cap:Nat)(l:PL)(i j:Nat)(hij:i<=j)(hj:j<=l.length)(hc:l.length<=cap):∃a1 c1,(∀W,(rX 41 (J a l.length cap) (I (tA tE (i:Int))) (I (tA tE (j:Int))) G).run O W=.ok (J a1 (j-i) c1) W)∧∀W,Qq W (J a l.length cap) l->Qq W (J a1 (j-i) c1) ((l.take j).drop i):=by
 refine⟨if cap=i then a else a.map (·.add (i*2)),cap-i,fun W=>?_,fun W h=>?_⟩;·rw[run_slice_lh _ _ _ _ _ (by kernel_rfl) _ _ _ _ (by omega) (by omega) (by omega),Eb];simp only[rJ,sP,sY]
 ·have:=h.sliced i j hij hj;simpa only[sP]using this
theorem Qq.cap{w:F}{a:Option rC}{n cap:Nat}{l:PL}(h:Qq w (J a n cap) l):l.length<=cap:=by
 obtain⟨a',cap',e,hc,_⟩:=h;simp only[tG]at e;obtain⟨_,_,rfl⟩:=e;exact hc
def bS:Prop:=∀(w:F)(v:H)(l:FL),ZK w v l->Ga l->sW O 16 #[v] w fun e w'=>e=tD (tA tE (Q4 l))∧L w w' G
def DN:Prop:=∀(w:F)(v u:H)(l:FL)(ws:List Zi),ZK w v l->QS w u ws->Ga l->uQ ws->sW O 108 #[v,u] w fun e w'=>∃x,e=tD (sE #[x,tA tE (QZ l ws)])∧ZK w' x (XD l ws)∧L w w' G
theorem ZG.down{base:Nat}{w:F}{v:H}{l:FL}(h:ZG base w v l)(b2:Nat)(hb:b2<=base):ZG b2 w v l:=by
 obtain⟨vs,h1,h2,h3⟩:=h;refine⟨vs,h1,⟨h2.1,?_⟩,h3⟩;rcases h2.2with h|⟨g,cap,cur,e,hb2,rest⟩;·exact .inl h
 ·exact .inr ⟨g,cap,cur,e,tN hb hb2,rest⟩
def yT:Prop:=∀(w:F)(v u:H)(l:FL)(ws:List Zi),ZK w v l->QS w u ws->Ga l->uQ ws->sW O 108 #[v,u] w fun e w'=>∃x,e=tD (sE #[x,tA tE (QZ l ws)])∧ZG w.heap.size w' x (XD l ws)∧L w w' G
theorem yT.ok(h:yT):DN:=fun w v u l ws h1 h2 h3 h4=>(h w v u l ws h1 h2 h3 h4).mono (by
 rintro e w'⟨x,rfl,hx,hg⟩;exact⟨x,rfl,hx.list,hg⟩)
theorem zR(w:F)(b i:Nat)(u:H):∃W:F,Hid (W=tC w ⟨b,i,G⟩ u)∧L w W (I b):=⟨_,rfl,YV w b i u⟩
theorem z8{w:F}{ops:Array rS}{o:rS}{a:Act}{K:Act->F->Prop}{Q:Exit->Act->F->Prop}{E:Prop}(hgd:o.guard=G)(s x:rM)(ho:o.op=.call {callee:=.builtin .append,args:=#[s,x],argTypes:=#[86,86]})(rb:Nat)(v:H)(l:List Zi)(hs:a.eval s=v)(hown:Q5 rb 0 w v l)(vn vk vv:H)(p:Zi)(h1:Qh 0 w vn p.name)(h2:Qh 0 w vk p.key)(h3:Qh 0 w vv p.value)(nb:Nat)(hb:w.heap[nb]?=I (S #[vn,vk,tL p.gone,vv] 172))(hx:a.eval x=J (I ⟨nb,0,G⟩) 1 1)(hl:(l.length+1)*80<=140737488355328)(hbase:rb<=w.heap.size)(h:∀v' w',Q5 rb 0 w' v' (l++[p])->L w w' v.ownBlock->K (a.put o.dst v') w'):if sD o (pE ops a.tmps)=M then Oper.wp O o a w K Q else E:=by
 have hw:sD o (pE ops a.tmps)=M:=by simp[sD,hgd]
 rw[if_pos hw];obtain⟨i0,hi,hz0,hz1,hz2⟩:=pD cP;have hrow:v.ownBlock=G∨∃g cur t fz,v.ownBlock=I g∧0<=g∧w.heap[g]?=I (S cur t fz)∧t≠5:=by rcases hown.row with h|⟨g,cur,fz,e,_,h⟩;(·exact .inl h);·exact .inr ⟨g,cur,_,fz,e,tS _,h,uL⟩
 obtain⟨us,hul,hr,hp⟩:=hown;refine wp_append_lies w s x 86 ho rb 172 i0 (sU #[J G 0 0,J G 0 0,tL N,J G 0 0]) 4 80 Tryz.underlying86 hi hz0 hz1 hz2 rfl (by decide) v l.length (Jd us) hs hr ⟨nb,0,G⟩ 1 1 (Jd [(p,vn,vk,vv)]) hx rfl (rF (cs:=#[vn,vk,tL p.gone,vv]) hb) ?_ (by omega) (by unfold pL;omega) hl hbase _ rfl ?_;·intro u hu;simp only[Jd,tM,rO,rU,tK,tQ,or_false]at hu;rcases hu with rfl|rfl|rfl|rfl;(·exact ZU h1);(·exact ZU h2);(·rfl);·exact ZU h3
 ·intro g cap w' q1 q2 _ _;refine h _ w' ⟨us++[(p,vn,vk,vv)],by simp[hul],?_,?_⟩ q2;(·rw[uZ,tB];exact q1);·intro y hy;rcases tY.1 hy with hy|hy;(·exact⟨(hp y hy).1.keptT q2 hrow,(hp y hy).2.1.keptT q2 hrow,(hp y hy).2.2.keptT q2 hrow⟩);·simp only[tK,tQ,or_false]at hy;subst hy;exact⟨h1.keptT q2 hrow,h2.keptT q2 hrow,h3.keptT q2 hrow⟩
theorem yI{w:F}{ops:Array rS}{o:rS}{a:Act}{K:Act->F->Prop}{Q:Exit->Act->F->Prop}{E:Prop}(hgd:o.guard=G)(s x:rM)(ho:o.op=.call {callee:=.builtin .append,args:=#[s,x],argTypes:=#[85,85]})(rb:Nat)(v:H)(l:List Rd)(hs:a.eval s=v)(hown:ZN rb 0 w v l)(vn vk vv:H)(p:Rd)(h1:Qh 0 w vn p.name)(h2:Qh 0 w vk p.key)(h3:Qh 0 w vv p.last)(nb:Nat)(hb:w.heap[nb]?=I (S #[vn,vk,tL p.wide,vv] 191))(hx:a.eval x=J (I ⟨nb,0,G⟩) 1 1)(hl:(l.length+1)*80<=140737488355328)(hbase:rb<=w.heap.size)(h:∀v' w',ZN rb 0 w' v' (l++[p])->L w w' v.ownBlock->K (a.put o.dst v') w'):if sD o (pE ops a.tmps)=M then Oper.wp O o a w K Q else E:=by
 have hw:sD o (pE ops a.tmps)=M:=by simp[sD,hgd]
 rw[if_pos hw];obtain⟨i0,hi,hz0,hz1,hz2⟩:=pD lG;have hrow:v.ownBlock=G∨∃g cur t fz,v.ownBlock=I g∧0<=g∧w.heap[g]?=I (S cur t fz)∧t≠5:=by rcases hown.row with h|⟨g,cur,fz,e,_,h⟩;(·exact .inl h);·exact .inr ⟨g,cur,_,fz,e,tS _,h,lJ⟩
 obtain⟨us,hul,hr,hp⟩:=hown;refine wp_append_lies w s x 85 ho rb 191 i0 (sU #[J G 0 0,J G 0 0,tL N,J G 0 0]) 4 80 Tryz.underlying85 hi hz0 hz1 hz2 rfl (by decide) v l.length (GJ us) hs hr ⟨nb,0,G⟩ 1 1 (GJ [(p,vn,vk,vv)]) hx rfl (rF (cs:=#[vn,vk,tL p.wide,vv]) hb) ?_ (by omega) (by unfold pL;omega) hl hbase _ rfl ?_;·intro u hu;simp only[GJ,tM,rO,rU,tK,tQ,or_false]at hu;rcases hu with rfl|rfl|rfl|rfl;(·exact ZU h1);(·exact ZU h2);(·rfl);·exact ZU h3
 ·intro g cap w' q1 q2 _ _;refine h _ w' ⟨us++[(p,vn,vk,vv)],by simp[hul],?_,?_⟩ q2;(·rw[Ms,tB];exact q1);·intro y hy;rcases tY.1 hy with hy|hy;(·exact⟨(hp y hy).1.keptT q2 hrow,(hp y hy).2.1.keptT q2 hrow,(hp y hy).2.2.keptT q2 hrow⟩);·simp only[tK,tQ,or_false]at hy;subst hy;exact⟨h1.keptT q2 hrow,h2.keptT q2 hrow,h3.keptT q2 hrow⟩
def cK:Prop:=∀(w:F)(v:H)(r:Rq),Vw w->X8 w v r->yY r->sW O 98 #[v] w fun e w'=>∃x,e=tD (sE #[x,tA tE (Un r)])∧Yx w' x (Zx r)∧L w w' G
def ZY(K:Int)(n q l v:Nat):Nat->Bool|0=>N|1=>!QT K 0&&tP (0<n)|2=>(!QT K 0&&tP (0<n))||(!QT K 1&&tP (0<q))|3=>((!QT K 0&&tP (0<n))||(!QT K 1&&tP (0<q)))||(!QT K 2&&tP (0<l))|_=>(((!QT K 0&&tP (0<n))||(!QT K 1&&tP (0<q)))||(!QT K 2&&tP (0<l)))||(!QT K 3&&tP (0<v))
def mM(K:Int)(n q l v:Nat):Int:=if(tP (Qt n≠0)&&QT K 0)=M then Qt n else if(tP (Qn q≠0)&&QT K 1)=M then Qn q else if(tP (Qn l≠0)&&QT K 2)=M then Qn l else if 32<v then 1 else if ZY K n q l v 4=M then 4 else 0
theorem lD(r:Rq)(hk:1<=r.kind∧r.kind<=8):Yn r=mM r.kind r.name.length r.key.length r.last.length r.value.length:=by
 rw[Yn,if_pos hk];have hf:Er r=if ZY r.kind r.name.length r.key.length r.last.length r.value.length 4=M then 4 else 0:=by unfold Er;by_cases h1:QY r.kind=N∧0<r.name.length+r.key.length;(·rw[if_pos h1,if_pos];by_cases h2:0<r.name.length;(·simp[ZY,QT,h1.1,h2]);·(have h3:0<r.key.length:=by omega);simp[ZY,QT,h1.1,h3]);·rw[if_neg h1];by_cases h2:(r.kind≠3∧0<r.last.length)∨(r.kind≠4∧0<r.value.length);(·rw[if_pos h2,if_pos];rcases h2 with⟨h2,h3⟩|⟨h2,h3⟩;(·simp[ZY,QT,h2,h3]);·simp[ZY,QT,h2,h3]);·rw[if_neg h2,if_neg];intro hb;simp only[ZY,QT,Bool.or_eq_true,rN,Bool.not_eq_true',decide_eq_true_iff,decide_eq_false_iff_not]at hb;rcases hb with((hb|hb)|hb)|hb;(·exact h1 ⟨hb.1,by omega⟩);(·exact h1 ⟨hb.1,by omega⟩);(·exact h2 (.inl hb));·exact h2 (.inr hb)
 rw[hf];unfold jH mM;generalize ZY r.kind r.name.length r.key.length r.last.length r.value.length 4=B;show _=if(tP (Qt r.name.length≠0)&&QY r.kind)=M then _ else if(tP (Qn r.key.length≠0)&&QY r.kind)=M then _ else if(tP (Qn r.last.length≠0)&&tP (r.kind=3))=M then _ else _;have h3:r.kind=3->QY r.kind=M:=fun h=>by rw[h];decide
 generalize Qt r.name.length=A at*;generalize Qn r.key.length=C at*;generalize Qn r.last.length=D at*;cases hN:QY r.kind with|false=>(have h3':¬r.kind=3:=fun h=>by rw[h3 h]at hN;cases hN);simp[h3']|true=>by_cases hA:A=0;(·by_cases hC:C=0;(·by_cases h4:r.kind=3;(·by_cases hD:D=0;(·simp[hA,hC,h4,hD]);·simp[hA,hC,h4,hD]);·simp[hA,hC,h4]);·simp[hA,hC]);·simp[hA]
theorem iW(r:Rq)(hk:¬(1<=r.kind∧r.kind<=8)):Yn r=5:=by
 rw[Yn,if_neg hk]
def Hf:Prop:=∀(w:F)(v u a b:H)(l:FL)(t:Tx)(n k:List UInt8),ZK w v l->Ga l->qJ w u t->xW t->Qe w a n->Qe w b k->n.length<=140737488355328->k.length<=140737488355328->sW O 86 #[v,u,a,b] w fun e w'=>∃x,e=tD (sE #[sU #[tL (Vh l t n k),x],tL (V1 l t n k),tA tE (KI l t n k)])∧Qh 0 w' x (U3 l t n k)∧L w w' G
theorem Qe.findS{w:F}{v:H}{bs:List UInt8}(h:Qe w v bs){nb:Nat}{b:Bool}{xa:Option rC}{xn xc:Nat}{t:tV}(hb:w.heap[nb]?=I (S #[tL b,J xa xn xc] t))(u1 u2:H):Qe ((tC w ⟨nb,0,G⟩ u1).setCell ⟨nb,1,G⟩ u2) v bs:=by
 obtain⟨a,cap,rfl,hc,h⟩:=h;refine⟨a,cap,rfl,hc,?_⟩;rcases h with h|⟨c,o,rfl,h⟩;·exact .inl h
 ·refine .inr ⟨c,o,rfl,fun i hi=>?_⟩;have hx:=h i hi;(have hne:c≠nb:=by rintro rfl;match hj:o+i with|0=>rw[hj]at hx;simp[tR,hb]at hx|1=>rw[hj]at hx;simp[tR,hb]at hx|n+2=>rw[hj]at hx;simp[tR,hb]at hx);rw[r7 _ _ _ _ (fun e=>hne (congrArg Addr.block e).symm),r7 _ _ _ _ (fun e=>hne (congrArg Addr.block e).symm)];exact hx
theorem XW{w:F}{b:Nat}{x y:H}{t:tV}(h:w.heap[b]?=I (S #[x,y] t)):w.cell? ⟨b,0,G⟩=I x∧w.cell? ⟨b,1,G⟩=I y∧w.frozen? ⟨b,0,G⟩=N∧w.frozen? ⟨b,1,G⟩=N:=by
 refine⟨?_,?_,?_,?_⟩<;>simp[tR,r8,h]
section
variable{D:List UInt8->List UInt8}{v u:Sv}
theorem Ce(hD:∀x,(D x).length=4)(h:Zp D v)(hs:v.synced=v.commits.length){k:Int}(hk:0<=k):UT D v k=Gp N v.tape v.commits v.out:=by
 obtain⟨j,h1,h2,h3,_⟩:=zB hD h hk;obtain rfl:j=v.commits.length:=by omega
 rw[h3,sC];have hm:=h.mark;rw[hs,sC]at hm;have:(⟨Q6 D v.commits,((Q6 D v.commits).length:Int)⟩:Gm)=v.tape:=by rw[<-hm,<-h.data]
 rw[this]
end
section
variable{D:List UInt8->List UInt8}{v:Sv}
def Fs(s:Nat)(r:Rq):Ac:=⟨1,(s:Int),0,KH r⟩
theorem cI{s:Nat}(hs:s<=7){r:Rq}(hr:Y6 r):K8 (Fs s r):=⟨⟨(by
 decide:(1:Int)<=1),(by
 decide:(1:Int)<=4)⟩,fun _=>⟨Int.natCast_nonneg _,by
 show(s:Int)<=7;omega⟩,(fun h=>by
 cases h),(by
 have:=(TH hr).1;show(KH r).length<=4000;omega),(fun h=>absurd rfl h),(fun _=>rfl),(fun h=>absurd rfl h)⟩
theorem dD(v:Sv)(s:Nat){r:Rq}(hr:Y6 r):VA D v (Fs s r)=if v.up=N then Z7 v (G3 s 13)else Km D v s r:=by
 show(if(1:Int)=1then XA D v (s:Int).toNat (KH r)else _)=_;rw[if_pos rfl,sY,XA,(CY hr).1,(CY hr).2,if_pos rfl]
theorem II(v:Sv)(s:Nat){r:Rq}(hr:Y6 r)(hk:r.kind=8):VA D v (Fs s r)=if v.up=N then Z7 v (G3 s 13)else NA v s r:=by
 rw[dD v s hr,Km,if_pos hk]
end
section
structure Se where
  begun : Bool
  start : Int
  writes : List Zi
structure Md where
  ses : Nat -> Se
  states : List FL
variable{D:List UInt8->List UInt8}{v:Sv}{m:Md}
theorem GN(v:Sv)(n:Nat):Z6 (QH v n):=vR _ _ UI
end
section
variable{D:List UInt8->List UInt8}{v:Sv}{m:Md}
theorem Cl{r:Rq}(hr:Y6 r)(hk:r.kind=2∨r.kind=3):(1<=r.name.length∧r.name.length<=8)∧(1<=r.key.length∧r.key.length<=16):=by
 have:QY r.kind=M:=by rcases hk with e|e<;>rw[e]<;>decide
 exact⟨hr.name this,hr.key this⟩
end
def WZ:Prop:=∀(w:F)(v u:H)(t:Tx)(l:List XO),qJ w v t->xW t->Ji w u l->Ax l->sW O 107 #[v,u] w fun e w'=>e=tD (sE #[tL (UN t l),tA tE (T0 t)])∧L w w' G
def fY:Prop:=∀(w:F)(v:H)(c:XO),Kf w v c->NZ c->sW O 133 #[v] w fun e w'=>∃x,e=tD (sE #[x,tA tE (Za c)])∧Qe w' x (T7 c)∧L w w' G
def He:Prop:=∀(w:F)(v:H)(c:XO),Kf w v c->NZ c->sW O 137 #[v] w fun e w'=>e=tD (tA tE (Za c))∧L w w' G
theorem TQ(w:F):(sizeOf (O.elem 24)).run O w=.ok 1 w:=by
 kernel_rfl
theorem Qe.cap{w:F}{a:Option rC}{n cap:Nat}{bs:List UInt8}(h:Qe w (J a n cap) bs):bs.length<=cap∧n=bs.length:=by
 obtain⟨a',cap',e,hc,_⟩:=h;simp only[tG]at e;obtain⟨_,rfl,rfl⟩:=e;exact⟨hc,rfl⟩
theorem Qe.byte{w:F}{a:Option rC}{n cap:Nat}{bs:List UInt8}(h:Qe w (J a n cap) bs)(i:Nat)(hi:i<bs.length):∃b o,a=I ⟨b,o,G⟩∧KU w b o bs:=by
 obtain⟨a',cap',e,hc,h⟩:=h;simp only[tG]at e;obtain⟨rfl,rfl,rfl⟩:=e;rcases h with⟨rfl,_⟩|⟨b,o,rfl,h⟩;·simp at hi
 ·exact⟨b,o,rfl,h⟩
theorem Qe.sliced{w:F}{a:Option rC}{cap:Nat}{l:List UInt8}(h:Qe w (J a l.length cap) l)(i j:Nat)(hij:i<=j)(hj:j<=l.length):Qe w (sP a i j cap 1) ((l.take j).drop i):=by
 obtain⟨a',cap',e,hc,h⟩:=h;simp only[tG,true_and]at e;obtain⟨rfl,rfl⟩:=e;have hlen:((l.take j).drop i).length=j-i:=by simp;omega
 refine⟨if cap=i then a else a.map (·.add (i*1)),cap-i,by rw[hlen];rfl,by rw[hlen];omega,?_⟩;by_cases hci:cap=i;·left;exact⟨tJ (by rw[hlen];omega),fun _=>by omega⟩
 ·rw[if_neg hci];rcases h with⟨rfl,h⟩|⟨b,o,rfl,h⟩;(·left;refine⟨by simp,fun e=>?_⟩;cases a with|none=>have:=h rfl;simp at hj;omega|some x=>cases e);·right;refine⟨b,o+i,by simp[Xp],fun k hk=>?_⟩;rw[hlen]at hk;have:=h (i+k) (by omega);(have e:((l.take j).drop i).getD k 0=l.getD (i+k) 0:=by simp[show i+k<j by omega]);rw[e,show o+i+k=o+(i+k)by omega];exact this
theorem xR(a:Option rC)(cap:Nat)(l:List UInt8)(n:Nat)(hn:n<=l.length)(hc:l.length<=cap):∃a1 c1,(∀W,(rX 24 (J a l.length cap) G (I (tA tE (n:Int))) G).run O W=.ok (J a1 n c1) W)∧∀W,Qe W (J a l.length cap) l->Qe W (J a1 n c1) (l.take n):=by
 refine⟨if cap=0then a else a.map (·.add (0*1)),cap-0,fun W=>?_,fun W h=>?_⟩;·rw[run_slice_h _ _ _ _ _ (by kernel_rfl) _ _ (by omega) (by omega),TQ];simp only[rJ,sP,sY,pI]
 ·have:=h.sliced 0 n (by omega) hn;simpa only[sP,oH,pI]using this
theorem qD(a:Option rC)(cap:Nat)(l:List UInt8)(i j:Nat)(hij:i<=j)(hj:j<=l.length)(hc:l.length<=cap):∃a1 c1,(∀W,(rX 24 (J a l.length cap) (I (tA tE (i:Int))) (I (tA tE (j:Int))) G).run O W=.ok (J a1 (j-i) c1) W)∧∀W,Qe W (J a l.length cap) l->Qe W (J a1 (j-i) c1) ((l.take j).drop i):=by
 refine⟨if cap=i then a else a.map (·.add (i*1)),cap-i,fun W=>?_,fun W h=>?_⟩;·rw[run_slice_lh _ _ _ _ _ (by kernel_rfl) _ _ _ _ (by omega) (by omega) (by omega),TQ];simp only[rJ,sP,sY]
 ·have:=h.sliced i j hij hj;simpa only[sP]using this
theorem Gb(a:Option rC)(cap:Nat)(l:List UInt8)(n:Nat)(hn:n<=l.length):∃a1 c1,(∀W,(rX 24 (J a l.length cap) (I (tA tE (n:Int))) G G).run O W=.ok (J a1 (l.length-n) c1) W)∧∀W,Qe W (J a l.length cap) l->Qe W (J a1 (l.length-n) c1) (l.drop n):=by
 refine⟨if cap=n then a else a.map (·.add (n*1)),cap-n,fun W=>?_,fun W h=>?_⟩;·rw[run_slice_l _ _ _ _ _ (by kernel_rfl) _ _ (by omega) (by omega),TQ];simp only[rJ,sP,sY]
 ·have:=h.sliced n l.length hn (sA _);simpa only[sP,sC]using this
theorem Cm{ws:List Zi}(hn:ws.length<=1000)(h:∀w∈ws,QC w=0):uQ ws:=⟨by
 omega,fun j hj=>by
 have h0:=h ws[j] (sN hj);rw[show ws[j]=ws.getD j Qr by simp[hj]]at h0;have h2:=(XT _).1 h0;have h3:(ws.getD j Qr).value.length<=32:=by have:=h2.2.2;split at this;(·rw[this];simp);·exact this
 exact⟨by omega,by omega,by omega⟩⟩
theorem Dv{c:XO}(h:Za c=0):NZ c:=by
 obtain⟨h1,h2,h3⟩:=(K2 c).1 h;exact⟨by omega,Cm (by omega) h3⟩
def Iu:Prop:=∀(w:F)(v u a b c:H)(l:FL)(t:Tx)(n k m:List UInt8),ZK w v l->Ga l->qJ w u t->xW t->Qe w a n->Qe w b k->Qe w c m->n.length<=140737488355328->k.length<=140737488355328->m.length<=140737488355328->sW O 88 #[v,u,a,b,c] w fun e w'=>∃x,e=tD (sE #[x,tA tE (KM l t n k m)])∧QP 0 w' x (Gh l t n k m)∧L w w' G
def I9:Prop:=∀(w:F)(v u x:H)(l:PL)(f t:List UInt8),Qq w v l->Qe w u f->Qe w x t->kN l->f.length<=140737488355328->t.length<=140737488355328->sW O 122 #[v,u,x] w fun e w'=>∃y,e=tD (sE #[y,tA tE (YI l f t)])∧QP 0 w' y (KZ l f t)∧L w w' G
def Iv:Prop:=∀(w:F)(v r u t:H)(l:FL)(n k m:List UInt8),ZK w v l->Qe w r n->Qe w u k->Qe w t m->Ga l->n.length<=140737488355328->k.length<=140737488355328->m.length<=140737488355328->sW O 100 #[v,r,u,t] w fun e w'=>∃x,e=tD (sE #[x,tA tE (YK l n k m)])∧QP 0 w' x (Ku l n k m)∧L w w' G
def Ml:Prop:=∀(w:F)(v:H)(bs:List UInt8)(i:Int),Qe w v bs->sW O 67 #[v,tA tE i] w fun e w'=>e=tD (sE #[tL (vK bs i).1,tA tE (vK bs i).2])∧L w w' G
theorem Ml.of(hB:Ml)(w:F)(v:H)(k:List UInt8)(i:Nat)(hv:Qe w v k)(hk:1<=k.length∧k.length<=16)(hi:i<145):sW O 67 #[v,tA tE (i:Int)] w fun e w'=>e=tD (sE #[tL (Zz k i),tA tE 0])∧L w w' G:=by
 have:=hB w v k i hv;rw[eP k i hk hi]at this;exact this
def Ej:Prop:=∀(w:F)(v u:H)(a b:List UInt8),Qe w v a->Qe w u b->sW O 65 #[v,u] w fun e w'=>e=tD (sE #[tA tE (Tu a b).1,tA tE (Tu a b).2])∧L w w' G
theorem Ej.of(hP:Ej)(w:F)(v u:H)(a b:List UInt8)(hv:Qe w v a)(hu:Qe w u b)(ha:1<=a.length∧a.length<=16)(hb:1<=b.length∧b.length<=16):sW O 65 #[v,u] w fun e w'=>e=tD (sE #[tA tE (JY a b),tA tE 0])∧L w w' G:=by
 have:=hP w v u a b hv hu;rw[aQ a b ha hb]at this;exact this
def SU:Prop:=∀(w:F)(v u:H)(t:Tx)(r:Zi),qJ w v t->xW t->Xe w u r->Y0 r->sW O 90 #[v,u] w fun e w'=>∃x,e=tD (sE #[x,tA tE (Xm t r)])∧qE w' x (YL t r)∧L w w' G
def Ho:Prop:=∀(w:F)(v:H)(r:Rq),Vw w->X8 w v r->yY r->sW O 89 #[v] w fun e w'=>∃x,e=tD (sE #[x,tA tE (Jt r)])∧Xe w' x (XH r)∧L w w' G
def aS:Prop:=∀(w:F)(n t:Int),-9223372036854775808<=n->n<=9223372036854775807->-9223372036854775808<=t->t<=9223372036854775807->sW O 85 #[tA tE n,tA tE t] w fun e w'=>e=tD (tL (Z8 n t))∧L w w' G
def dS:Prop:=∀(w:F)(v:H)(b:List UInt8),Vw w->Qe w v b->b.length<=140737488355328->sW O 11 #[v] w fun e w'=>∃x,e=tD (sE #[x,tA tE (QL b)])∧X8 w' x (Qw b)∧L w w' G
theorem IF(b:List UInt8)(n:Nat)(h:n<b.length):Zy (b.drop n)=if n+1+(b.getD n 0).toNat<=b.length then I ((b.take (n+1+(b.getD n 0).toNat)).drop (n+1),b.drop (n+1+(b.getD n 0).toNat))else G:=by
 rw[sS h,Zy,show b[n]=b.getD n 0 by simp[h],pV];by_cases hc:n+1+(b.getD n 0).toNat<=b.length;·rw[if_pos (by omega),if_pos hc,List.drop_take,List.drop_drop,Nat.add_sub_cancel_left]
 ·rw[if_neg (by omega),if_neg hc]
def R6(ws:List Zi):Prop:=∀p∈ws,p.name.length<=255∧p.key.length<=255∧p.value.length<=255
theorem Bn{ws:List Zi}{p:Zi}(h:R6 ws)(hp:p.name.length<=255∧p.key.length<=255∧p.value.length<=255):R6 (ws++[p]):=fun q hq=>by
 rcases tY.1 hq with hq|hq;·exact h q hq
 ·simp only[tK,tQ,or_false]at hq;rw[hq];exact hp
theorem WQ{b:List UInt8}(h:4000<b.length):YN b=1∧JS b=Zr:=by
 have:YN b=1:=by rw[YN,if_pos h]
 exact⟨this,by rw[JS,this,if_neg (by decide)]⟩
theorem SQ{b:List UInt8}(h:b.length<4):YN b=14∧JS b=Zr:=by
 have:YN b=14:=by rw[YN,if_neg (by omega),if_pos h]
 exact⟨this,by rw[JS,this,if_neg (by decide)]⟩
theorem Hq{b:List UInt8}(h1:¬4000<b.length)(h2:¬b.length<4)(h:qN b=G):YN b=14∧JS b=Zr:=by
 have:YN b=14:=by rw[YN,if_neg h1,if_neg h2,h]
 exact⟨this,by rw[JS,this,if_neg (by decide)]⟩
theorem Hc{b r:List UInt8}{ws:List Zi}(h1:¬4000<b.length)(h2:¬b.length<4)(h:qN b=I (ws,r))(hr:r.length≠0):YN b=4∧JS b=Zr:=by
 have:YN b=4:=by rw[YN,if_neg h1,if_neg h2,h];show(if r.length=0then _ else(4:Int))=4;rw[if_neg hr]
 exact⟨this,by rw[JS,this,if_neg (by decide)]⟩
theorem Ik{b r:List UInt8}{ws:List Zi}(h1:¬4000<b.length)(h2:¬b.length<4)(h:qN b=I (ws,r))(hr:r.length=0):YN b=Za ⟨(Gt b:Int),ws⟩∧(YN b=0->JS b=⟨(Gt b:Int),ws⟩)∧(YN b≠0->JS b=Zr):=by
 have:YN b=Za ⟨(Gt b:Int),ws⟩:=by rw[YN,if_neg h1,if_neg h2,h];show(if r.length=0then _ else(4:Int))=_;rw[if_pos hr]
 refine⟨this,fun h0=>?_,fun h0=>?_⟩;·rw[JS,if_pos h0,h]
 ·rw[JS,if_neg h0]
def Xk(k:Int)(m:Nat)(p0 p1 p2 p3 r:List UInt8):Option (Rq×List UInt8):=match m with|0=>Yk k r|1=>Vq k p0 r|2=>Vs k p0 p1 r|3=>Vr k p0 p1 p2 r|_=>I (⟨k,p0,p1,p2,p3⟩,r)
theorem Ke(r:List UInt8):Jo M r=Zy r:=rfl
theorem jI(r:List UInt8)(h:r.length=0):Zy r=G:=by
 rw[tJ h];rfl
theorem uT(r:List UInt8)(h:0<r.length):Zy r=if 1+(r.getD 0 0).toNat<=r.length then I ((r.take (1+(r.getD 0 0).toNat)).drop 1,r.drop (1+(r.getD 0 0).toNat))else G:=by
 have:=IF r 0 h;rw[sL]at this;exact this
theorem qV(k:Int)(p0 p1 p2 p3 r:List UInt8):(QT k 0=N->Xk k 0 p0 p1 p2 p3 r=Xk k 1 [] p1 p2 p3 r)∧(QT k 1=N->Xk k 1 p0 p1 p2 p3 r=Xk k 2 p0 [] p2 p3 r)∧(QT k 2=N->Xk k 2 p0 p1 p2 p3 r=Xk k 3 p0 p1 [] p3 r)∧(QT k 3=N->Xk k 3 p0 p1 p2 p3 r=Xk k 4 p0 p1 p2 [] r):=by
 refine⟨fun h=>?_,fun h=>?_,fun h=>?_,fun h=>?_⟩;·show Yk k r=Vq k [] r;rw[Yk,show QY k=N from h];rfl
 ·show Vq k p0 r=Vs k p0 [] r;rw[Vq,show QY k=N from h];rfl
 ·show Vs k p0 p1 r=Vr k p0 p1 [] r;rw[Vs,show tP (k=3)=N from h];rfl
 ·show Vr k p0 p1 p2 r=I (⟨k,p0,p1,p2,[]⟩,r);rw[Vr,show tP (k=4)=N from h];rfl
theorem Gv(k:Int)(p0 p1 p2 p3 r:List UInt8)(h0:Zy r=G)(m:Nat)(hm:m<4)(h:QT k m=M):Xk k m p0 p1 p2 p3 r=G:=by
 match m,hm with|0,_=>show Yk k r=G;rw[Yk,show QY k=M from h,Ke,h0]|1,_=>show Vq k p0 r=G;rw[Vq,show QY k=M from h,Ke,h0]|2,_=>show Vs k p0 p1 r=G;rw[Vs,show tP (k=3)=M from h,Ke,h0]|3,_=>show Vr k p0 p1 p2 r=G;rw[Vr,show tP (k=4)=M from h,Ke,h0]
theorem Gx(k:Int)(p0 p1 p2 p3 r p r2:List UInt8)(h0:Zy r=I (p,r2)):(QT k 0=M->Xk k 0 p0 p1 p2 p3 r=Xk k 1 p p1 p2 p3 r2)∧(QT k 1=M->Xk k 1 p0 p1 p2 p3 r=Xk k 2 p0 p p2 p3 r2)∧(QT k 2=M->Xk k 2 p0 p1 p2 p3 r=Xk k 3 p0 p1 p p3 r2)∧(QT k 3=M->Xk k 3 p0 p1 p2 p3 r=Xk k 4 p0 p1 p2 p r2):=by
 refine⟨fun h=>?_,fun h=>?_,fun h=>?_,fun h=>?_⟩;·show Yk k r=Vq k p r2;rw[Yk,show QY k=M from h,Ke,h0]
 ·show Vq k p0 r=Vs k p0 p r2;rw[Vq,show QY k=M from h,Ke,h0]
 ·show Vs k p0 p1 r=Vr k p0 p1 p r2;rw[Vs,show tP (k=3)=M from h,Ke,h0]
 ·show Vr k p0 p1 p2 r=I (⟨k,p0,p1,p2,p⟩,r2);rw[Vr,show tP (k=4)=M from h,Ke,h0]
def WT(k:Int)(b:List UInt8):Int:=match Yk k b with|none=>14|I (_,x)=>if x.length=0then 0 else 4
def T8(k:Int)(b:List UInt8):Rq:=match Yk k b with|none=>Gn|I (r,x)=>if x.length=0then r else Gn
theorem Th{k:Int}{b:List UInt8}(h:Yk k b=G):WT k b=14∧T8 k b=Gn:=by
 unfold WT T8;rw[h];exact⟨rfl,rfl⟩
theorem Tl{k:Int}{b x:List UInt8}{r:Rq}(h:Yk k b=I (r,x))(hx:0<x.length):WT k b=4∧T8 k b=Gn:=by
 unfold WT T8;rw[h];exact⟨if_neg (by omega),if_neg (by omega)⟩
theorem Tg{k:Int}{b x:List UInt8}{r:Rq}(h:Yk k b=I (r,x))(hx:x.length=0):WT k b=0∧T8 k b=r:=by
 unfold WT T8;rw[h];exact⟨if_pos hx,if_pos hx⟩
theorem fG{k:Int}{b:List UInt8}(h:WT k b=0):(T8 k b).kind=k:=by
 match hD:Yk k b with|none=>rw[(Th hD).1]at h;cases h|I (r,x)=>by_cases hx:x.length=0;(·rw[(Tg hD hx).2];exact(T6 hD).2);·rw[(Tl hD (by omega)).1]at h;cases h
theorem eV{b:List UInt8}(h1:¬4000<b.length)(h2:¬b.length=0)(hk:1<=Uz b∧Uz b<=8):QL b=(if WT (Uz b) (b.drop 1)=0then Yn (T8 (Uz b) (b.drop 1))else WT (Uz b) (b.drop 1))∧(QL b=0->Qw b=T8 (Uz b) (b.drop 1)):=by
 match hD:Yk (Uz b) (b.drop 1)with|none=>obtain⟨e1,e2⟩:=Th hD;(have:QL b=14:=by rw[QL,if_neg h1,if_neg h2,if_pos hk,hD]);rw[e1,this];exact⟨rfl,fun h=>by cases h⟩|I (r,x)=>(have hw:QL b=if x.length=0then Yn r else 4:=by rw[QL,if_neg h1,if_neg h2,if_pos hk,hD]);by_cases hx:x.length=0;(·obtain⟨e1,e2⟩:=Tg hD hx;rw[if_pos hx]at hw;rw[e1,e2,if_pos rfl];exact⟨hw,fun h=>by rw[Qw,if_pos h,hD]⟩);·obtain⟨e1,e2⟩:=Tl hD (by omega);rw[if_neg hx]at hw;rw[e1,hw];exact⟨rfl,fun h=>by cases h⟩
theorem dR{k:Int}{b:List UInt8}(hb:b.length<=4000):(T8 k b).name.length<=4000∧(T8 k b).key.length<=4000∧(T8 k b).last.length<=4000∧(T8 k b).value.length<=4000:=by
 match hD:Yk k b with|none=>rw[(Th hD).2];simp[Gn]|I (r,x)=>by_cases hx:x.length=0;(·rw[(Tg hD hx).2];obtain⟨_,r1,r2,r3,h1,h2,h3,h4⟩:=uI hD;(have key:∀{c:Bool}{r p r2:List UInt8},Jo c r=I (p,r2)->p.length<=r.length∧r2.length<=r.length:=by intro c r p r2 h;have hf:=V8 h;cases c with|false=>have:=Ig h rfl;subst this;rw[hf];exact⟨tS _,by simp[Xt]⟩|true=>rw[hf];simp[Xt,XV];omega);have a1:=key h1;have a2:=key h2;have a3:=key h3;have a4:=key h4;omega);·rw[(Tl hD (by omega)).2];simp[Gn]
def cM:Prop:=∀(w:F)(u v:H)(k:List UInt8)(p:Gw),Qe w u k->Xw w v p->jC p->sW O 37 #[u,v] w fun e w'=>e=tD (tA tE (Yf k p))∧L w w' G
structure Vx where
  rest : List UInt8
  short : Bool
def F4(r:Vx)(n:Nat):List UInt8:=if r.short=M∨r.rest.length<n then[]else r.rest.take n
def Ab(r:Vx)(n:Nat):Vx:=if r.short=M∨r.rest.length<n then⟨r.rest,M⟩else⟨r.rest.drop n,N⟩
theorem Tt{r:Vx}{n:Nat}(h:r.short=M∨r.rest.length<n):F4 r n=[]∧Ab r n=⟨r.rest,M⟩:=⟨if_pos h,if_pos h⟩
theorem Pa{r:Vx}{n:Nat}(h:¬(r.short=M∨r.rest.length<n)):F4 r n=r.rest.take n∧Ab r n=⟨r.rest.drop n,N⟩:=⟨if_neg h,if_neg h⟩
theorem dJ(r:Vx)(n:Nat):(F4 r n).length<=n:=by
 unfold F4;split;·simp
 ·rw[pA];omega
def Xj(r:Vx):Vx:=Ab r 1
def JU(r:Vx):Nat:=if(Xj r).short=M then 0 else((F4 r 1).getD 0 0).toNat
theorem Ys(r:Vx):JU r<256:=by
 unfold JU;split;·omega
 ·exact((F4 r 1).getD 0 0).toNat_lt
theorem Y8(x:UInt8)(l:List UInt8):Xj ⟨x::l,N⟩=⟨l,N⟩∧JU ⟨x::l,N⟩=x.toNat:=by
 have h:¬((⟨x::l,N⟩:Vx).short=M∨(⟨x::l,N⟩:Vx).rest.length<1):=by simp
 obtain⟨h1,h2⟩:=Pa h;have h3:Xj ⟨x::l,N⟩=⟨l,N⟩:=h2;refine⟨h3,?_⟩;rw[JU,h3,h1,if_neg (by simp)];rfl
theorem Pw{r:Vx}(h:r.short=M)(n:Nat):(Ab r n).short=M:=by
 rw[(Tt (.inl h)).2]
theorem Ks{r:Vx}(h:r.short=M):(Xj r).short=M:=Pw h 1
theorem jB:(Xj ⟨[],N⟩).short=M:=rfl
def Lt(r:Vx):List UInt8:=F4 (Xj r) (JU r)
def KT(r:Vx):Vx:=Ab (Xj r) (JU r)
theorem VU{r:Vx}(h:r.short=M):(KT r).short=M:=Pw (Ks h) _
theorem Pl{l p l2:List UInt8}(h:Zy l=I (p,l2)):Lt ⟨l,N⟩=p∧KT ⟨l,N⟩=⟨l2,N⟩:=by
 cases l with|nil=>cases h|cons x l=>rw[Zy]at h;obtain⟨h1,h2⟩:=Y8 x l;unfold Lt KT;rw[h1,h2];by_cases hx:x.toNat<=l.length;(·rw[if_pos hx]at h;simp only[Y,rY]at h;obtain⟨rfl,rfl⟩:=h;exact Pa (by simp;omega));·rw[if_neg hx]at h;cases h
theorem Ti{l:List UInt8}(h:Zy l=G):(KT ⟨l,N⟩).short=M:=by
 cases l with|nil=>exact Pw jB _|cons x l=>rw[Zy]at h;obtain⟨h1,h2⟩:=Y8 x l;unfold KT;rw[h1,h2];by_cases hx:x.toNat<=l.length;(·rw[if_pos hx]at h;cases h);·rw[(Tt (.inr (by show l.length<x.toNat;omega))).2]
theorem RU(r:Vx):(Lt r).length<=255:=tN (dJ _ _) (pW (Ys r))
def Tv(r:Vx):Zi:=if JU (KT (KT r))=255then⟨Lt r,Lt (KT r),[],M⟩else⟨Lt r,Lt (KT r),Lt (KT (KT r)),N⟩
def BL(r:Vx):Vx:=if JU (KT (KT r))=255then Xj (KT (KT r))else KT (KT (KT r))
theorem Cx{r:Vx}(h:r.short=M):(BL r).short=M:=by
 unfold BL;split;·exact Ks (VU (VU h))
 ·exact VU (VU (VU h))
theorem RG{r:Vx}(h:(KT (KT r)).short=M):(BL r).short=M:=by
 unfold BL;split;·exact Ks h
 ·exact VU h
theorem eX{l l2:List UInt8}{p:Zi}(h:Jj l=I (p,l2)):Tv ⟨l,N⟩=p∧BL ⟨l,N⟩=⟨l2,N⟩:=by
 unfold Jj at h;cases h1:Zy l with|none=>rw[h1]at h;cases h|some q=>obtain⟨n,la⟩:=q;rw[h1]at h;have h:M5 n la=I (p,l2):=h;unfold M5 at h;obtain⟨a1,a2⟩:=Pl h1;cases h2:Zy la with|none=>rw[h2]at h;cases h|some q=>obtain⟨k,lb⟩:=q;rw[h2]at h;have h:vG n k lb=I (p,l2):=h;unfold vG at h;obtain⟨b1,b2⟩:=Pl h2;unfold Tv BL;rw[a1,a2,b1,b2];cases lb with|nil=>cases h|cons x lb=>obtain⟨c1,c2⟩:=Y8 x lb;by_cases hx:(x::lb).head?=I 255;(·rw[if_pos hx]at h;simp only[Y,rY]at h;obtain⟨rfl,rfl⟩:=h;have:x=255:=oK hx;subst this;rw[c2,c1,if_pos (by rfl),if_pos (by rfl)];exact⟨rfl,rfl⟩);·rw[if_neg hx]at h;have hne:¬x.toNat=255:=fun e=>hx (by rw[show x=255from pX.1 e];rfl);rw[c2,if_neg hne,if_neg hne];cases h3:Zy (x::lb)with|none=>rw[h3]at h;cases h|some q=>obtain⟨v,lc⟩:=q;rw[h3]at h;simp only[Y,rY]at h;obtain⟨rfl,rfl⟩:=h;obtain⟨d1,d2⟩:=Pl h3;rw[d1,d2];exact⟨rfl,rfl⟩
theorem dY{l:List UInt8}(h:Jj l=G):(BL ⟨l,N⟩).short=M:=by
 unfold Jj at h;cases h1:Zy l with|none=>exact RG (VU (Ti h1))|some q=>obtain⟨n,la⟩:=q;rw[h1]at h;have h:M5 n la=G:=h;unfold M5 at h;obtain⟨a1,a2⟩:=Pl h1;cases h2:Zy la with|none=>exact RG (by rw[a2];exact Ti h2)|some q=>obtain⟨k,lb⟩:=q;rw[h2]at h;have h:vG n k lb=G:=h;unfold vG at h;obtain⟨b1,b2⟩:=Pl h2;unfold BL;rw[a2,b2];cases lb with|nil=>split;(·exact jB);·exact Ti rfl|cons x lb=>obtain⟨c1,c2⟩:=Y8 x lb;by_cases hx:(x::lb).head?=I 255;(·rw[if_pos hx]at h;cases h);·rw[if_neg hx]at h;have hne:¬x.toNat=255:=fun e=>hx (by rw[show x=255from pX.1 e];rfl);rw[c2,if_neg hne];cases h3:Zy (x::lb)with|none=>exact Ti h3|some q=>obtain⟨v,lc⟩:=q;rw[h3]at h;cases h
theorem OK(r:Vx):(Tv r).name.length<=255∧(Tv r).key.length<=255∧(Tv r).value.length<=255:=by
 unfold Tv;split;·exact⟨RU _,RU _,by simp⟩
 ·exact⟨RU _,RU _,RU _⟩
def UL:Nat->Vx->Vx|0,r=>r|n+1,r=>BL (UL n r)
def UE:Nat->Vx->List Zi|0,_=>[]|n+1,r=>UE n r++[Tv (UL n r)]
theorem De:∀(n:Nat)(r:Vx),(UE n r).length=n|0,_=>rfl|n+1,r=>by rw[UE,tB,De n r];rfl
theorem Ns:∀(n:Nat)(r:Vx),R6 (UE n r)|0,_=>fun p hp=>by simp[UE]at hp|n+1,r=>Bn (Ns n r) (OK _)
theorem Nn:∀(n:Nat){r:Vx},r.short=M->(UL n r).short=M|0,_,h=>h|n+1,_,h=>Cx (Nn n h)
theorem vZ:∀(n:Nat){l l2:List UInt8}{ws:List Zi},ZS n l=I (ws,l2)->UE n ⟨l,N⟩=ws∧UL n ⟨l,N⟩=⟨l2,N⟩|0,l,l2,ws,h=>by rw[ZS]at h;simp only[Y,rY]at h;obtain⟨rfl,rfl⟩:=h;exact⟨rfl,rfl⟩|n+1,l,l2,ws,h=>by rw[xS]at h;cases h1:ZS n l with|none=>rw[h1]at h;cases h|some q=>obtain⟨ws1,l1⟩:=q;rw[h1]at h;have h:(match Jj l1 with|I (w,r2)=>I (ws1++[w],r2)|none=>G)=I (ws,l2):=h;obtain⟨e1,e2⟩:=vZ n h1;cases h2:Jj l1 with|none=>rw[h2]at h;cases h|some q=>obtain⟨p,l3⟩:=q;rw[h2]at h;simp only[Y,rY]at h;obtain⟨rfl,rfl⟩:=h;obtain⟨d1,d2⟩:=eX h2;rw[UE,UL,e1,e2,d1,d2];exact⟨rfl,rfl⟩
theorem Cq:∀(n:Nat){l:List UInt8},ZS n l=G->(UL n ⟨l,N⟩).short=M|0,l,h=>by rw[ZS]at h;cases h|n+1,l,h=>by rw[xS]at h;cases h1:ZS n l with|none=>exact Cx (Cq n h1)|some q=>obtain⟨ws1,l1⟩:=q;rw[h1]at h;have h:(match Jj l1 with|I (w,r2)=>I (ws1++[w],r2)|none=>G)=G:=h;obtain⟨e1,e2⟩:=vZ n h1;cases h2:Jj l1 with|none=>rw[UL,e2];exact dY h2|some q=>obtain⟨p,l3⟩:=q;rw[h2]at h;cases h
def ET(r:Vx):Vx:=UL (JU (Xj (Xj (Xj r)))) (Xj (Xj (Xj (Xj r))))
def E5(r:Vx):XO:=⟨((65536*JU r+256*JU (Xj r)+JU (Xj (Xj r)):Nat):Int),UE (JU (Xj (Xj (Xj r)))) (Xj (Xj (Xj (Xj r))))⟩
theorem D4(r:Vx):R6 (E5 r).writes∧(E5 r).writes.length<=255:=⟨Ns _ _,by
 show(UE _ _).length<=255;rw[De];exact pW (Ys _)⟩
theorem L2(b:List UInt8)(h:¬b.length<4):JU ⟨b,N⟩=(b.getD 0 0).toNat∧JU (Xj ⟨b,N⟩)=(b.getD 1 0).toNat∧JU (Xj (Xj ⟨b,N⟩))=(b.getD 2 0).toNat∧JU (Xj (Xj (Xj ⟨b,N⟩)))=(b.getD 3 0).toNat∧Xj (Xj (Xj (Xj ⟨b,N⟩)))=⟨b.drop 4,N⟩:=by
 match b,h with|[],h=>exact absurd (by simp) h|[_],h=>exact absurd (by simp) h|[_,_],h=>exact absurd (by simp) h|[_,_,_],h=>exact absurd (by simp) h|x0::x1::x2::x3::b,_=>obtain⟨a1,a2⟩:=Y8 x0 (x1::x2::x3::b);obtain⟨b1,b2⟩:=Y8 x1 (x2::x3::b);obtain⟨c1,c2⟩:=Y8 x2 (x3::b);obtain⟨d1,d2⟩:=Y8 x3 b;rw[a1,b1,c1,d1];exact⟨a2,b2,c2,d2,rfl⟩
theorem lA(b:List UInt8)(h:b.length<4):(ET ⟨b,N⟩).short=M:=by
 unfold ET;refine Nn _ ?_;match b,h with|[],_=>exact Ks (Ks (Ks jB))|[x],_=>rw[(Y8 x []).1];exact Ks (Ks jB)|[x,y],_=>rw[(Y8 x [y]).1,(Y8 y []).1];exact Ks jB|[x,y,z],_=>rw[(Y8 x [y,z]).1,(Y8 y [z]).1,(Y8 z []).1];exact jB|_::_::_::_::_,h=>exact absurd h (by simp only[sM];omega)
theorem OE{b:List UInt8}(h0:¬4000<b.length)(h:(ET ⟨b,N⟩).short=M):YN b=14∧JS b=Zr:=by
 by_cases h4:b.length<4;·exact SQ h4
 ·obtain⟨_,_,_,e3,e4⟩:=L2 b h4;cases hb:qN b with|none=>exact Hq h0 h4 hb|some q=>obtain⟨ws,l⟩:=q;obtain⟨_,e5⟩:=vZ _ hb;unfold ET at h;rw[e3,e4,e5]at h;cases h
theorem DO{b:List UInt8}(h:(ET ⟨b,N⟩).short=N):¬b.length<4∧qN b=I ((E5 ⟨b,N⟩).writes,(ET ⟨b,N⟩).rest)∧(Gt b:Int)=(E5 ⟨b,N⟩).turn:=by
 by_cases h4:b.length<4;·rw[lA b h4]at h;cases h
 ·obtain⟨e0,e1,e2,e3,e4⟩:=L2 b h4;refine⟨h4,?_,?_⟩;(·cases hb:qN b with|none=>have:=Cq _ hb;unfold ET at h;rw[e3,e4,this]at h;cases h|some q=>obtain⟨ws,l⟩:=q;obtain⟨e5,e6⟩:=vZ _ hb;unfold ET E5;rw[e3,e4,e5,e6]);·unfold E5;rw[e0,e1,e2];rfl
theorem gC{b:List UInt8}(h0:¬4000<b.length)(h:(ET ⟨b,N⟩).short=N)(hr:(ET ⟨b,N⟩).rest.length≠0):YN b=4∧JS b=Zr:=by
 obtain⟨h4,hb,_⟩:=DO h;exact Hc h0 h4 hb hr
theorem fT{b:List UInt8}(h0:¬4000<b.length)(h:(ET ⟨b,N⟩).short=N)(hr:(ET ⟨b,N⟩).rest.length=0):YN b=Za (E5 ⟨b,N⟩)∧(YN b=0->JS b=E5 ⟨b,N⟩)∧(YN b≠0->JS b=Zr):=by
 obtain⟨h4,hb,ht⟩:=DO h;have:=Ik h0 h4 hb hr;rw[ht]at this;exact this
theorem ZI(w:F)(o:Obj):∃W:F,Hid (W=w.alloc o)∧L w W G∧Hid (W.heap[w.heap.size]?=I o):=⟨w.alloc o,rfl,rA _ _ _,oJ w o⟩
theorem kQ(w:F)(b i:Nat)(u:H):∃W:F,Hid (W=tC w ⟨b,i,G⟩ u)∧L w W (I b):=⟨_,rfl,YV w b i u⟩
theorem mN:(229:Nat)≠5:=by
 decide
theorem gO:(229:Nat)≠172:=by
 decide
theorem Qe.rdr{w w':F}{b:Nat}{a0:Option rC}{n0 c0:Nat}{s:Bool}{t:tV}{v:H}{bs:List UInt8}(h:Qe w v bs)(hb:w.heap[b]?=I (S #[J a0 n0 c0,tL s] t))(hg:L w w' (I b)):Qe w' v bs:=by
 obtain⟨a,cap,rfl,hc,h⟩:=h;refine⟨a,cap,rfl,hc,?_⟩;rcases h with h|⟨pb,o,rfl,h⟩;·exact .inl h
 ·by_cases h0:bs=[];(·exact .inl ⟨h0,fun e=>by cases e⟩);·refine .inr ⟨pb,o,rfl,h.grown hg ?_⟩;intro e;cases e;have hc0:=h 0 (rW.2 h0);simp only[tR,hb,Nat.add_zero]at hc0;match o,hc0 with|0,hc0=>simp at hc0|1,hc0=>simp at hc0|o+2,hc0=>simp at hc0
structure Zg (w0 w : F) (b : Nat) (r : Vx) : Prop where
  at_ : ∃ a cap, w.heap[b]? = I (S #[J a r.rest.length cap, tL r.short] 229) ∧ Qe w0 (J a r.rest.length cap) r.rest
  old : ∃ a n c s, w0.heap[b]? = I (S #[J a n c, tL s] 229)
  grown : L w0 w (I b)
theorem Zg.lt{w0 w:F}{b:Nat}{r:Vx}(h:Zg w0 w b r):b<w.heap.size:=by
 obtain⟨a,cap,h,_⟩:=h.at_;exact(tH.1 h).1
theorem Zg.now{w0 w:F}{b:Nat}{r:Vx}(h:Zg w0 w b r){v:H}{bs:List UInt8}(hv:Qe w0 v bs):Qe w v bs:=by
 obtain⟨a,n,c,s,h0⟩:=h.old;exact hv.rdr h0 h.grown
theorem Zg.row{w0 w:F}{b:Nat}{r:Vx}(h:Zg w0 w b r):I b=G∨∃g cur t fz,I b=I g∧0<=g∧w.heap[g]?=I (S cur t fz)∧t≠5:=by
 obtain⟨a,cap,h,_⟩:=h.at_;exact .inr ⟨b,_,_,_,rfl,tS _,h,mN⟩
theorem Qh.rdr{w0 w w':F}{b:Nat}{r:Vx}{v:H}{bs:List UInt8}(h:Qh 0 w v bs)(hb:Zg w0 w b r)(hg:L w w' (I b)):Qh 0 w' v bs:=h.keptT hg hb.row
theorem Xz{w w':F}(hg:L w w' G)(r:Option Nat):L w w' r:=⟨hg.os,hg.tape,hg.output,hg.size,fun i hi _=>hg.block i hi (by
 simp)⟩
theorem Zg.kept{w0 w w':F}{b:Nat}{r:Vx}(h:Zg w0 w b r)(hg:L w w' G):Zg w0 w' b r:=by
 have hl:=h.lt;obtain⟨a,cap,h1,hs⟩:=h.at_;exact⟨⟨a,cap,by rw[hg.block b hl (by simp)];exact h1,hs⟩,h.old,Qa h.grown (Xz hg _)⟩
theorem Xg{w w':F}{b:Nat}(hg:L w w' (I b)){c:Nat}{o:Obj}(hc:w.heap[c]?=I o)(hne:c≠b):w'.heap[c]?=I o:=by
 rw[hg.block c (tH.1 hc).1 (by simpa using hne)];exact hc
theorem Zg.apart{w0 w w':F}{b:Nat}{r:Vx}(h:Zg w0 w b r){c:Nat}(hne:b≠c)(hc:w0.heap.size<=c)(hg:L w w' (I c)):Zg w0 w' b r:=by
 have hl:=h.lt;obtain⟨a,cap,h1,hs⟩:=h.at_;exact⟨⟨a,cap,by rw[hg.block b hl (by simpa using hne)];exact h1,hs⟩,h.old,JQ h.grown hc hg⟩
theorem Q5.rdr{rb:Nat}{w0 w w':F}{b:Nat}{r:Vx}{v:H}{l:List Zi}(h:Q5 rb 0 w v l)(hb:Zg w0 w b r)(hg:L w w' (I b)):Q5 rb 0 w' v l:=by
 obtain⟨a,cap,h0,_⟩:=hb.at_;exact h.kept hg (.inr (h.ne h0 gO)) hb.row
theorem Zg.ownV{rb:Nat}{w0 w w':F}{b:Nat}{r:Vx}{v:H}{l:List Zi}(h:Zg w0 w b r)(ho:Q5 rb 0 w v l)(hb:w0.heap.size<=rb)(hg:L w w' v.ownBlock):Zg w0 w' b r:=by
 obtain⟨a,cap,h1,hs⟩:=h.at_;have hne:=ho.ne h1 gO;cases hv:v.ownBlock with|none=>rw[hv]at hg;exact h.kept hg|some g=>rw[hv]at hg hne;exact h.apart (c:=g) (fun e=>hne (by rw[e])) (tN hb (ho.lt g hv).1) hg
section
open Go.ChangeShapes Go.WideShapes Go.ChangeAt Go.RowKit
theorem mY:ownKnob O.godebug=G:=by
 kernel_rfl
theorem dZ:laidOutB O=M:=by
 kernel_rfl
theorem Gf{n:Int}(h:(Lit.int tE n).wf=M):-9223372036854775808<=n∧n<=9223372036854775807:=bounds_i64 h
theorem aO{w w':F}(h:L w w' G):Below w.heap.size w w':=⟨h.os,h.tape,h.output,h.size,fun k hk=>h.block k hk (by
 simp)⟩
end
structure My(g:Gr):Prop where kind:-9223372036854775808<=g.kind∧g.kind<=9223372036854775807sess:-9223372036854775808<=g.sess∧g.sess<=9223372036854775807name:-9223372036854775808<=g.name∧g.name<=9223372036854775807key:-9223372036854775808<=g.key∧g.key<=9223372036854775807value:-9223372036854775808<=g.value∧g.value<=9223372036854775807
def X0(r:Rq):Nat->List UInt8|0=>[rB r.kind.toNat]|1=>[rB r.kind.toNat]++Xt (QT r.kind 0) r.name|2=>[rB r.kind.toNat]++Xt (QT r.kind 0) r.name++Xt (QT r.kind 1) r.key|3=>[rB r.kind.toNat]++Xt (QT r.kind 0) r.name++Xt (QT r.kind 1) r.key++Xt (QT r.kind 2) r.last|_=>[rB r.kind.toNat]++Xt (QT r.kind 0) r.name++Xt (QT r.kind 1) r.key++Xt (QT r.kind 2) r.last++Xt (QT r.kind 3) r.value
theorem WL(r:Rq):X0 r 4=KH r:=by
 show[rB r.kind.toNat]++Xt (QY r.kind) r.name++Xt (QY r.kind) r.key++Xt (tP (r.kind=3)) r.last++Xt (tP (r.kind=4)) r.value=_;rw[KH,xC];simp[List.append_assoc]
theorem Hv{r:Rq}(h:Y6 r)(m:Nat):(X0 r m).length<=200:=by
 have k1:r.name.length<=8:=by by_cases e:QY r.kind=M;(·exact(h.name e).2);·rw[h.noName (by simpa using e)];simp
 have k2:r.key.length<=16:=by by_cases e:QY r.kind=M;(·exact(h.key e).2);·rw[h.noKey (by simpa using e)];simp
 have k3:r.last.length<=16:=by by_cases e:r.kind=3;(·exact(h.last e).2);·rw[h.noLast e];simp
 have k4:=h.value;have l1:=K9 (QT r.kind 0) r.name;have l2:=K9 (QT r.kind 1) r.key;have l3:=K9 (QT r.kind 2) r.last;have l4:=K9 (QT r.kind 3) r.value;match m with|0=>simp[X0]|1=>simp only[X0,tB,tZ];omega|2=>simp only[X0,tB,tZ];omega|3=>simp only[X0,tB,tZ];omega|m+4=>simp only[X0,tB,tZ];omega
def IT:Prop:=∀(w:F)(v:H)(t:Gm),K5 w v t->yN t->sW O 62 #[v] w fun e w'=>∃x,e=tD (sE #[x,tA tE (RZ t)])∧YA w' x (Kx t)∧L w w' G
def AO:Prop:=∀(w:F)(v:H)(t:Gm)(keep:Int),K5 w v t->yN t->-9223372036854775808<=keep->keep<=9223372036854775807->sW O 78 #[v,tA tE keep] w fun e w'=>∃x,e=tD (sE #[x,tA tE (Uw t keep)])∧YA w' x (XC t keep)∧L w w' G
theorem E0:(82:Nat)≠5:=by
 decide
theorem LN:(82:Nat)≠172:=by
 decide
theorem EV:(82:Nat)≠181:=by
 decide
def IL:Prop:=∀(w:F)(v:H)(a:Ac),Wk w v a->Sh a->sW O 28 #[v] w fun e w'=>e=tD (tA tE (Ja a))∧L w w' G
theorem OG(s q:Int)(d:List UInt8):Ja ⟨1,s,q,d⟩=if 0<=s∧s<=7then(if 4000<d.length then 1 else if q=0then 0 else 4)else 2:=by
 unfold Ja;rw[if_pos (by show(1:Int)<=1∧(1:Int)<=4;omega)];by_cases h1:0<=s∧s<=7;·rw[if_pos h1,if_neg (by rintro(⟨_,h⟩|⟨h,_⟩);exact h h1;cases h)];by_cases h2:4000<d.length;(·rw[if_pos h2,if_pos h2]);·rw[if_neg h2,if_neg h2];by_cases h3:q=0;(·rw[if_pos h3,if_neg];rintro(⟨h,_⟩|⟨_,h⟩|⟨h,_⟩);(·exact h rfl);(·exact h h3);·exact h rfl);·rw[if_neg h3,if_pos (.inr (.inl ⟨by show(1:Int)≠3;decide,h3⟩))]
 ·rw[if_neg h1,if_pos (.inl ⟨rfl,h1⟩)]
theorem SD(s q:Int)(d:List UInt8):Ja ⟨3,s,q,d⟩=if 0<=q∧q<=200000then(if 4000<d.length then 1 else if s=0then(if 0<d.length then 4 else 0)else 4)else 2:=by
 unfold Ja;rw[if_pos (by show(1:Int)<=3∧(3:Int)<=4;omega)];by_cases h1:0<=q∧q<=200000;·rw[if_pos h1,if_neg (by rintro(⟨h,_⟩|⟨_,h⟩);cases h;exact h h1)];by_cases h2:4000<d.length;(·rw[if_pos h2,if_pos h2]);·rw[if_neg h2,if_neg h2];by_cases h3:s=0;(·rw[if_pos h3];by_cases h4:0<d.length;(·rw[if_pos h4,if_pos (.inr (.inr ⟨by show(3:Int)≠1;decide,h4⟩))]);·rw[if_neg h4,if_neg];rintro(⟨_,h⟩|⟨h,_⟩|⟨_,h⟩);(·exact h h3);(·exact h rfl);·exact h4 h);·rw[if_neg h3,if_pos (.inl ⟨by show(3:Int)≠1;decide,h3⟩)]
 ·rw[if_neg h1,if_pos (.inr ⟨rfl,h1⟩)]
theorem By(k s q:Int)(d:List UInt8)(hk:k=2∨k=4):Ja ⟨k,s,q,d⟩=if 4000<d.length then 1 else if s=0then(if q=0then(if 0<d.length then 4 else 0)else 4)else 4:=by
 unfold Ja;have k1:¬k=1:=by omega
 have k3:¬k=3:=by omega
 rw[if_pos (by show 1<=k∧k<=4;omega),if_neg (by rintro(⟨h,_⟩|⟨h,_⟩);exact k1 h;exact k3 h)];by_cases h2:4000<d.length;·rw[if_pos h2,if_pos h2]
 ·rw[if_neg h2,if_neg h2];by_cases h3:s=0;(·rw[if_pos h3];by_cases h5:q=0;(·rw[if_pos h5];by_cases h4:0<d.length;(·rw[if_pos h4,if_pos (.inr (.inr ⟨k1,h4⟩))]);·rw[if_neg h4,if_neg];rintro(⟨_,h⟩|⟨_,h⟩|⟨_,h⟩);(·exact h h3);(·exact h h5);·exact h4 h);·rw[if_neg h5,if_pos (.inr (.inl ⟨k3,h5⟩))]);·rw[if_neg h3,if_pos (.inl ⟨k1,h3⟩)]
end Go.Proofs.YtahggnmfofgddaaGreatDoor
