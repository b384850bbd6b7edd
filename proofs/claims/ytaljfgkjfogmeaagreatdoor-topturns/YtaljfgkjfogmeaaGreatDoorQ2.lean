/-
  Texts of this proof, joined, with few blanks: AcM0, AcMem, PairM0, PairB, WrMem, CmtMem, CmtFit, CmtTy, CmtRow, CmtSet, CmtRowD, TCCheck, PairStepQ, PairSlice, TenMem, FCCheck, FCApply, StepMem, FCRange, FindM, TCRange, TapeA, TapeB, TpCheck, TapeH, RdrF, RdrMem, FrameB, WireF, RqMem, RqBox, RdF, TapeK, HistF, HistC, TxnF, TxnG, WireG, LineG, SrvF, SrvI, SrvO, RqEn, TopF, GearM, HsKept, IdxF, RdM0, RdMem, SvK, SvG, TxNote, TxM, TxnL, TxCheck, TxMs, RqCk, WrCkF, TxLook, SrvS, SrvM, SrvN, TxClash, TpEnc, TxScan, TxWrite, RqDe, WrDtF, SrvT, TpSync, TpCrash, TapTy, LnCk, LineH, WrEnF.
-/
import Derived.Deep.AppendLies
import Derived.Test.YtaljfgkjfogmeaaGreatDoorQ1
import Derived.Maps.AppendAt
import Derived.ProofKit
import Derived.OpenShut
import Derived.ShutString
import Derived.ChangeOld
import Derived.Deep.DeepHandedRow
import Derived.SizedLaws
import Derived.Test.YtaljfgkjfogmeaaGreatDoorRows
set_option maxRecDepth 100000
set_option maxHeartbeats 8000000
open Array renaming getElem?_eq_some_iff->tH,getElem?_modify->tS,getElem?_toList->pA
open Array.mk renaming injEq->pI
open Bool renaming true->M,false->N,or_eq_false_iff->sX,and_eq_true->rO,false_or->oE
open Classical renaming byContradiction->sW
open Decidable renaming decide->tD
open Go renaming World->F,Value->H,TypeId->tV,undef->sM,Calls->rC,Operand->rH,Oper->rJ,Addr->rU,info_parts->rX,sliced->r7,yielded->pB,maxLen->pG,heap_alloc_new->oH
open Go.Addr.mk renaming injEq->rM
open Go.Ending renaming returned->tK
open Go.IntKind renaming i64->tE,u8->rS
open Go.Obj renaming cells->O
open Go.Obj.cells renaming injEq->sA
open Go.Proofs.Tryz renaming prog->S
open Go.Region renaming wanted->sD
open Go.Value renaming slice->J,int->Y,bool->tN,agg->sH,tuple->sV,ownBlock->pK
open Go.Value.agg renaming injEq->pE
open Go.Value.slice renaming injEq->tL
open Go.World renaming grownBy->L,setCell->tC,cell?->tW,cell?_of_block->sO,ownsRow_nil->sP,grownBy_alloc->sQ,news_of_block->sZ,frozen?->rN,cell?_setCell_same'->pL
open Go.World.ownsRow renaming kept->tZ,lt->sG
open Int renaming toNat_natCast->pF,emod_lt_of_pos->pR,emod_nonneg->oC
open List renaming length_append->tA,eq_nil_of_length_eq_zero->tG,mem_cons->tJ,not_mem_nil->tM,flatMap_cons->tR,append_nil->tU,mem_append->tY,length_singleton->sB,getElem?_take->sC,mem_cons_of_mem->sE,getElem?_eq_some_iff->sI,length_cons->sJ,take_length->sK,drop_eq_getElem_cons->sL,mem_cons_self->sN,take_succ_cons->sS,getElem_mem->sU,take_succ_eq_append_getElem->sY,pairwise_cons->rA,any_cons->rB,flatMap_nil->rD,length_take->rF,any_eq_true->rG,append_assoc->rK,take_append_drop->rP,length_set->rT,length_pos_iff->rV,take_set->pD,length_drop->pH,nil_append->pJ,getElem?_append_left->pM,getElem?_append->pN,drop_succ_cons->pO,set_cons_succ->pP,nodup_append->pQ,cons_append->pS,length_nil->pV,nodup_cons->pW,mem_filter->pX,take_take->pY,map_cons->oD
open List.cons renaming injEq->rY
open Nat renaming lt_of_lt_of_le->tI,le_trans->tP,zero_le->tQ,le_refl->tX,zero_add->sR,succ_mul->r8,mul_le_mul_right->pC,le_of_lt_succ->pT,min_eq_left->pZ,sub_self->oF,sub_zero->oG
open Option renaming none->G,some->I,map_some->rI
open Option.some renaming injEq->tB,inj->oI
open Prod.mk renaming injEq->rW
open UInt8 renaming ofNat->sF,toNat_inj->pU
namespace Go.Proofs.YtaljfgkjfogmeaaGreatDoor
open Go.RowKit
def LX(w:F)(v:H)(a:Ac):Prop:=∃vd,v=sH #[Y tE a.kind,Y tE a.sess,Y tE a.keep,vd]∧Qe w vd a.data
theorem LX.grown{w w':F}{v:H}{a:Ac}(h:LX w v a)(hg:L w w' G):LX w' v a:=by
 obtain⟨vd,rfl,h1⟩:=h;exact⟨vd,rfl,h1.grown hg⟩
theorem LX.agg{w:F}{v:H}{a:Ac}(h:LX w v a):∃da dc,v=sH #[Y tE a.kind,Y tE a.sess,Y tE a.keep,J da a.data.length dc]∧Qe w (J da a.data.length dc) a.data:=by
 obtain⟨vd,rfl,h1⟩:=h;obtain⟨da,dc,rfl⟩:=h1.shape;exact⟨da,dc,rfl,h1⟩
def Ce(w:F)(b o:Nat)(a:Ac):Prop:=∃vd,w.cell? ⟨b,o,G⟩=I (Y tE a.kind)∧w.cell? ⟨b,o+1,G⟩=I (Y tE a.sess)∧w.cell? ⟨b,o+2,G⟩=I (Y tE a.keep)∧w.cell? ⟨b,o+3,G⟩=I vd∧Qe w vd a.data
theorem Ce.grown{w w':F}{b o:Nat}{a:Ac}(h:Ce w b o a)(hg:L w w' G):Ce w' b o a:=by
 obtain⟨vd,c1,c2,c3,c4,h1⟩:=h;exact⟨vd,hg.cell c1 (by simp),hg.cell c2 (by simp),hg.cell c3 (by simp),hg.cell c4 (by simp),h1.grown hg⟩
def Ya(w:F)(v:H)(l:List Ac):Prop:=∃a cap,v=J a l.length cap∧l.length<=cap∧((l=[]∧(a=G->cap=0))∨∃b o,a=I ⟨b,o,G⟩∧∀i,i<l.length->Ce w b (o+i*4) (l.getD i Kh))
theorem Ra(w:F):Ya w (J G 0 0) []:=⟨G,0,rfl,tX _,.inl ⟨rfl,fun _=>rfl⟩⟩
theorem Ya.shape{w:F}{v:H}{l:List Ac}(h:Ya w v l):∃a cap,v=J a l.length cap:=by
 obtain⟨a,cap,rfl,_⟩:=h;exact⟨a,cap,rfl⟩
theorem Ya.grown{w w':F}{v:H}{l:List Ac}(h:Ya w v l)(hg:L w w' G):Ya w' v l:=by
 obtain⟨a,cap,rfl,hc,h⟩:=h;refine⟨a,cap,rfl,hc,?_⟩;rcases h with h|⟨b,o,rfl,h⟩;·exact .inl h
 ·exact .inr ⟨b,o,rfl,fun i hi=>(h i hi).grown hg⟩
theorem Ya.at{w:F}{a:Option rU}{n cap:Nat}{l:List Ac}(h:Ya w (J a n cap) l)(i:Nat)(hi:i<l.length):∃b o,a=I ⟨b,o,G⟩∧Ce w b (o+i*4) (l.getD i Kh):=by
 obtain⟨a',cap',e,hc,h⟩:=h;simp only[tL]at e;obtain⟨rfl,rfl,rfl⟩:=e;rcases h with⟨rfl,_⟩|⟨b,o,rfl,h⟩;·simp at hi
 ·exact⟨b,o,rfl,h i hi⟩
structure Aj(a:Ac):Prop where kind:-9223372036854775808<=a.kind∧a.kind<=9223372036854775807sess:-9223372036854775808<=a.sess∧a.sess<=9223372036854775807keep:-9223372036854775808<=a.keep∧a.keep<=9223372036854775807data:a.data.length<=140737488355328
structure TN (l : List Ac) : Prop where
  many : l.length * 48 <= 140737488355328
  each : ∀ i, i < l.length -> Aj (l.getD i Kh)
theorem SX{a:Ac}(h:Yt a):Aj a:=by
 have h0:=h.kind;have h1:=h.data;have h2:0<=a.sess∧a.sess<=7:=by by_cases e:a.kind=1;(·exact h.sess e);·rw[h.noSess e];omega
 have h3:0<=a.keep∧a.keep<=200000:=by by_cases e:a.kind=3;(·exact h.keep e);·rw[h.noKeep e];omega
 exact⟨by omega,by omega,by omega,by omega⟩
abbrev AV:=Ac×H
def Av:AV:=(Kh,sM)
def Gh(us:List AV):List H:=us.flatMap fun x=>[Y tE x.1.kind,Y tE x.1.sess,Y tE x.1.keep,x.2]
theorem Mf(a b:List AV):Gh (a++b)=Gh a++Gh b:=by
 simp[Gh]
theorem E9:∀(us:List AV)(i:Nat),i<us.length->(Gh us)[i*4]?=I (Y tE (us.getD i Av).1.kind)∧(Gh us)[i*4+1]?=I (Y tE (us.getD i Av).1.sess)∧(Gh us)[i*4+2]?=I (Y tE (us.getD i Av).1.keep)∧(Gh us)[i*4+3]?=I (us.getD i Av).2|[],i,h=>by simp at h|x::us,0,_=>⟨rfl,rfl,rfl,rfl⟩|x::us,i+1,h=>by have:=E9 us i (by simpa using h);rw[show(i+1)*4=i*4+4by omega];exact this
theorem cK:(49:Nat)≠5:=by
 decide
def Vb(rb:Nat)(w:F)(v:H)(l:List Ac):Prop:=∃us:List AV,us.map (·.1)=l∧w.ownsRow rb 49 4 v l.length (Gh us)∧∀x∈us,Qj 0 w x.2 x.1.data
theorem Iz(rb:Nat)(w:F):Vb rb w (J G 0 0) []:=⟨[],rfl,sP _ _ _ _,fun x hx=>by
 simp at hx⟩
theorem Vb.row{rb:Nat}{w:F}{v:H}{l:List Ac}(h:Vb rb w v l):v.ownBlock=G∨∃g cur fz,v.ownBlock=I g∧rb<=g∧w.heap[g]?=I (O cur 49 fz):=by
 obtain⟨us,_,h,_⟩:=h;rcases h.2with⟨rfl,_⟩|⟨g,cap,cur,rfl,hb,hg,_⟩;·exact .inl rfl
 ·exact .inr ⟨g,cur,_,rfl,hb,hg⟩
theorem Vb.lt{rb:Nat}{w:F}{v:H}{l:List Ac}(h:Vb rb w v l):∀k,v.ownBlock=I k->rb<=k∧k<w.heap.size:=by
 obtain⟨us,_,h,_⟩:=h;exact sG h
theorem Vb.grownNone{rb:Nat}{w w':F}{v:H}{l:List Ac}(h:Vb rb w v l)(hg:L w w' G):Vb rb w' v l:=by
 obtain⟨us,h1,h2,h3⟩:=h;refine⟨us,h1,tZ h2 hg ?_,fun x hx=>(h3 x hx).keptT hg (.inl rfl)⟩;cases hv:v.ownBlock with|none=>exact .inl rfl|some k=>exact .inr (by simp)
theorem Vb.alloc{rb:Nat}{w:F}{v:H}{l:List Ac}(h:Vb rb w v l)(o:Obj):Vb rb (w.alloc o) v l:=h.grownNone (sQ _ _ _)
theorem Vb.shape{rb:Nat}{w:F}{v:H}{l:List Ac}(h:Vb rb w v l):∃a cap,v=J a l.length cap:=by
 obtain⟨us,_,h,_⟩:=h;rcases h.2with⟨rfl,h0⟩|⟨g,cap,cur,rfl,_⟩;·exact⟨G,0,by rw[h0]⟩
 ·exact⟨_,cap,rfl⟩
theorem L9{us:List AV}{l:List Ac}(h:us.map (·.1)=l)(i:Nat)(hi:i<l.length):(us.getD i Av).1=l.getD i Kh∧us.getD i Av∈us:=by
 subst h;have hi':i<us.length:=by simpa using hi
 refine⟨by simp[hi'],?_⟩;rw[show us.getD i Av=us[i]by simp[hi']];exact sU hi'
theorem Vb.list{rb:Nat}{w:F}{v:H}{l:List Ac}(h:Vb rb w v l):Ya w v l:=by
 obtain⟨us,hl,hr,h3⟩:=h;rcases hr.2with⟨rfl,h0⟩|⟨g,cap,cur,rfl,hb,hg,hn,hm,hs,ht⟩;·have:l=[]:=tG h0;rw[this];exact Ra w
 ·(have hcell:∀j u,(Gh us)[j]?=I u->w.cell? ⟨g,j,G⟩=I u:=by intro j u hj;(have hlt:j<l.length*4:=by have:=(sI.1 hj).1;rw[hr.1]at this;exact this);(have e2:(cur.toList.take (l.length*4))[j]?=(Gh us)[j]?:=by rw[ht]);rw[sC,if_pos hlt,hj]at e2;simp[tW,hg];simpa using e2);refine⟨_,cap,rfl,hn,.inr ⟨g,0,rfl,fun i hi=>?_⟩⟩;obtain⟨e1,e2⟩:=L9 hl i hi;(have hlen:us.length=l.length:=by rw[<-hl];simp);obtain⟨c1,c2,c3,c4⟩:=E9 us i (by omega);have hp:=h3 _ e2;rw[e1]at c1 c2 c3 hp;rw[sR];exact⟨_,hcell _ _ c1,hcell _ _ c2,hcell _ _ c3,hcell _ _ c4,hp.1⟩
theorem CY{rb:Nat}{w W w1:F}{v:H}{l:List Ac}(h:L w W G)(ho:Vb rb W v l)(hb:w.heap.size<=rb)(hg:L W w1 v.ownBlock):L w w1 G:=⟨hg.os.trans h.os,hg.tape.trans h.tape,hg.output.trans h.output,tP h.size hg.size,fun i hi hn=>(hg.block i (tI hi h.size) (fun e=>by
 have:=(ho.lt i e.symm).1;omega)).trans (h.block i hi hn)⟩
theorem eX:(S.info? 49).map (fun i=>(i.zero,i.size,i.bytes))=I (I (sH #[Y tE 0,Y tE 0,Y tE 0,J G 0 0]),4,48):=by
 kernel_rfl
theorem NZ{w:F}{o:rJ}{a:Act}{K:Act->F->Prop}{Q:Exit->Act->F->Prop}(s x:rH)(ho:o.op=.call {callee:=.builtin .append,args:=#[s,x],argTypes:=#[23,23]})(rb:Nat)(v:H)(l:List Ac)(hs:a.eval s=v)(hown:Vb rb w v l)(vd:H)(r:Ac)(h1:Qj 0 w vd r.data)(nb:Nat)(hb:w.heap[nb]?=I (O #[Y tE r.kind,Y tE r.sess,Y tE r.keep,vd] 49))(hx:a.eval x=J (I ⟨nb,0,G⟩) 1 1)(hl:(l.length+1)*48<=140737488355328)(hbase:rb<=w.heap.size)(h:∀v' w',Vb rb w' v' (l++[r])->L w w' v.ownBlock->K (a.put o.dst v') w'):o.wp S a w K Q:=by
 obtain⟨i0,hi,hz0,hz1,hz2⟩:=rX eX;have hrow:v.ownBlock=G∨∃g cur t fz,v.ownBlock=I g∧0<=g∧w.heap[g]?=I (O cur t fz)∧t≠5:=by rcases hown.row with h|⟨g,cur,fz,e,_,h⟩;(·exact .inl h);·exact .inr ⟨g,cur,_,fz,e,tQ _,h,cK⟩
 obtain⟨us,hul,hr,hp⟩:=hown;refine wp_append_lies w s x 23 ho rb 49 i0 (sH #[Y tE 0,Y tE 0,Y tE 0,J G 0 0]) 4 48 Tryz.underlying23 hi hz0 hz1 hz2 rfl (by decide) v l.length (Gh us) hs hr ⟨nb,0,G⟩ 1 1 (Gh [(r,vd)]) hx rfl (sZ (cs:=#[Y tE r.kind,Y tE r.sess,Y tE r.keep,vd]) hb) ?_ (by omega) (by unfold pG;omega) hl hbase _ rfl ?_;·intro u hu;simp only[Gh,tR,rD,tU,tJ,tM,or_false]at hu;rcases hu with rfl|rfl|rfl|rfl;(·rfl);(·rfl);(·rfl);·exact ZD h1
 ·intro g cap w' q1 q2 _ _;refine h _ w' ⟨us++[(r,vd)],by simp[hul],?_,?_⟩ q2;(·rw[Mf,tA];exact q1);·intro y hy;rcases tY.1 hy with hy|hy;(·exact(hp y hy).keptT q2 hrow);·simp only[tJ,tM,or_false]at hy;subst hy;exact h1.keptT q2 hrow
theorem vP{w:F}{ops:Array rJ}{rest:List rJ}{o:rJ}{a:Act}{Q:Exit->Act->F->Prop}(hgd:o.guard=G)(s x:rH)(ho:o.op=.call {callee:=.builtin .append,args:=#[s,x],argTypes:=#[23,23]})(rb:Nat)(v:H)(l:List Ac)(hs:a.eval s=v)(hown:Vb rb w v l)(vd:H)(r:Ac)(h1:Qj 0 w vd r.data)(nb:Nat)(hb:w.heap[nb]?=I (O #[Y tE r.kind,Y tE r.sess,Y tE r.keep,vd] 49))(hx:a.eval x=J (I ⟨nb,0,G⟩) 1 1)(hl:(l.length+1)*48<=140737488355328)(hbase:rb<=w.heap.size)(h:∀v' w',Vb rb w' v' (l++[r])->L w w' v.ownBlock->wpList S ops Q rest (a.put o.dst v') w'):wpList S ops Q (o::rest) a w:=wpList_plain hgd fun _ hK=>NZ s x ho rb v l hs hown vd r h1 nb hb hx hl hbase fun v' w' h1 h2=>hK _ _ (h v' w' h1 h2)
def Mj(w:F)(v:H)(p:Pr):Prop:=∃vk vv,v=sH #[vk,vv]∧Qe w vk p.1∧Qe w vv p.2
theorem Mj.grown{w w':F}{v:H}{p:Pr}(h:Mj w v p)(hg:L w w' G):Mj w' v p:=by
 obtain⟨vk,vv,rfl,h1,h2⟩:=h;exact⟨vk,vv,rfl,h1.grown hg,h2.grown hg⟩
def Pm(w:F)(b o:Nat)(p:Pr):Prop:=∃vk vv,w.cell? ⟨b,o,G⟩=I vk∧w.cell? ⟨b,o+1,G⟩=I vv∧Qe w vk p.1∧Qe w vv p.2
theorem Pm.grown{w w':F}{b o:Nat}{p:Pr}(h:Pm w b o p)(hg:L w w' G):Pm w' b o p:=by
 obtain⟨vk,vv,c1,c2,h1,h2⟩:=h;exact⟨vk,vv,hg.cell c1 (by simp),hg.cell c2 (by simp),h1.grown hg,h2.grown hg⟩
def Qs(w:F)(v:H)(l:PL):Prop:=∃a cap,v=J a l.length cap∧l.length<=cap∧((l=[]∧(a=G->cap=0))∨∃b o,a=I ⟨b,o,G⟩∧∀i,i<l.length->Pm w b (o+i*2) (l.getD i ([],[])))
theorem Yg(w:F):Qs w (J G 0 0) []:=⟨G,0,rfl,tX _,.inl ⟨rfl,fun _=>rfl⟩⟩
theorem Qs.grown{w w':F}{v:H}{l:PL}(h:Qs w v l)(hg:L w w' G):Qs w' v l:=by
 obtain⟨a,cap,rfl,hc,h⟩:=h;refine⟨a,cap,rfl,hc,?_⟩;rcases h with h|⟨b,o,rfl,h⟩;·exact .inl h
 ·exact .inr ⟨b,o,rfl,fun i hi=>(h i hi).grown hg⟩
theorem Qs.shape{w:F}{v:H}{l:PL}(h:Qs w v l):∃a cap,v=J a l.length cap:=by
 obtain⟨a,cap,rfl,_⟩:=h;exact⟨a,cap,rfl⟩
theorem Qs.at{w:F}{a:Option rU}{n cap:Nat}{l:PL}(h:Qs w (J a n cap) l)(i:Nat)(hi:i<l.length):∃b o,a=I ⟨b,o,G⟩∧Pm w b (o+i*2) (l.getD i ([],[])):=by
 obtain⟨a',cap',e,hc,h⟩:=h;simp only[tL]at e;obtain⟨rfl,rfl,rfl⟩:=e;rcases h with⟨rfl,_⟩|⟨b,o,rfl,h⟩;·simp at hi
 ·exact⟨b,o,rfl,h i hi⟩
theorem Qj.kept{base:Nat}{w w':F}{v:H}{bs:List UInt8}(h:Qj base w v bs){row:Option Nat}(hg:L w w' row)(hrow:row=G∨∃g cur fz,row=I g∧base<=g∧w.heap[g]?=I (O cur 56 fz)):Qj base w' v bs:=by
 obtain⟨hs,ho⟩:=h;rcases ho with rfl|⟨b,hb,hlt,hc⟩;·obtain⟨a,cap,rfl,hc,h⟩:=hs;refine⟨⟨a,cap,rfl,hc,?_⟩,.inl rfl⟩;rcases h with h|⟨b,o,rfl,h⟩;(·exact .inl h);·exact .inr ⟨b,o,rfl,fun i hi=>by simp at hi⟩
 ·(have hne:I b≠row:=by intro e;rcases hrow with rfl|⟨g,cur,fz,rfl,hbg,hgc⟩;(·cases e);·cases e;rcases hc with hc|⟨cur2,fz2,hc⟩;(·omega);·rw[hc]at hgc;simp at hgc);have hblk:=hg.block b hlt hne;refine⟨?_,.inr ⟨b,hb,tI hlt hg.size,?_⟩⟩;(·obtain⟨a,cap,rfl,hcp,h⟩:=hs;refine⟨a,cap,rfl,hcp,?_⟩;rcases h with h|⟨b',o,rfl,h⟩;(·exact .inl h);·refine .inr ⟨b',o,rfl,fun i hi=>?_⟩;simp[pK]at hb;subst hb;exact hg.cell (h i hi) (by simpa using hne));·rcases hc with hc|⟨cur,fz,hc⟩;(·exact .inl hc);·exact .inr ⟨cur,fz,by rw[hblk];exact hc⟩
def flat(vs:List (H×H)):List H:=vs.flatMap fun x=>[x.1,x.2]
theorem Ku(vs:List (H×H)):(flat vs).length=vs.length*2:=by
 induction vs with|nil=>rfl|cons x r ih=>simp only[flat,tR,tA,sJ,pV]at ih⊢;omega
theorem JU(a b:List (H×H)):flat (a++b)=flat a++flat b:=by
 simp[flat]
theorem xD:∀(vs:List (H×H))(i:Nat),i<vs.length->(flat vs)[i*2]?=I (vs.getD i (sM,sM)).1∧(flat vs)[i*2+1]?=I (vs.getD i (sM,sM)).2|[],i,h=>by simp at h|x::r,0,_=>by simp[flat]|x::r,i+1,h=>by have:=xD r i (by simpa using h);rw[show(i+1)*2=i*2+2by omega,show i*2+2+1=(i*2+1)+2by omega];simpa[flat]using this
def Gt(base:Nat)(w:F)(v:H)(l:PL):Prop:=∃vs:List (H×H),vs.length=l.length∧w.ownsRow base 56 2 v l.length (flat vs)∧∀i,i<l.length->Qj base w (vs.getD i (sM,sM)).1 (l.getD i ([],[])).1∧Qj base w (vs.getD i (sM,sM)).2 (l.getD i ([],[])).2
theorem Gt.row{base:Nat}{w:F}{v:H}{l:PL}(h:Gt base w v l):v.ownBlock=G∨∃g cur fz,v.ownBlock=I g∧base<=g∧w.heap[g]?=I (O cur 56 fz):=by
 obtain⟨vs,_,h,_⟩:=h;rcases h.2with⟨rfl,_⟩|⟨g,cap,cur,rfl,hb,hg,_⟩;·exact .inl rfl
 ·exact .inr ⟨g,cur,_,rfl,hb,hg⟩
theorem Gt.lt{base:Nat}{w:F}{v:H}{l:PL}(h:Gt base w v l):∀k,v.ownBlock=I k->base<=k∧k<w.heap.size:=by
 obtain⟨vs,_,h,_⟩:=h;exact sG h
theorem Gt.grownNone{base:Nat}{w w':F}{v:H}{l:PL}(h:Gt base w v l)(hg:L w w' G):Gt base w' v l:=by
 obtain⟨vs,h1,h2,h3⟩:=h;refine⟨vs,h1,tZ h2 hg ?_,fun i hi=>⟨((h3 i hi).1).kept hg (.inl rfl),((h3 i hi).2).kept hg (.inl rfl)⟩⟩;cases hv:v.ownBlock with|none=>exact .inl rfl|some k=>exact .inr (by simp)
theorem Gt.alloc{base:Nat}{w:F}{v:H}{l:PL}(h:Gt base w v l)(o:Obj):Gt base (w.alloc o) v l:=h.grownNone (sQ _ _ _)
theorem Gt.shape{base:Nat}{w:F}{v:H}{l:PL}(h:Gt base w v l):∃a cap,v=J a l.length cap:=by
 obtain⟨vs,_,h,_⟩:=h;rcases h.2with⟨rfl,h0⟩|⟨g,cap,cur,rfl,_⟩;·exact⟨G,0,by rw[h0]⟩
 ·exact⟨_,cap,rfl⟩
theorem dQ{base:Nat}{w W w1:F}{v:H}{l:PL}(h:L w W G)(ho:Gt base W v l)(hb:w.heap.size<=base)(hg:L W w1 v.ownBlock):L w w1 G:=⟨hg.os.trans h.os,hg.tape.trans h.tape,hg.output.trans h.output,tP h.size hg.size,fun i hi hn=>(hg.block i (tI hi h.size) (fun e=>by
 have:=(ho.lt i e.symm).1;omega)).trans (h.block i hi hn)⟩
theorem DQ:(S.info? 56).map (fun i=>(i.zero,i.size,i.bytes))=I (I (sH #[J G 0 0,J G 0 0]),2,48):=by
 kernel_rfl
theorem Ji{α:Type}(a b:List α)(i:Nat)(d:α):(a++b).getD i d=if i<a.length then a.getD i d else b.getD (i-a.length) d:=by
 by_cases h:i<a.length;·rw[if_pos h];simp[pN,h]
 ·rw[if_neg h];simp[pN,h]
theorem yR(vs:List (H×H))(k:Nat):flat (vs.take k)=(flat vs).take (k*2):=by
 induction vs generalizing k with|nil=>simp[flat]|cons x r ih=>cases k with|zero=>simp[flat]|succ k=>rw[sS,show(k+1)*2=k*2+2by omega];have:=ih k;simp only[flat,tR,pS,pJ,sS]at this⊢;rw[this]
theorem Ei(vs:List (H×H))(k:Nat):flat (vs.drop k)=(flat vs).drop (k*2):=by
 induction vs generalizing k with|nil=>simp[flat]|cons x r ih=>cases k with|zero=>simp[flat]|succ k=>rw[pO,show(k+1)*2=k*2+2by omega];have:=ih k;simp only[flat,tR,pS,pJ,pO]at this⊢;rw[this]
theorem Gt.cells{base:Nat}{w:F}{g n cap:Nat}{vs:List (H×H)}{l:PL}(hr:w.ownsRow base 56 2 (J (I ⟨g,0,G⟩) n cap) l.length (flat vs)):∀j u,(flat vs)[j]?=I u->w.cell? ⟨g,j,G⟩=I u:=by
 intro j u hj;rcases hr.2with⟨e,_⟩|⟨g',cap',cur,e,hb,hg,hn,hm,hs,ht⟩;·cases e
 ·simp only[tL,tB,rM]at e;obtain⟨⟨rfl,_⟩,_,_⟩:=e;(have hlt:j<l.length*2:=by have:=(sI.1 hj).1;rw[hr.1]at this;exact this);(have e2:(cur.toList.take (l.length*2))[j]?=(flat vs)[j]?:=by rw[ht]);rw[sC,if_pos hlt,hj]at e2;simp[tW,hg];simpa using e2
theorem Q8.setOther{base:Nat}{w:F}{v:H}{bs:List UInt8}(h:Q8 base w v bs)(c i:Nat)(x:H)(hc:c<base):Q8 base (tC w ⟨c,i,G⟩ x) v bs:=by
 refine h.grown (row:=I c) (Qh (Qb _ _) i x) ?_;cases hv:v.ownBlock with|none=>exact .inl rfl|some k=>have:=(h.lt k hv).1;exact .inr (by simp;omega)
theorem US{W w:F}{b:Nat}{x y:H}{t:tV}(hg:L W w G)(h:W.heap[b]?=I (O #[x,y] t))(u v:H):(tC w ⟨b,0,G⟩ u).cell? ⟨b,0,G⟩=I u∧((tC w ⟨b,0,G⟩ u).setCell ⟨b,1,G⟩ v).cell? ⟨b,1,G⟩=I v:=by
 have hb:w.heap[b]?=I (O #[x,y] t):=by rw[hg.block b (tH.1 h).1 (by simp)];exact h
 have c0:w.cell? ⟨b,0,G⟩=I x:=by simp[tW,hb]
 have c1:w.cell? ⟨b,1,G⟩=I y:=by simp[tW,hb]
 refine⟨pL _ _ _ (by rw[c0];rfl),pL _ _ _ ?_⟩;rw[World.cell?_setCell_other _ _ _ _ (by simp),c1];rfl
theorem Gj{base:Nat}{W:F}{pb:Nat}{x y:H}(h:W.heap[pb]?=I (O #[x,y] 56))(hb:base<=pb)(u v:H):((tC W ⟨pb,0,G⟩ u).setCell ⟨pb,1,G⟩ v).heap[pb]?=I (O #[u,v] 56)∧(∀z bs,Qj base W z bs->Qj base ((tC W ⟨pb,0,G⟩ u).setCell ⟨pb,1,G⟩ v) z bs)∧∀w0:F,w0.heap.size<=pb->L w0 W G->L w0 ((tC W ⟨pb,0,G⟩ u).setCell ⟨pb,1,G⟩ v) G:=by
 refine⟨?_,fun z bs hz=>?_,fun w0 h0 hg=>Qd (Qd hg _ h0 _ _) _ h0 _ _⟩;·simp only[tC,tS,if_true,h,rI];first|rfl|simp
 ·exact hz.kept (Qh (Qh (Qb _ _) _ _) _ _) (.inr ⟨pb,_,_,rfl,hb,h⟩)
def Ko(rb pb:Nat)(w:F)(v:H)(l:PL):Prop:=∃vs:List (H×H),vs.length=l.length∧w.ownsRow rb 56 2 v l.length (flat vs)∧∀i,i<l.length->Qj pb w (vs.getD i (sM,sM)).1 (l.getD i ([],[])).1∧Qj pb w (vs.getD i (sM,sM)).2 (l.getD i ([],[])).2
theorem CG(rb pb:Nat)(w:F):Ko rb pb w (J G 0 0) []:=⟨[],rfl,sP _ _ _ _,fun i hi=>by
 simp at hi⟩
theorem Ko.p{rb pb:Nat}{w:F}{v:H}{l:PL}(h:Ko rb pb w v l)(hb:pb<=rb):Gt pb w v l:=by
 obtain⟨vs,h1,h2,h3⟩:=h;refine⟨vs,h1,⟨h2.1,?_⟩,h3⟩;rcases h2.2with h|⟨g,cap,cur,h1,h2,h3⟩;·exact .inl h
 ·exact .inr ⟨g,cap,cur,h1,tP hb h2,h3⟩
theorem Ko.row{rb base:Nat}{w:F}{v:H}{l:PL}(h:Ko rb base w v l)(hb:base<=rb):v.ownBlock=G∨∃g cur fz,v.ownBlock=I g∧base<=g∧w.heap[g]?=I (O cur 56 fz):=(h.p hb).row
theorem Ko.lt{rb pb:Nat}{w:F}{v:H}{l:PL}(h:Ko rb pb w v l):∀k,v.ownBlock=I k->rb<=k∧k<w.heap.size:=by
 obtain⟨vs,_,h,_⟩:=h;exact sG h
theorem Ko.grownNone{rb pb:Nat}{w w':F}{v:H}{l:PL}(h:Ko rb pb w v l)(hg:L w w' G):Ko rb pb w' v l:=by
 obtain⟨vs,h1,h2,h3⟩:=h;refine⟨vs,h1,tZ h2 hg ?_,fun i hi=>⟨((h3 i hi).1).kept hg (.inl rfl),((h3 i hi).2).kept hg (.inl rfl)⟩⟩;cases hv:v.ownBlock with|none=>exact .inl rfl|some k=>exact .inr (by simp)
theorem Ko.alloc{rb pb:Nat}{w:F}{v:H}{l:PL}(h:Ko rb pb w v l)(o:Obj):Ko rb pb (w.alloc o) v l:=h.grownNone (sQ _ _ _)
theorem Ko.shape{rb pb:Nat}{w:F}{v:H}{l:PL}(h:Ko rb pb w v l):∃a cap,v=J a l.length cap:=by
 obtain⟨vs,_,h,_⟩:=h;rcases h.2with⟨rfl,h0⟩|⟨g,cap,cur,rfl,_⟩;·exact⟨G,0,by rw[h0]⟩
 ·exact⟨_,cap,rfl⟩
theorem TL{rb pb:Nat}{w W w1:F}{v:H}{l:PL}(h:L w W G)(ho:Ko rb pb W v l)(hb:w.heap.size<=rb)(hg:L W w1 v.ownBlock):L w w1 G:=⟨hg.os.trans h.os,hg.tape.trans h.tape,hg.output.trans h.output,tP h.size hg.size,fun i hi hn=>(hg.block i (tI hi h.size) (fun e=>by
 have:=(ho.lt i e.symm).1;omega)).trans (h.block i hi hn)⟩
def eW(base:Nat)(w:F)(b o:Nat)(p:Pr):Prop:=∃vk vv,w.cell? ⟨b,o,G⟩=I vk∧w.cell? ⟨b,o+1,G⟩=I vv∧Qj base w vk p.1∧Qj base w vv p.2
def QN(base:Nat)(w:F)(v:H)(l:PL):Prop:=∃a cap,v=J a l.length cap∧l.length<=cap∧((l=[]∧(a=G->cap=0))∨∃b o,a=I ⟨b,o,G⟩∧(b<base∨∃cur fz,w.heap[b]?=I (O cur 56 fz))∧∀i,i<l.length->eW base w b (o+i*2) (l.getD i ([],[])))
theorem QN.list{base:Nat}{w:F}{v:H}{l:PL}(h:QN base w v l):Qs w v l:=by
 obtain⟨a,cap,rfl,hc,h⟩:=h;refine⟨a,cap,rfl,hc,?_⟩;rcases h with h|⟨b,o,rfl,_,h⟩;·exact .inl h
 ·refine .inr ⟨b,o,rfl,fun i hi=>?_⟩;obtain⟨vk,vv,c1,c2,h1,h2⟩:=h i hi;exact⟨vk,vv,c1,c2,h1.1,h2.1⟩
theorem Qs.pairsB{w w':F}{v:H}{l:PL}(h:Qs w v l)(hg:L w w' G)(base:Nat)(hb:w.heap.size<=base):QN base w' v l:=by
 obtain⟨a,cap,rfl,hc,h⟩:=h;refine⟨a,cap,rfl,hc,?_⟩;rcases h with h|⟨b,o,rfl,h⟩;·exact .inl h
 ·by_cases h0:l=[];(·exact .inl ⟨h0,fun e=>by cases e⟩);·have hl:0<l.length:=rV.2 h0;refine .inr ⟨b,o,rfl,.inl ?_,fun i hi=>?_⟩;(·obtain⟨vk,vv,c1,_⟩:=h 0 hl;exact tI (Vu c1) hb);·obtain⟨vk,vv,c1,c2,h1,h2⟩:=h i hi;exact⟨vk,vv,hg.cell c1 (by simp),hg.cell c2 (by simp),h1.part hg base hb,h2.part hg base hb⟩
theorem Gt.pairsB{base:Nat}{w:F}{v:H}{l:PL}(h:Gt base w v l):QN base w v l:=by
 obtain⟨vs,hl,hr,h3⟩:=h;have hr':=hr;rcases hr.2with⟨rfl,h0⟩|⟨g,cap,cur,rfl,hb,hg,hn,hm,hs,ht⟩;·have:l=[]:=tG h0;subst this;exact⟨G,0,rfl,tX _,.inl ⟨rfl,fun _=>rfl⟩⟩
 ·refine⟨_,cap,rfl,hn,.inr ⟨g,0,rfl,.inr ⟨cur,_,hg⟩,fun i hi=>?_⟩⟩;have hf:=xD vs i (by omega);refine⟨(vs.getD i (sM,sM)).1,(vs.getD i (sM,sM)).2,?_,?_,(h3 i hi).1,(h3 i hi).2⟩;(·have:=Gt.cells hr' _ _ hf.1;rw[sR];exact this);·have:=Gt.cells hr' _ _ hf.2;rw[sR];exact this
theorem QN.kept{base:Nat}{w w':F}{v:H}{l:PL}(h:QN base w v l){row:Option Nat}(hg:L w w' row)(hrow:row=G∨∃g cur t fz,row=I g∧base<=g∧w.heap[g]?=I (O cur t fz)∧t≠5∧t≠56):QN base w' v l:=by
 obtain⟨a,cap,rfl,hc,h⟩:=h;refine⟨a,cap,rfl,hc,?_⟩;rcases h with h|⟨b,o,rfl,hb,h⟩;·exact .inl h
 ·by_cases h0:l=[];(·exact .inl ⟨h0,fun e=>by cases e⟩);·have hl:0<l.length:=rV.2 h0;(have hlt:b<w.heap.size:=by obtain⟨vk,vv,c1,_⟩:=h 0 hl;exact Vu c1);(have hne:I b≠row:=by intro e;rcases hrow with rfl|⟨g,cur,t,fz,rfl,hbg,hgc,ht,ht2⟩;(·cases e);·cases e;rcases hb with hb|⟨cur2,fz2,hb⟩;(·omega);·rw[hb]at hgc;simp only[tB,sA]at hgc;exact ht2 hgc.2.1.symm);(have hrow':row=G∨∃g cur t fz,row=I g∧base<=g∧w.heap[g]?=I (O cur t fz)∧t≠5:=by rcases hrow with h|⟨g,cur,t,fz,h1,h2,h3,h4,_⟩;(·exact .inl h);·exact .inr ⟨g,cur,t,fz,h1,h2,h3,h4⟩);refine .inr ⟨b,o,rfl,?_,fun i hi=>?_⟩;(·rcases hb with hb|⟨cur,fz,hb⟩;(·exact .inl hb);·exact .inr ⟨cur,fz,by rw[hg.block b hlt hne];exact hb⟩);·obtain⟨vk,vv,c1,c2,h1,h2⟩:=h i hi;exact⟨vk,vv,hg.cell c1 (by simpa using hne),hg.cell c2 (by simpa using hne),h1.keptT hg hrow',h2.keptT hg hrow'⟩
theorem QN.grown{base:Nat}{w w':F}{v:H}{l:PL}(h:QN base w v l)(hg:L w w' G):QN base w' v l:=h.kept hg (.inl rfl)
theorem xR{base:Nat}{w:F}{v:H}{l:PL}(h:QN base w v l):v.oneCell'=M:=by
 obtain⟨a,cap,rfl,_⟩:=h;rfl
theorem Yw(base:Nat)(w:F):QN base w (J G 0 0) []:=⟨G,0,rfl,tX _,.inl ⟨rfl,fun _=>rfl⟩⟩
theorem QN.shape{base:Nat}{w:F}{v:H}{l:PL}(h:QN base w v l):∃a cap,v=J a l.length cap:=by
 obtain⟨a,cap,rfl,_⟩:=h;exact⟨a,cap,rfl⟩
theorem QN.mono{base base':Nat}{w:F}{v:H}{l:PL}(h:QN base w v l)(hb:base<=base'):QN base' w v l:=by
 obtain⟨a,cap,rfl,hc,h⟩:=h;refine⟨a,cap,rfl,hc,?_⟩;rcases h with h|⟨b,o,rfl,h1,h2⟩;·exact .inl h
 ·refine .inr ⟨b,o,rfl,?_,fun i hi=>?_⟩;(·rcases h1 with h1|h1;(·exact .inl (by omega));·exact .inr h1);·obtain⟨vk,vv,c1,c2,p1,p2⟩:=h2 i hi;exact⟨vk,vv,c1,c2,p1.mono hb,p2.mono hb⟩
theorem Ko.pairsB{rb:Nat}{w:F}{v:H}{l:PL}(h:Ko rb 0 w v l):QN 0 w v l:=(h.p (tQ _)).pairsB
theorem QN.up{w:F}{v:H}{l:PL}(h:QN 0 w v l)(base:Nat):QN base w v l:=h.mono (tQ _)
abbrev WV:=Ze×H×H×H
def C7:WV:=(Qr,sM,sM,sM)
def Y0(us:List WV):List H:=us.flatMap fun x=>[x.2.1,x.2.2.1,tN x.1.gone,x.2.2.2]
theorem LZ(us:List WV):(Y0 us).length=us.length*4:=by
 induction us with|nil=>rfl|cons x r ih=>simp only[Y0,tR,tA,sJ,pV]at ih⊢;omega
theorem uA(a b:List WV):Y0 (a++b)=Y0 a++Y0 b:=by
 simp[Y0]
theorem Nf:∀(us:List WV)(i:Nat),i<us.length->(Y0 us)[i*4]?=I (us.getD i C7).2.1∧(Y0 us)[i*4+1]?=I (us.getD i C7).2.2.1∧(Y0 us)[i*4+2]?=I (tN (us.getD i C7).1.gone)∧(Y0 us)[i*4+3]?=I (us.getD i C7).2.2.2|[],i,h=>by simp at h|x::r,0,_=>by simp[Y0]|x::r,i+1,h=>by have:=Nf r i (by simpa using h);rw[show(i+1)*4=i*4+4by omega,show i*4+4+1=(i*4+1)+4by omega,show i*4+4+2=(i*4+2)+4by omega,show i*4+4+3=(i*4+3)+4by omega];simpa[Y0]using this
theorem kO:(97:Nat)≠5:=by
 decide
theorem LY{us:List WV}{l:List Ze}(h:us.map (·.1)=l)(i:Nat)(hi:i<l.length):(us.getD i C7).1=l.getD i Qr∧us.getD i C7∈us:=by
 subst h;have hi':i<us.length:=by simpa using hi
 refine⟨by simp[hi'],?_⟩;rw[show us.getD i C7=us[i]by simp[hi']];exact sU hi'
theorem O6:(S.info? 97).map (fun i=>(i.zero,i.size,i.bytes))=I (I (sH #[J G 0 0,J G 0 0,tN N,J G 0 0]),4,80):=by
 kernel_rfl
theorem Rk(w:F)(vn vk vv:H)(p:Ze)(h1:Qe w vn p.name)(h2:Qe w vk p.key)(h3:Qe w vv p.value)(t:tV):QQ (w.alloc (O #[vn,vk,tN p.gone,vv] t)) (J (I ⟨w.heap.size,0,G⟩) 1 1) [p]:=by
 refine⟨_,1,rfl,by simp,.inr ⟨w.heap.size,0,rfl,fun i hi=>?_⟩⟩;match i,hi with|0,_=>exact⟨vn,vk,vv,by simp,by simp,by simp,by simp,h1.alloc _,h2.alloc _,h3.alloc _⟩
def IJ(base:Nat)(w:F)(b o:Nat)(p:Ze):Prop:=∃vn vk vv,w.cell? ⟨b,o,G⟩=I vn∧w.cell? ⟨b,o+1,G⟩=I vk∧w.cell? ⟨b,o+2,G⟩=I (tN p.gone)∧w.cell? ⟨b,o+3,G⟩=I vv∧Qj base w vn p.name∧Qj base w vk p.key∧Qj base w vv p.value
def Xn(base:Nat)(w:F)(v:H)(l:List Ze):Prop:=∃a cap,v=J a l.length cap∧l.length<=cap∧((l=[]∧(a=G->cap=0))∨∃b o,a=I ⟨b,o,G⟩∧(b<base∨∃cur fz,w.heap[b]?=I (O cur 97 fz))∧∀i,i<l.length->IJ base w b (o+i*4) (l.getD i Qr))
theorem Dq(base:Nat)(w:F):Xn base w (J G 0 0) []:=⟨G,0,rfl,tX _,.inl ⟨rfl,fun _=>rfl⟩⟩
theorem Xn.shape{base:Nat}{w:F}{v:H}{l:List Ze}(h:Xn base w v l):∃a cap,v=J a l.length cap:=by
 obtain⟨a,cap,rfl,_⟩:=h;exact⟨a,cap,rfl⟩
theorem Xn.oneCell{base:Nat}{w:F}{v:H}{l:List Ze}(h:Xn base w v l):v.oneCell'=M:=by
 obtain⟨a,cap,rfl,_⟩:=h;rfl
theorem Xn.list{base:Nat}{w:F}{v:H}{l:List Ze}(h:Xn base w v l):QQ w v l:=by
 obtain⟨a,cap,rfl,hc,h⟩:=h;refine⟨a,cap,rfl,hc,?_⟩;rcases h with h|⟨b,o,rfl,_,h⟩;·exact .inl h
 ·refine .inr ⟨b,o,rfl,fun i hi=>?_⟩;obtain⟨vn,vk,vv,c1,c2,c3,c4,h1,h2,h3⟩:=h i hi;exact⟨vn,vk,vv,c1,c2,c3,c4,h1.1,h2.1,h3.1⟩
theorem Xn.kept{base:Nat}{w w':F}{v:H}{l:List Ze}(h:Xn base w v l){row:Option Nat}(hg:L w w' row)(hrow:row=G∨∃g cur t fz,row=I g∧base<=g∧w.heap[g]?=I (O cur t fz)∧t≠5∧t≠97):Xn base w' v l:=by
 obtain⟨a,cap,rfl,hc,h⟩:=h;refine⟨a,cap,rfl,hc,?_⟩;rcases h with h|⟨b,o,rfl,hb,h⟩;·exact .inl h
 ·by_cases h0:l=[];(·exact .inl ⟨h0,fun e=>by cases e⟩);·have hl:0<l.length:=rV.2 h0;(have hlt:b<w.heap.size:=by obtain⟨vn,vk,vv,c1,_⟩:=h 0 hl;exact Vu c1);(have hne:I b≠row:=by intro e;rcases hrow with rfl|⟨g,cur,t,fz,rfl,hbg,hgc,ht,ht2⟩;(·cases e);·cases e;rcases hb with hb|⟨cur2,fz2,hb⟩;(·omega);·rw[hb]at hgc;simp only[tB,sA]at hgc;exact ht2 hgc.2.1.symm);(have hrow':row=G∨∃g cur t fz,row=I g∧base<=g∧w.heap[g]?=I (O cur t fz)∧t≠5:=by rcases hrow with h|⟨g,cur,t,fz,h1,h2,h3,h4,_⟩;(·exact .inl h);·exact .inr ⟨g,cur,t,fz,h1,h2,h3,h4⟩);refine .inr ⟨b,o,rfl,?_,fun i hi=>?_⟩;(·rcases hb with hb|⟨cur,fz,hb⟩;(·exact .inl hb);·exact .inr ⟨cur,fz,by rw[hg.block b hlt hne];exact hb⟩);·obtain⟨vn,vk,vv,c1,c2,c3,c4,h1,h2,h3⟩:=h i hi;exact⟨vn,vk,vv,hg.cell c1 (by simpa using hne),hg.cell c2 (by simpa using hne),hg.cell c3 (by simpa using hne),hg.cell c4 (by simpa using hne),h1.keptT hg hrow',h2.keptT hg hrow',h3.keptT hg hrow'⟩
theorem Xn.grown{base:Nat}{w w':F}{v:H}{l:List Ze}(h:Xn base w v l)(hg:L w w' G):Xn base w' v l:=h.kept hg (.inl rfl)
def JZ(w:F)(v:H)(c:XC):Prop:=∃vs,v=sH #[Y tE c.turn,vs]∧QQ w vs c.writes
theorem JZ.grown{w w':F}{v:H}{c:XC}(h:JZ w v c)(hg:L w w' G):JZ w' v c:=by
 obtain⟨vs,rfl,h⟩:=h;exact⟨vs,rfl,h.grown hg⟩
theorem JZ.agg{w:F}{v:H}{c:XC}(h:JZ w v c):∃a cap,v=sH #[Y tE c.turn,J a c.writes.length cap]:=by
 obtain⟨vs,rfl,h⟩:=h;obtain⟨a,cap,rfl⟩:=h.shape;exact⟨a,cap,rfl⟩
theorem JZ.writes{w:F}{c:XC}{x y:H}(h:JZ w (sH #[x,y]) c):x=Y tE c.turn∧QQ w y c.writes:=by
 obtain⟨vs,e,h⟩:=h;injection e with e;injection e with e;injection e with e1 e;injection e with e2 e;exact⟨e1,e2▸h⟩
structure EW(c:XC):Prop where turn:-9223372036854775808<=c.turn∧c.turn<=9223372036854775807writes:kS c.writes
structure V2 where
  data : List UInt8
  synced : Int
def V6:V2:=⟨[],0⟩
def KR(w:F)(v:H)(t:V2):Prop:=∃vd,v=sH #[vd,Y tE t.synced]∧Qe w vd t.data
theorem KR.grown{w w':F}{v:H}{t:V2}(h:KR w v t)(hg:L w w' G):KR w' v t:=by
 obtain⟨vd,rfl,h⟩:=h;exact⟨vd,rfl,h.grown hg⟩
theorem KR.agg{w:F}{v:H}{t:V2}(h:KR w v t):∃a cap,v=sH #[J a t.data.length cap,Y tE t.synced]:=by
 obtain⟨vd,rfl,h⟩:=h;obtain⟨a,cap,rfl⟩:=h.shape;exact⟨a,cap,rfl⟩
theorem KR.data{w:F}{t:V2}{x y:H}(h:KR w (sH #[x,y]) t):Qe w x t.data∧y=Y tE t.synced:=by
 obtain⟨vd,e,h⟩:=h;injection e with e;injection e with e;injection e with e1 e;injection e with e2 e;exact⟨e1▸h,e2⟩
structure xO(t:V2):Prop where data:t.data.length<=140737488355328synced:-9223372036854775808<=t.synced∧t.synced<=9223372036854775807
def Yv(w:F)(v:H)(t:V2):Prop:=∃vd,v=sH #[vd,Y tE t.synced]∧Qj 0 w vd t.data
theorem Yv.is{w:F}{v:H}{t:V2}(h:Yv w v t):KR w v t:=by
 obtain⟨vd,rfl,h⟩:=h;exact⟨vd,rfl,h.slice⟩
theorem VT(w:F):Yv w (sH #[J G 0 0,Y tE 0]) V6:=⟨_,rfl,QD w,.inl rfl⟩
theorem Dx{ws:List Ze}(hn:ws.length<=1000)(h:∀w∈ws,QC w=0):kS ws:=⟨by
 omega,fun j hj=>by
 have h0:=h ws[j] (sU hj);rw[show ws[j]=ws.getD j Qr by simp[hj]]at h0;have h2:=(XJ _).1 h0;have h3:(ws.getD j Qr).value.length<=32:=by have:=h2.2.2;split at this;(·rw[this];simp);·exact this
 exact⟨by omega,by omega,by omega⟩⟩
theorem MN{c:XC}(h:Q9 c=0):EW c:=by
 obtain⟨h1,h2,h3⟩:=(KP c).1 h;exact⟨by omega,Dx (by omega) h3⟩
theorem PZ:(208:Nat)≠5:=by
 decide
theorem jA:(208:Nat)≠97:=by
 decide
def Dv(w:F)(b o:Nat)(c:XC):Prop:=∃vs,w.cell? ⟨b,o,G⟩=I (Y tE c.turn)∧w.cell? ⟨b,o+1,G⟩=I vs∧QQ w vs c.writes
theorem Dv.grown{w w':F}{b o:Nat}{c:XC}(h:Dv w b o c)(hg:L w w' G):Dv w' b o c:=by
 obtain⟨vs,c1,c2,h⟩:=h;exact⟨vs,hg.cell c1 (by simp),hg.cell c2 (by simp),h.grown hg⟩
def Y6(w:F)(v:H)(l:List XC):Prop:=∃a cap,v=J a l.length cap∧l.length<=cap∧((l=[]∧(a=G->cap=0))∨∃b o,a=I ⟨b,o,G⟩∧∀i,i<l.length->Dv w b (o+i*2) (l.getD i Zk))
theorem RJ(w:F):Y6 w (J G 0 0) []:=⟨G,0,rfl,tX _,.inl ⟨rfl,fun _=>rfl⟩⟩
theorem Y6.shape{w:F}{v:H}{l:List XC}(h:Y6 w v l):∃a cap,v=J a l.length cap:=by
 obtain⟨a,cap,rfl,_⟩:=h;exact⟨a,cap,rfl⟩
theorem Y6.grown{w w':F}{v:H}{l:List XC}(h:Y6 w v l)(hg:L w w' G):Y6 w' v l:=by
 obtain⟨a,cap,rfl,hc,h⟩:=h;refine⟨a,cap,rfl,hc,?_⟩;rcases h with h|⟨b,o,rfl,h⟩;·exact .inl h
 ·exact .inr ⟨b,o,rfl,fun i hi=>(h i hi).grown hg⟩
theorem Y6.at{w:F}{a:Option rU}{n cap:Nat}{l:List XC}(h:Y6 w (J a n cap) l)(i:Nat)(hi:i<l.length):∃b o,a=I ⟨b,o,G⟩∧Dv w b (o+i*2) (l.getD i Zk):=by
 obtain⟨a',cap',e,hc,h⟩:=h;simp only[tL]at e;obtain⟨rfl,rfl,rfl⟩:=e;rcases h with⟨rfl,_⟩|⟨b,o,rfl,h⟩;·simp at hi
 ·exact⟨b,o,rfl,h i hi⟩
structure Bo (l : List XC) : Prop where
  many : l.length * 32 <= 140737488355328
  each : ∀ i, i < l.length -> EW (l.getD i Zk)
abbrev CV:=XC×H
def jK(us:List CV):List H:=us.flatMap fun x=>[Y tE x.1.turn,x.2]
theorem Ns(a b:List CV):jK (a++b)=jK a++jK b:=by
 simp[jK]
theorem cT:(S.info? 208).map (fun i=>(i.zero,i.size,i.bytes))=I (I (sH #[Y tE 0,J G 0 0]),2,32):=by
 kernel_rfl
theorem Qk{w:F}{b i:Nat}{cs:Array H}{t:tV}{fz:Nat×Nat}{u:H}(h:w.heap[b]?=I (O cs t fz)):(tC w ⟨b,i,G⟩ u).heap[b]?=I (O (cs.setIfInBounds i u) t fz):=by
 simp only[tC,tS,if_true,h,rI];rfl
theorem Qx{w:F}{b c i:Nat}{o:Obj}{u:H}(h:w.heap[b]?=I o)(hne:b≠c):(tC w ⟨c,i,G⟩ u).heap[b]?=I o:=by
 simp only[tC,tS];rw[if_neg (fun e=>hne e.symm)];exact h
theorem YK(w:F)(b i:Nat)(u:H):L w (tC w ⟨b,i,G⟩ u) (I b):=Qh (Qb w _) i u
theorem Qj.setOther{base:Nat}{w:F}{v:H}{bs:List UInt8}(h:Qj base w v bs){b i:Nat}{cs:Array H}{t:tV}{fz:Nat×Nat}(hb:w.heap[b]?=I (O cs t fz))(ht:t≠5)(hbb:base<=b)(u:H):Qj base (tC w ⟨b,i,G⟩ u) v bs:=h.keptT (YK w b i u) (.inr ⟨b,cs,t,fz,rfl,hbb,hb,ht⟩)
def Q4(rb pb:Nat)(w:F)(v:H)(l:List Ze):Prop:=∃us:List WV,us.map (·.1)=l∧w.ownsRow rb 97 4 v l.length (Y0 us)∧∀x∈us,Qj pb w x.2.1 x.1.name∧Qj pb w x.2.2.1 x.1.key∧Qj pb w x.2.2.2 x.1.value
theorem Xv(rb pb:Nat)(w:F):Q4 rb pb w (J G 0 0) []:=⟨[],rfl,sP _ _ _ _,fun x hx=>by
 simp at hx⟩
theorem Q4.row{rb pb:Nat}{w:F}{v:H}{l:List Ze}(h:Q4 rb pb w v l):v.ownBlock=G∨∃g cur fz,v.ownBlock=I g∧rb<=g∧w.heap[g]?=I (O cur 97 fz):=by
 obtain⟨us,_,h,_⟩:=h;rcases h.2with⟨rfl,_⟩|⟨g,cap,cur,rfl,hb,hg,_⟩;·exact .inl rfl
 ·exact .inr ⟨g,cur,_,rfl,hb,hg⟩
theorem Q4.lt{rb pb:Nat}{w:F}{v:H}{l:List Ze}(h:Q4 rb pb w v l):∀k,v.ownBlock=I k->rb<=k∧k<w.heap.size:=by
 obtain⟨us,_,h,_⟩:=h;exact sG h
theorem Q4.ne{rb pb:Nat}{w:F}{v:H}{l:List Ze}(h:Q4 rb pb w v l){b:Nat}{cs:Array H}{t:tV}{fz:Nat×Nat}(hb:w.heap[b]?=I (O cs t fz))(ht:t≠97):v.ownBlock≠I b:=by
 intro e;rcases h.row with h0|⟨g,cur,fz2,h1,_,h2⟩;·rw[h0]at e;cases e
 ·rw[h1]at e;cases e;rw[hb]at h2;simp only[tB,sA]at h2;exact ht h2.2.1
theorem Q4.kept{rb pb:Nat}{w w':F}{v:H}{l:List Ze}(h:Q4 rb pb w v l){row:Option Nat}(hg:L w w' row)(hne:v.ownBlock=G∨v.ownBlock≠row)(hrow:row=G∨∃g cur t fz,row=I g∧pb<=g∧w.heap[g]?=I (O cur t fz)∧t≠5):Q4 rb pb w' v l:=by
 obtain⟨us,h1,h2,h3⟩:=h;exact⟨us,h1,tZ h2 hg hne,fun x hx=>⟨(h3 x hx).1.keptT hg hrow,(h3 x hx).2.1.keptT hg hrow,(h3 x hx).2.2.keptT hg hrow⟩⟩
theorem Q4.grownNone{rb pb:Nat}{w w':F}{v:H}{l:List Ze}(h:Q4 rb pb w v l)(hg:L w w' G):Q4 rb pb w' v l:=h.kept hg (by
 cases hv:v.ownBlock with|none=>exact .inl rfl|some k=>exact .inr (by simp)) (.inl rfl)
theorem Q4.setOther{rb pb:Nat}{w:F}{v:H}{l:List Ze}(h:Q4 rb pb w v l){b i:Nat}{cs:Array H}{t:tV}{fz:Nat×Nat}(hb:w.heap[b]?=I (O cs t fz))(ht:t≠5)(ht2:t≠97)(hbb:pb<=b)(u:H):Q4 rb pb (tC w ⟨b,i,G⟩ u) v l:=h.kept (YK w b i u) (.inr (h.ne hb ht2)) (.inr ⟨b,cs,t,fz,rfl,hbb,hb,ht⟩)
theorem Q4.shape{rb pb:Nat}{w:F}{v:H}{l:List Ze}(h:Q4 rb pb w v l):∃a cap,v=J a l.length cap:=by
 obtain⟨us,_,h,_⟩:=h;rcases h.2with⟨rfl,h0⟩|⟨g,cap,cur,rfl,_⟩;·exact⟨G,0,by rw[h0]⟩
 ·exact⟨_,cap,rfl⟩
theorem Q4.any{rb pb:Nat}{w:F}{v:H}{l:List Ze}(h:Q4 rb pb w v l):∃a n cap,v=J a n cap:=by
 obtain⟨a,cap,e⟩:=h.shape;exact⟨a,_,cap,e⟩
theorem Q4.down{rb pb:Nat}{w:F}{v:H}{l:List Ze}(h:Q4 rb pb w v l)(rb':Nat)(hb:rb'<=rb):Q4 rb' pb w v l:=by
 obtain⟨us,h1,h2,h3⟩:=h;refine⟨us,h1,⟨h2.1,?_⟩,h3⟩;rcases h2.2with h|⟨g,cap,cur,e,hb2,rest⟩;·exact .inl h
 ·exact .inr ⟨g,cap,cur,e,tP hb hb2,rest⟩
theorem Q4.writesB{rb pb:Nat}{w:F}{v:H}{l:List Ze}(h:Q4 rb pb w v l):Xn pb w v l:=by
 obtain⟨us,hl,hr,h3⟩:=h;rcases hr.2with⟨rfl,h0⟩|⟨g,cap,cur,rfl,hb,hg,hn,hm,hs,ht⟩;·have:l=[]:=tG h0;rw[this];exact Dq pb w
 ·(have hcell:∀j u,(Y0 us)[j]?=I u->w.cell? ⟨g,j,G⟩=I u:=by intro j u hj;(have hlt:j<l.length*4:=by have:=(sI.1 hj).1;rw[hr.1]at this;exact this);(have e2:(cur.toList.take (l.length*4))[j]?=(Y0 us)[j]?:=by rw[ht]);rw[sC,if_pos hlt,hj]at e2;simp[tW,hg];simpa using e2);refine⟨_,cap,rfl,hn,.inr ⟨g,0,rfl,.inr ⟨_,_,hg⟩,fun i hi=>?_⟩⟩;obtain⟨e1,e2⟩:=LY hl i hi;(have hlen:us.length=l.length:=by rw[<-hl];simp);obtain⟨c1,c2,c3,c4⟩:=Nf us i (by omega);have hp:=h3 _ e2;rw[e1]at c3 hp;rw[sR];exact⟨_,_,_,hcell _ _ c1,hcell _ _ c2,hcell _ _ c3,hcell _ _ c4,hp.1,hp.2.1,hp.2.2⟩
theorem Q4.list{rb pb:Nat}{w:F}{v:H}{l:List Ze}(h:Q4 rb pb w v l):QQ w v l:=h.writesB.list
theorem VY{rb pb:Nat}{w W w1:F}{v:H}{l:List Ze}(h:L w W G)(ho:Q4 rb pb W v l)(hb:w.heap.size<=rb)(hg:L W w1 v.ownBlock):L w w1 G:=⟨hg.os.trans h.os,hg.tape.trans h.tape,hg.output.trans h.output,tP h.size hg.size,fun i hi hn=>(hg.block i (tI hi h.size) (fun e=>by
 have:=(ho.lt i e.symm).1;omega)).trans (h.block i hi hn)⟩
def Y1(base:Nat)(w:F)(v:H)(l:List XC):Prop:=∃us:List CV,us.map (·.1)=l∧w.ownsRow base 208 2 v l.length (jK us)∧(l=[]->v=J G 0 0)∧∀x∈us,Xn 0 w x.2 x.1.writes
theorem Dy(base:Nat)(w:F):Y1 base w (J G 0 0) []:=⟨[],rfl,sP _ _ _ _,fun _=>rfl,fun x hx=>by
 simp at hx⟩
theorem Y1.row{base:Nat}{w:F}{v:H}{l:List XC}(h:Y1 base w v l):v.ownBlock=G∨∃g cur t fz,v.ownBlock=I g∧base<=g∧w.heap[g]?=I (O cur t fz)∧t≠5∧t≠97:=by
 obtain⟨us,_,h,_⟩:=h;rcases h.2with⟨rfl,_⟩|⟨g,cap,cur,rfl,hb,hg,_⟩;·exact .inl rfl
 ·exact .inr ⟨g,cur,_,_,rfl,hb,hg,PZ,jA⟩
theorem Y1.row0{base:Nat}{w:F}{v:H}{l:List XC}(h:Y1 base w v l):v.ownBlock=G∨∃g cur t fz,v.ownBlock=I g∧0<=g∧w.heap[g]?=I (O cur t fz)∧t≠5∧t≠97:=by
 rcases h.row with h|⟨g,cur,t,fz,h1,_,h2⟩;·exact .inl h
 ·exact .inr ⟨g,cur,t,fz,h1,tQ _,h2⟩
theorem Y1.lt{base:Nat}{w:F}{v:H}{l:List XC}(h:Y1 base w v l):∀k,v.ownBlock=I k->base<=k∧k<w.heap.size:=by
 obtain⟨us,_,h,_⟩:=h;exact sG h
theorem Y1.grownNone{base:Nat}{w w':F}{v:H}{l:List XC}(h:Y1 base w v l)(hg:L w w' G):Y1 base w' v l:=by
 obtain⟨us,h1,h2,h0,h3⟩:=h;refine⟨us,h1,tZ h2 hg ?_,h0,fun x hx=>(h3 x hx).kept hg (.inl rfl)⟩;cases hv:v.ownBlock with|none=>exact .inl rfl|some k=>exact .inr (by simp)
theorem Y1.shape{base:Nat}{w:F}{v:H}{l:List XC}(h:Y1 base w v l):∃a cap,v=J a l.length cap:=by
 obtain⟨us,_,h,_⟩:=h;rcases h.2with⟨rfl,h0⟩|⟨g,cap,cur,rfl,_⟩;·exact⟨G,0,by rw[h0]⟩
 ·exact⟨_,cap,rfl⟩
theorem Ab{base:Nat}{w W w1:F}{v:H}{l:List XC}(h:L w W G)(ho:Y1 base W v l)(hb:w.heap.size<=base)(hg:L W w1 v.ownBlock):L w w1 G:=⟨hg.os.trans h.os,hg.tape.trans h.tape,hg.output.trans h.output,tP h.size hg.size,fun i hi hn=>(hg.block i (tI hi h.size) (fun e=>by
 have:=(ho.lt i e.symm).1;omega)).trans (h.block i hi hn)⟩
theorem Rh{w:F}{o:rJ}{a:Act}{K:Act->F->Prop}{Q:Exit->Act->F->Prop}(s x:rH)(ho:o.op=.call {callee:=.builtin .append,args:=#[s,x],argTypes:=#[113,113]})(base:Nat)(v:H)(l:List XC)(hs:a.eval s=v)(hown:Y1 base w v l)(vw:H)(c:XC)(hw:Xn 0 w vw c.writes)(nb:Nat)(hb:w.heap[nb]?=I (O #[Y tE c.turn,vw] 208))(hx:a.eval x=J (I ⟨nb,0,G⟩) 1 1)(hl:(l.length+1)*32<=140737488355328)(hbase:base<=w.heap.size)(h:∀v' w',Y1 base w' v' (l++[c])->L w w' v.ownBlock->K (a.put o.dst v') w'):o.wp S a w K Q:=by
 obtain⟨i0,hi,hz0,hz1,hz2⟩:=rX cT;have hrow:=hown.row0;obtain⟨us,hul,hr,_,hp⟩:=hown;refine wp_append_lies w s x 113 ho base 208 i0 (sH #[Y tE 0,J G 0 0]) 2 32 Tryz.underlying113 hi hz0 hz1 hz2 rfl (by decide) v l.length (jK us) hs hr ⟨nb,0,G⟩ 1 1 (jK [(c,vw)]) hx rfl (sZ (cs:=#[Y tE c.turn,vw]) hb) ?_ (by omega) (by unfold pG;omega) hl hbase _ rfl ?_;·intro u hu;simp only[jK,tR,rD,tU,tJ,tM,or_false]at hu;rcases hu with rfl|rfl;(·rfl);·exact hw.oneCell
 ·intro g cap w' q1 q2 _ _;refine h _ w' ⟨us++[(c,vw)],by simp[hul],?_,fun e=>by simp at e,?_⟩ q2;(·rw[Ns,tA];exact q1);·intro y hy;rcases tY.1 hy with hy|hy;(·exact(hp y hy).kept q2 hrow);·simp only[tJ,tM,or_false]at hy;subst hy;exact hw.kept q2 hrow
theorem jY{w:F}{ops:Array rJ}{rest:List rJ}{o:rJ}{a:Act}{Q:Exit->Act->F->Prop}(hgd:o.guard=G)(s x:rH)(ho:o.op=.call {callee:=.builtin .append,args:=#[s,x],argTypes:=#[113,113]})(base:Nat)(v:H)(l:List XC)(hs:a.eval s=v)(hown:Y1 base w v l)(vw:H)(c:XC)(hw:Xn 0 w vw c.writes)(nb:Nat)(hb:w.heap[nb]?=I (O #[Y tE c.turn,vw] 208))(hx:a.eval x=J (I ⟨nb,0,G⟩) 1 1)(hl:(l.length+1)*32<=140737488355328)(hbase:base<=w.heap.size)(h:∀v' w',Y1 base w' v' (l++[c])->L w w' v.ownBlock->wpList S ops Q rest (a.put o.dst v') w'):wpList S ops Q (o::rest) a w:=wpList_plain hgd fun _ hK=>Rh s x ho base v l hs hown vw c hw nb hb hx hl hbase fun v' w' h1 h2=>hK _ _ (h v' w' h1 h2)
theorem Y1.ne{base:Nat}{w:F}{v:H}{l:List XC}(h:Y1 base w v l){b:Nat}{cs:Array H}{t:tV}{fz:Nat×Nat}(hb:w.heap[b]?=I (O cs t fz))(ht:t≠208):v.ownBlock≠I b:=by
 intro e;obtain⟨us,_,h,_⟩:=h;rcases h.2with⟨rfl,_⟩|⟨g,cap,cur,rfl,_,hg,_⟩;·cases e
 ·cases e;rw[hb]at hg;simp only[tB,sA]at hg;exact ht hg.2.1
theorem Y1.setOther{base:Nat}{w:F}{v:H}{l:List XC}(h:Y1 base w v l){b i:Nat}{cs:Array H}{t:tV}{fz:Nat×Nat}(hb:w.heap[b]?=I (O cs t fz))(ht:t≠5)(ht2:t≠97)(ht3:t≠208)(u:H):Y1 base (tC w ⟨b,i,G⟩ u) v l:=by
 have hne:=h.ne hb ht3;obtain⟨us,h1,h2,h0,h3⟩:=h;exact⟨us,h1,tZ h2 (YK w b i u) (.inr hne),h0,fun x hx=>(h3 x hx).kept (YK w b i u) (.inr ⟨b,cs,t,fz,rfl,tQ _,hb,ht,ht2⟩)⟩
theorem Y1.other{base:Nat}{w w':F}{v:H}{l:List XC}(h:Y1 base w v l)(hg:L w w' v.ownBlock){b:Nat}{cs:Array H}{t:tV}{fz:Nat×Nat}(hb:w.heap[b]?=I (O cs t fz))(ht:t≠208):w'.heap[b]?=I (O cs t fz):=by
 rw[hg.block b (tH.1 hb).1 (fun e=>h.ne hb ht e.symm)];exact hb
def Ic:Prop:=∀(w:F)(v:H)(l:PL),Qs w v l->kP l->rC S 59 #[v] w fun e w'=>e=tK (Y tE (QA l))∧L w w' G
theorem Fo{w:F}{o:rJ}{a:Act}{K:Act->F->Prop}{Q:Exit->Act->F->Prop}(s x:rH)(ho:o.op=.call {callee:=.builtin .append,args:=#[s,x],argTypes:=#[53,53]})(rb base:Nat)(hrb:base<=rb)(v:H)(l:PL)(hs:a.eval s=v)(hown:Ko rb base w v l)(vk vv:H)(p:Pr)(hk:Qj base w vk p.1)(hv:Qj base w vv p.2)(nb:Nat)(hb:w.heap[nb]?=I (O #[vk,vv] 56))(hx:a.eval x=J (I ⟨nb,0,G⟩) 1 1)(hl:(l.length+1)*48<=140737488355328)(hbase:rb<=w.heap.size)(h:∀v' w',Ko rb base w' v' (l++[p])->L w w' v.ownBlock->K (a.put o.dst v') w'):o.wp S a w K Q:=by
 obtain⟨i0,hi,hz0,hz1,hz2⟩:=rX DQ;have hrow:=hown.row hrb;obtain⟨vs,hvl,hr,hp⟩:=hown;refine wp_append_lies w s x 53 ho rb 56 i0 (sH #[J G 0 0,J G 0 0]) 2 48 Tryz.underlying53 hi hz0 hz1 hz2 rfl (by decide) v l.length (flat vs) hs hr ⟨nb,0,G⟩ 1 1 (flat [(vk,vv)]) hx rfl (sZ (cs:=#[vk,vv]) hb) ?_ (by omega) (by unfold pG;omega) hl hbase _ rfl ?_;·intro u hu;simp only[flat,tR,rD,tU,tJ,tM,or_false]at hu;rcases hu with rfl|rfl;(·exact ZD hk);·exact ZD hv
 ·intro g cap w' h1 h2 _ _;refine h _ w' ⟨vs++[(vk,vv)],by simp[hvl],?_,?_⟩ h2;(·rw[JU,tA];exact h1);·intro i hi;rw[Ji,Ji,hvl];by_cases hil:i<l.length;(·rw[if_pos hil,if_pos hil];exact⟨(hp i hil).1.kept h2 hrow,(hp i hil).2.kept h2 hrow⟩);·rw[if_neg hil,if_neg hil];(obtain rfl:i=l.length:=by simp at hi;omega);rw[oF];exact⟨hk.kept h2 hrow,hv.kept h2 hrow⟩
theorem Ga{w:F}{ops:Array rJ}{o:rJ}{a:Act}{K:Act->F->Prop}{Q:Exit->Act->F->Prop}{E:Prop}(hgd:o.guard=G)(s x:rH)(ho:o.op=.call {callee:=.builtin .append,args:=#[s,x],argTypes:=#[53,53]})(rb base:Nat)(hrb:base<=rb)(v:H)(l:PL)(hs:a.eval s=v)(hown:Ko rb base w v l)(vk vv:H)(p:Pr)(hk:Qj base w vk p.1)(hv:Qj base w vv p.2)(nb:Nat)(hb:w.heap[nb]?=I (O #[vk,vv] 56))(hx:a.eval x=J (I ⟨nb,0,G⟩) 1 1)(hl:(l.length+1)*48<=140737488355328)(hbase:rb<=w.heap.size)(h:∀v' w',Ko rb base w' v' (l++[p])->L w w' v.ownBlock->K (a.put o.dst v') w'):if sD o (pB ops a.tmps)=M then Oper.wp S o a w K Q else E:=by
 have hw:sD o (pB ops a.tmps)=M:=by simp[sD,hgd]
 rw[if_pos hw];exact Fo s x ho rb base hrb v l hs hown vk vv p hk hv nb hb hx hl hbase h
theorem T8(w:F):(sizeOf (S.elem 53)).run S w=.ok 2 w:=by
 kernel_rfl
theorem Qs.sliced{w:F}{a:Option rU}{cap:Nat}{l:PL}(h:Qs w (J a l.length cap) l)(i j:Nat)(hij:i<=j)(hj:j<=l.length):Qs w (r7 a i j cap 2) ((l.take j).drop i):=by
 obtain⟨a',cap',e,hc,h⟩:=h;simp only[tL,true_and]at e;obtain⟨rfl,rfl⟩:=e;have hlen:((l.take j).drop i).length=j-i:=by simp;omega
 refine⟨if cap=i then a else a.map (·.add (i*2)),cap-i,by rw[hlen];rfl,by rw[hlen];omega,?_⟩;by_cases hci:cap=i;·left;exact⟨tG (by rw[hlen];omega),fun _=>by omega⟩
 ·rw[if_neg hci];rcases h with⟨rfl,h⟩|⟨b,o,rfl,h⟩;(·left;refine⟨by simp,fun e=>?_⟩;cases a with|none=>have:=h rfl;simp at hj;omega|some x=>cases e);·right;refine⟨b,o+i*2,by simp[Z4],fun k hk=>?_⟩;rw[hlen]at hk;have:=h (i+k) (by omega);(have e:((l.take j).drop i).getD k ([],[])=l.getD (i+k) ([],[]):=by simp[show i+k<j by omega]);rw[e,show o+i*2+k*2=o+(i+k)*2by omega];exact this
theorem u7(a:Option rU)(cap:Nat)(l:PL)(n:Nat)(hn:n<=l.length)(hc:l.length<=cap):∃a1 c1,(∀W,(Instr.slice 53 (J a l.length cap) G (I (Y tE (n:Int))) G).run S W=.ok (J a1 n c1) W)∧∀W,Qs W (J a l.length cap) l->Qs W (J a1 n c1) (l.take n):=by
 refine⟨if cap=0then a else a.map (·.add (0*2)),cap-0,fun W=>?_,fun W h=>?_⟩;·rw[run_slice_h _ _ _ _ _ (by kernel_rfl) _ _ (by omega) (by omega),T8];simp only[Result.andThen,r7,pF,oG]
 ·have:=h.sliced 0 n (by omega) hn;simpa only[r7,List.drop_zero,oG]using this
theorem vM(a:Option rU)(cap:Nat)(l:PL)(n:Nat)(hn:n<=l.length):∃a1 c1,(∀W,(Instr.slice 53 (J a l.length cap) (I (Y tE (n:Int))) G G).run S W=.ok (J a1 (l.length-n) c1) W)∧∀W,Qs W (J a l.length cap) l->Qs W (J a1 (l.length-n) c1) (l.drop n):=by
 refine⟨if cap=n then a else a.map (·.add (n*2)),cap-n,fun W=>?_,fun W h=>?_⟩;·rw[run_slice_l _ _ _ _ _ (by kernel_rfl) _ _ (by omega) (by omega),T8];simp only[Result.andThen,r7,pF]
 ·have:=h.sliced n l.length hn (tX _);simpa only[r7,sK]using this
theorem Ng(a:Option rU)(cap:Nat)(l:PL)(i j:Nat)(hij:i<=j)(hj:j<=l.length)(hc:l.length<=cap):∃a1 c1,(∀W,(Instr.slice 53 (J a l.length cap) (I (Y tE (i:Int))) (I (Y tE (j:Int))) G).run S W=.ok (J a1 (j-i) c1) W)∧∀W,Qs W (J a l.length cap) l->Qs W (J a1 (j-i) c1) ((l.take j).drop i):=by
 refine⟨if cap=i then a else a.map (·.add (i*2)),cap-i,fun W=>?_,fun W h=>?_⟩;·rw[run_slice_lh _ _ _ _ _ (by kernel_rfl) _ _ _ _ (by omega) (by omega) (by omega),T8];simp only[Result.andThen,r7,pF]
 ·have:=h.sliced i j hij hj;simpa only[r7]using this
theorem Qs.cap{w:F}{a:Option rU}{n cap:Nat}{l:PL}(h:Qs w (J a n cap) l):l.length<=cap:=by
 obtain⟨a',cap',e,hc,_⟩:=h;simp only[tL]at e;obtain⟨_,_,rfl⟩:=e;exact hc
structure Ge (l : FL) : Prop where
  many : l.length * 48 <= 140737488355328
  each : ∀ i, i < l.length -> (l.getD i ([], [])).1.length <= 140737488355328 ∧ kP (l.getD i ([], [])).2
theorem Ge.len{l:FL}(h:Ge l):l.length<=140737488355328:=by
 have:=h.many;omega
theorem Xo.fits{l:FL}(h:Xo l):Ge l:=by
 refine⟨by have:=h.room;omega,fun i hi=>?_⟩;have:=h.tens l[i] (sU hi);rw[show l[i]=l.getD i ([],[])by simp[hi]]at this;exact⟨by omega,this.2.2.fits⟩
def Df(w:F)(b o:Nat)(t:Tn):Prop:=∃vn vp,w.cell? ⟨b,o,G⟩=I vn∧w.cell? ⟨b,o+1,G⟩=I vp∧Qe w vn t.1∧Qs w vp t.2
theorem Df.grown{w w':F}{b o:Nat}{t:Tn}(h:Df w b o t)(hg:L w w' G):Df w' b o t:=by
 obtain⟨vn,vp,c1,c2,h1,h2⟩:=h;exact⟨vn,vp,hg.cell c1 (by simp),hg.cell c2 (by simp),h1.grown hg,h2.grown hg⟩
def ZN(w:F)(v:H)(l:FL):Prop:=∃a cap,v=J a l.length cap∧l.length<=cap∧((l=[]∧(a=G->cap=0))∨∃b o,a=I ⟨b,o,G⟩∧∀i,i<l.length->Df w b (o+i*2) (l.getD i ([],[])))
theorem qJ(w:F):ZN w (J G 0 0) []:=⟨G,0,rfl,tX _,.inl ⟨rfl,fun _=>rfl⟩⟩
theorem ZN.grown{w w':F}{v:H}{l:FL}(h:ZN w v l)(hg:L w w' G):ZN w' v l:=by
 obtain⟨a,cap,rfl,hc,h⟩:=h;refine⟨a,cap,rfl,hc,?_⟩;rcases h with h|⟨b,o,rfl,h⟩;·exact .inl h
 ·exact .inr ⟨b,o,rfl,fun i hi=>(h i hi).grown hg⟩
theorem ZN.shape{w:F}{v:H}{l:FL}(h:ZN w v l):∃a cap,v=J a l.length cap:=by
 obtain⟨a,cap,rfl,_⟩:=h;exact⟨a,cap,rfl⟩
theorem ZN.at{w:F}{a:Option rU}{n cap:Nat}{l:FL}(h:ZN w (J a n cap) l)(i:Nat)(hi:i<l.length):∃b o,a=I ⟨b,o,G⟩∧Df w b (o+i*2) (l.getD i ([],[])):=by
 obtain⟨a',cap',e,hc,h⟩:=h;simp only[tL]at e;obtain⟨rfl,rfl,rfl⟩:=e;rcases h with⟨rfl,_⟩|⟨b,o,rfl,h⟩;·simp at hi
 ·exact⟨b,o,rfl,h i hi⟩
theorem dO:(131:Nat)≠5:=by
 decide
theorem dK:(131:Nat)≠56:=by
 decide
def Zx(base:Nat)(w:F)(v:H)(l:FL):Prop:=∃vs:List (H×H),vs.length=l.length∧w.ownsRow base 131 2 v l.length (flat vs)∧∀i,i<l.length->Qj 0 w (vs.getD i (sM,sM)).1 (l.getD i ([],[])).1∧QN 0 w (vs.getD i (sM,sM)).2 (l.getD i ([],[])).2
theorem xV(base:Nat)(w:F):Zx base w (J G 0 0) []:=⟨[],rfl,sP _ _ _ _,fun i hi=>by
 simp at hi⟩
theorem Zx.row{base:Nat}{w:F}{v:H}{l:FL}(h:Zx base w v l):v.ownBlock=G∨∃g cur t fz,v.ownBlock=I g∧base<=g∧w.heap[g]?=I (O cur t fz)∧t≠5∧t≠56:=by
 obtain⟨vs,_,h,_⟩:=h;rcases h.2with⟨rfl,_⟩|⟨g,cap,cur,rfl,hb,hg,_⟩;·exact .inl rfl
 ·exact .inr ⟨g,cur,_,_,rfl,hb,hg,dO,dK⟩
theorem Zx.row0{base:Nat}{w:F}{v:H}{l:FL}(h:Zx base w v l):v.ownBlock=G∨∃g cur t fz,v.ownBlock=I g∧0<=g∧w.heap[g]?=I (O cur t fz)∧t≠5∧t≠56:=by
 rcases h.row with h|⟨g,cur,t,fz,h1,_,h3⟩;·exact .inl h
 ·exact .inr ⟨g,cur,t,fz,h1,tQ _,h3⟩
theorem fE{base:Nat}{w:F}{r:Option Nat}(h:r=G∨∃g cur t fz,r=I g∧base<=g∧w.heap[g]?=I (O cur t fz)∧t≠5∧t≠56):r=G∨∃g cur t fz,r=I g∧base<=g∧w.heap[g]?=I (O cur t fz)∧t≠5:=by
 rcases h with h|⟨g,cur,t,fz,h1,h2,h3,h4,_⟩;·exact .inl h
 ·exact .inr ⟨g,cur,t,fz,h1,h2,h3,h4⟩
theorem Zx.lt{base:Nat}{w:F}{v:H}{l:FL}(h:Zx base w v l):∀k,v.ownBlock=I k->base<=k∧k<w.heap.size:=by
 obtain⟨vs,_,h,_⟩:=h;exact sG h
theorem Zx.grownNone{base:Nat}{w w':F}{v:H}{l:FL}(h:Zx base w v l)(hg:L w w' G):Zx base w' v l:=by
 obtain⟨vs,h1,h2,h3⟩:=h;refine⟨vs,h1,tZ h2 hg ?_,fun i hi=>⟨((h3 i hi).1).keptT hg (.inl rfl),((h3 i hi).2).kept hg (.inl rfl)⟩⟩;cases hv:v.ownBlock with|none=>exact .inl rfl|some k=>exact .inr (by simp)
theorem Zx.alloc{base:Nat}{w:F}{v:H}{l:FL}(h:Zx base w v l)(o:Obj):Zx base (w.alloc o) v l:=h.grownNone (sQ _ _ _)
theorem Zx.shape{base:Nat}{w:F}{v:H}{l:FL}(h:Zx base w v l):∃a cap,v=J a l.length cap:=by
 obtain⟨vs,_,h,_⟩:=h;rcases h.2with⟨rfl,h0⟩|⟨g,cap,cur,rfl,_⟩;·exact⟨G,0,by rw[h0]⟩
 ·exact⟨_,cap,rfl⟩
theorem Zx.cells{base:Nat}{w:F}{g n cap:Nat}{vs:List (H×H)}{l:FL}(hr:w.ownsRow base 131 2 (J (I ⟨g,0,G⟩) n cap) l.length (flat vs)):∀j u,(flat vs)[j]?=I u->w.cell? ⟨g,j,G⟩=I u:=by
 intro j u hj;rcases hr.2with⟨e,_⟩|⟨g',cap',cur,e,hb,hg,hn,hm,hs,ht⟩;·cases e
 ·simp only[tL,tB,rM]at e;obtain⟨⟨rfl,_⟩,_,_⟩:=e;(have hlt:j<l.length*2:=by have:=(sI.1 hj).1;rw[hr.1]at this;exact this);(have e2:(cur.toList.take (l.length*2))[j]?=(flat vs)[j]?:=by rw[ht]);rw[sC,if_pos hlt,hj]at e2;simp[tW,hg];simpa using e2
theorem Zx.list{base:Nat}{w:F}{v:H}{l:FL}(h:Zx base w v l):ZN w v l:=by
 obtain⟨vs,hl,hr,h3⟩:=h;have hr':=hr;rcases hr.2with⟨rfl,h0⟩|⟨g,cap,cur,rfl,hb,hg,hn,hm,hs,ht⟩;·have:l=[]:=tG h0;subst this;exact qJ w
 ·refine⟨_,cap,rfl,hn,.inr ⟨g,0,rfl,fun i hi=>?_⟩⟩;have hf:=xD vs i (by omega);refine⟨(vs.getD i (sM,sM)).1,(vs.getD i (sM,sM)).2,?_,?_,(h3 i hi).1.1,(h3 i hi).2.list⟩;(·have:=Zx.cells hr' _ _ hf.1;rw[sR];exact this);·have:=Zx.cells hr' _ _ hf.2;rw[sR];exact this
theorem Tm{base:Nat}{w W w1:F}{v:H}{l:FL}(h:L w W G)(ho:Zx base W v l)(hb:w.heap.size<=base)(hg:L W w1 v.ownBlock):L w w1 G:=⟨hg.os.trans h.os,hg.tape.trans h.tape,hg.output.trans h.output,tP h.size hg.size,fun i hi hn=>(hg.block i (tI hi h.size) (fun e=>by
 have:=(ho.lt i e.symm).1;omega)).trans (h.block i hi hn)⟩
theorem Fz:(S.info? 131).map (fun i=>(i.zero,i.size,i.bytes))=I (I (sH #[J G 0 0,J G 0 0]),2,48):=by
 kernel_rfl
theorem jL{w:F}{o:rJ}{a:Act}{K:Act->F->Prop}{Q:Exit->Act->F->Prop}(s x:rH)(ho:o.op=.call {callee:=.builtin .append,args:=#[s,x],argTypes:=#[25,25]})(base:Nat)(v:H)(l:FL)(hs:a.eval s=v)(hown:Zx base w v l)(vn vp:H)(t:Tn)(hk:Qj 0 w vn t.1)(hv:QN 0 w vp t.2)(nb:Nat)(hb:w.heap[nb]?=I (O #[vn,vp] 131))(hx:a.eval x=J (I ⟨nb,0,G⟩) 1 1)(hl:(l.length+1)*48<=140737488355328)(hbase:base<=w.heap.size)(h:∀v' w',Zx base w' v' (l++[t])->L w w' v.ownBlock->K (a.put o.dst v') w'):o.wp S a w K Q:=by
 obtain⟨i0,hi,hz0,hz1,hz2⟩:=rX Fz;have hrow:=hown.row0;obtain⟨vs,hvl,hr,hp⟩:=hown;refine wp_append_lies w s x 25 ho base 131 i0 (sH #[J G 0 0,J G 0 0]) 2 48 Tryz.underlying25 hi hz0 hz1 hz2 rfl (by decide) v l.length (flat vs) hs hr ⟨nb,0,G⟩ 1 1 (flat [(vn,vp)]) hx rfl (sZ (cs:=#[vn,vp]) hb) ?_ (by omega) (by unfold pG;omega) hl hbase _ rfl ?_;·intro u hu;simp only[flat,tR,rD,tU,tJ,tM,or_false]at hu;rcases hu with rfl|rfl;(·exact ZD hk);·exact xR hv
 ·intro g cap w' h1 h2 _ _;refine h _ w' ⟨vs++[(vn,vp)],by simp[hvl],?_,?_⟩ h2;(·rw[JU,tA];exact h1);·intro i hi;rw[Ji,Ji,hvl];by_cases hil:i<l.length;(·rw[if_pos hil,if_pos hil];exact⟨(hp i hil).1.keptT h2 (fE hrow),(hp i hil).2.kept h2 hrow⟩);·rw[if_neg hil,if_neg hil];(obtain rfl:i=l.length:=by simp at hi;omega);rw[oF];exact⟨hk.keptT h2 (fE hrow),hv.kept h2 hrow⟩
theorem Fr{w:F}{ops:Array rJ}{o:rJ}{a:Act}{K:Act->F->Prop}{Q:Exit->Act->F->Prop}{E:Prop}(hgd:o.guard=G)(s x:rH)(ho:o.op=.call {callee:=.builtin .append,args:=#[s,x],argTypes:=#[25,25]})(base:Nat)(v:H)(l:FL)(hs:a.eval s=v)(hown:Zx base w v l)(vn vp:H)(t:Tn)(hk:Qj 0 w vn t.1)(hv:QN 0 w vp t.2)(nb:Nat)(hb:w.heap[nb]?=I (O #[vn,vp] 131))(hx:a.eval x=J (I ⟨nb,0,G⟩) 1 1)(hl:(l.length+1)*48<=140737488355328)(hbase:base<=w.heap.size)(h:∀v' w',Zx base w' v' (l++[t])->L w w' v.ownBlock->K (a.put o.dst v') w'):if sD o (pB ops a.tmps)=M then Oper.wp S o a w K Q else E:=by
 have hw:sD o (pB ops a.tmps)=M:=by simp[sD,hgd]
 rw[if_pos hw];exact jL s x ho base v l hs hown vn vp t hk hv nb hb hx hl hbase h
theorem uB{w:F}{ops:Array rJ}{rest:List rJ}{o:rJ}{a:Act}{Q:Exit->Act->F->Prop}(hgd:o.guard=G)(s x:rH)(ho:o.op=.call {callee:=.builtin .append,args:=#[s,x],argTypes:=#[25,25]})(base:Nat)(v:H)(l:FL)(hs:a.eval s=v)(hown:Zx base w v l)(vn vp:H)(t:Tn)(hk:Qj 0 w vn t.1)(hv:QN 0 w vp t.2)(nb:Nat)(hb:w.heap[nb]?=I (O #[vn,vp] 131))(hx:a.eval x=J (I ⟨nb,0,G⟩) 1 1)(hl:(l.length+1)*48<=140737488355328)(hbase:base<=w.heap.size)(h:∀v' w',Zx base w' v' (l++[t])->L w w' v.ownBlock->wpList S ops Q rest (a.put o.dst v') w'):wpList S ops Q (o::rest) a w:=wpList_plain hgd fun _ hK=>jL s x ho base v l hs hown vn vp t hk hv nb hb hx hl hbase fun v' w' h1 h2=>hK _ _ (h v' w' h1 h2)
def OH:Prop:=∀(w:F)(v:H)(l:FL),ZN w v l->Ge l->rC S 40 #[v] w fun e w'=>e=tK (Y tE (Q7 l))∧L w w' G
def M4:Prop:=∀(w:F)(v u:H)(l:FL)(ws:List Ze),ZN w v l->QQ w u ws->Ge l->kS ws->rC S 25 #[v,u] w fun e w'=>∃x,e=tK (sV #[x,Y tE (QZ l ws)])∧ZN w' x (Xt l ws)∧L w w' G
theorem Zx.down{base:Nat}{w:F}{v:H}{l:FL}(h:Zx base w v l)(b2:Nat)(hb:b2<=base):Zx b2 w v l:=by
 obtain⟨vs,h1,h2,h3⟩:=h;refine⟨vs,h1,⟨h2.1,?_⟩,h3⟩;rcases h2.2with h|⟨g,cap,cur,e,hb2,rest⟩;·exact .inl h
 ·exact .inr ⟨g,cap,cur,e,tP hb hb2,rest⟩
def xU:Prop:=∀(w:F)(v u:H)(l:FL)(ws:List Ze),ZN w v l->QQ w u ws->Ge l->kS ws->rC S 25 #[v,u] w fun e w'=>∃x,e=tK (sV #[x,Y tE (QZ l ws)])∧Zx w.heap.size w' x (Xt l ws)∧L w w' G
theorem xU.ok(h:xU):M4:=fun w v u l ws h1 h2 h3 h4=>(h w v u l ws h1 h2 h3 h4).mono (by
 rintro e w'⟨x,rfl,hx,hg⟩;exact⟨x,rfl,hx.list,hg⟩)
def Ms(w:F)(b o:Nat)(s:kM):Prop:=∃vo,w.cell? ⟨b,o,G⟩=I (Y tE s.bit)∧w.cell? ⟨b,o+1,G⟩=I (tN s.right)∧w.cell? ⟨b,o+2,G⟩=I vo∧Qe w vo s.other
theorem Ms.grown{w w':F}{b o:Nat}{s:kM}(h:Ms w b o s)(hg:L w w' G):Ms w' b o s:=by
 obtain⟨vo,c1,c2,c3,h1⟩:=h;exact⟨vo,hg.cell c1 (by simp),hg.cell c2 (by simp),hg.cell c3 (by simp),h1.grown hg⟩
def Gg(w:F)(v:H)(l:List kM):Prop:=∃a cap,v=J a l.length cap∧l.length<=cap∧((l=[]∧(a=G->cap=0))∨∃b o,a=I ⟨b,o,G⟩∧∀i,i<l.length->Ms w b (o+i*3) (l.getD i Sy))
theorem Cc(w:F):Gg w (J G 0 0) []:=⟨G,0,rfl,tX _,.inl ⟨rfl,fun _=>rfl⟩⟩
theorem Gg.grown{w w':F}{v:H}{l:List kM}(h:Gg w v l)(hg:L w w' G):Gg w' v l:=by
 obtain⟨a,cap,rfl,hc,h⟩:=h;refine⟨a,cap,rfl,hc,?_⟩;rcases h with h|⟨b,o,rfl,h⟩;·exact .inl h
 ·exact .inr ⟨b,o,rfl,fun i hi=>(h i hi).grown hg⟩
theorem Gg.shape{w:F}{v:H}{l:List kM}(h:Gg w v l):∃a cap,v=J a l.length cap:=by
 obtain⟨a,cap,rfl,_⟩:=h;exact⟨a,cap,rfl⟩
def UI(w:F)(v:H)(p:Ds):Prop:=∃vs vk vv,v=sH #[tN p.empty,vs,vk,vv]∧Gg w vs p.steps∧Qe w vk p.pair.1∧Qe w vv p.pair.2
theorem UI.grown{w w':F}{v:H}{p:Ds}(h:UI w v p)(hg:L w w' G):UI w' v p:=by
 obtain⟨vs,vk,vv,rfl,h0,h1,h2⟩:=h;exact⟨vs,vk,vv,rfl,h0.grown hg,h1.grown hg,h2.grown hg⟩
theorem Uu{w:F}{b:Nat}{x y:H}{t:tV}(h:w.heap[b]?=I (O #[x,y] t)):w.cell? ⟨b,0,G⟩=I x∧w.cell? ⟨b,1,G⟩=I y∧w.frozen? ⟨b,0,G⟩=N∧w.frozen? ⟨b,1,G⟩=N:=by
 refine⟨?_,?_,?_,?_⟩<;>simp[tW,rN,h]
theorem aS{w:F}{b:Nat}{x y:H}{t:tV}(h:w.heap[b]?=I (O #[x,y] t))(u v:H):((tC w ⟨b,0,G⟩ u).setCell ⟨b,1,G⟩ v).heap[b]?=I (O #[u,v] t):=by
 have h0:(tC w ⟨b,0,G⟩ u).heap[b]?=I (O #[u,y] t):=by simp only[tC,tS,if_true,h,rI];first|rfl|simp
 rw[tC,tS,if_pos rfl,h0];first|rfl|simp
theorem Gc{w:F}{b:Nat}{x y z:H}{t:tV}(h:w.heap[b]?=I (O #[x,y,z] t)):(w.cell? ⟨b,0,G⟩=I x∧w.cell? ⟨b,1,G⟩=I y∧w.cell? ⟨b,2,G⟩=I z)∧w.frozen? ⟨b,0,G⟩=N∧w.frozen? ⟨b,1,G⟩=N∧w.frozen? ⟨b,2,G⟩=N:=by
 refine⟨⟨?_,?_,?_⟩,?_,?_,?_⟩<;>simp[tW,rN,h]
theorem Eu{w:F}{b:Nat}{x y z:H}{t:tV}(h:w.heap[b]?=I (O #[x,y,z] t))(x' y' z':H):(((tC w ⟨b,0,G⟩ x').setCell ⟨b,1,G⟩ y').setCell ⟨b,2,G⟩ z').heap[b]?=I (O #[x',y',z'] t):=by
 have h0:(tC w ⟨b,0,G⟩ x').heap[b]?=I (O #[x',y,z] t):=by simp only[tC,tS,if_true,h,rI];first|rfl|simp
 have h1:((tC w ⟨b,0,G⟩ x').setCell ⟨b,1,G⟩ y').heap[b]?=I (O #[x',y',z] t):=by rw[tC,tS,if_pos rfl,h0];first|rfl|simp
 rw[tC,tS,if_pos rfl,h1];first|rfl|simp
theorem PR{w w1:F}(h:L w w1 G)(b:Nat)(hb:w.heap.size<=b)(x y z:H):L w (((tC w1 ⟨b,0,G⟩ x).setCell ⟨b,1,G⟩ y).setCell ⟨b,2,G⟩ z) G:=Qd (Qd (Qd h _ hb _ _) _ hb _ _) _ hb _ _
def eU(w:F)(b:Nat):Prop:=∃cur t fz,w.heap[b]?=I (O cur t fz)∧(t=5∨∃q,cur[0]?=I (Y rS q))
def yW(w:F)(b:Nat):Prop:=∃cur t fz,w.heap[b]?=I (O cur t fz)∧t≠5∧∀q,cur[0]?≠I (Y rS q)
theorem eU.ne{w:F}{a b:Nat}(h:eU w a)(h':yW w b):a≠b:=by
 rintro rfl;obtain⟨cur,t,fz,h1,h2⟩:=h;obtain⟨cur',t',fz',h3,h4,h5⟩:=h';rw[h1]at h3;simp only[tB,sA]at h3;obtain⟨rfl,rfl,_⟩:=h3;rcases h2 with h2|⟨q,h2⟩;·exact h4 h2
 ·exact h5 q h2
theorem yW.grown{w w':F}{b:Nat}(h:yW w b)(hg:L w w' G):yW w' b:=by
 obtain⟨cur,t,fz,h1,h2⟩:=h;exact⟨cur,t,fz,by rw[hg.block b (tH.1 h1).1 (by simp)];exact h1,h2⟩
theorem yW.set{w:F}{c:Nat}(h:yW w c)(i:Nat)(u:H)(hu:∀q,u≠Y rS q):yW (tC w ⟨c,i,G⟩ u) c:=by
 obtain⟨cur,t,fz,h1,h2,h3⟩:=h;refine⟨cur.setIfInBounds i u,t,fz,?_,h2,fun q hq=>?_⟩;·simp only[tC,tS,if_true,h1,rI];first|rfl|simp
 ·rw[Array.getElem?_setIfInBounds]at hq;split at hq;(·split at hq;(·simp at hq;exact hu q hq);·cases hq);·exact h3 q hq
theorem Mx{w:F}{c:Nat}{x:H}{xs:List H}{t:tV}{fz:Nat×Nat}(h:w.heap[c]?=I (O ⟨x::xs⟩ t fz))(ht:t≠5)(hx:∀q,x≠Y rS q):yW w c:=⟨_,t,fz,h,ht,fun q hq=>by
 simp at hq;exact hx q hq⟩
def XU(w:F)(v:H)(bs:List UInt8):Prop:=Qe w v bs∧(bs=[]∨∃b,v.ownBlock=I b∧b<w.heap.size∧eU w b)
theorem fQ:(232:Nat)≠5:=by
 decide
theorem Us(w:F):XU w (J G 0 0) []:=⟨QD _,.inl rfl⟩
theorem Q8.partS{base':Nat}{w:F}{v:H}{bs:List UInt8}(h:Q8 base' w v bs):XU w v bs:=by
 refine⟨h.slice,?_⟩;rcases h.2with⟨rfl,h0⟩|⟨g,cap,cur,rfl,hb,hg,_⟩;·exact .inl (tG h0)
 ·exact .inr ⟨g,rfl,(tH.1 hg).1,cur,_,_,hg,.inl rfl⟩
theorem ZG.partS{w:F}{nb:Nat}{bs:List UInt8}(h:ZG w nb bs)(hl:bs.length=32):XU w (J (I ⟨nb,0,G⟩) 32 32) bs:=by
 refine⟨h.slice32 hl,.inr ⟨nb,rfl,Vu (h.cell 0 (by omega)),?_⟩⟩;have hc:=h.cell 0 (by omega);obtain⟨t,hb⟩:=h;refine⟨_,t,_,hb,.inr ⟨((bs.getD 0 0).toNat:Int),?_⟩⟩;·simpa[tW,hb]using hc
theorem RW{w:F}{v:H}{bs:List UInt8}(h:XU w v bs):v.oneCell'=M:=by
 obtain⟨⟨a,cap,rfl,_⟩,_⟩:=h;rfl
def fZ(w:F)(row:Option Nat):Prop:=row=G∨∃g,row=I g∧yW w g
theorem XU.kept{w w':F}{v:H}{bs:List UInt8}(h:XU w v bs){row:Option Nat}(hg:L w w' row)(hrow:fZ w row):XU w' v bs:=by
 obtain⟨hs,ho⟩:=h;rcases ho with rfl|⟨b,hb,hlt,hc⟩;·obtain⟨a,cap,rfl,hc,h⟩:=hs;refine⟨⟨a,cap,rfl,hc,?_⟩,.inl rfl⟩;rcases h with h|⟨b,o,rfl,h⟩;(·exact .inl h);·exact .inr ⟨b,o,rfl,fun i hi=>by simp at hi⟩
 ·(have hne:I b≠row:=by intro e;rcases hrow with rfl|⟨g,rfl,hg'⟩;(·cases e);·cases e;exact hc.ne hg' rfl);have hblk:=hg.block b hlt hne;refine⟨?_,.inr ⟨b,hb,tI hlt hg.size,?_⟩⟩;(·obtain⟨a,cap,rfl,hcp,h⟩:=hs;refine⟨a,cap,rfl,hcp,?_⟩;rcases h with h|⟨b',o,rfl,h⟩;(·exact .inl h);·refine .inr ⟨b',o,rfl,fun i hi=>?_⟩;simp[pK]at hb;subst hb;exact hg.cell (h i hi) (by simpa using hne));·obtain⟨cur,t,fz,hc,hc2⟩:=hc;exact⟨cur,t,fz,by rw[hblk];exact hc,hc2⟩
theorem XU.grown{w w':F}{v:H}{bs:List UInt8}(h:XU w v bs)(hg:L w w' G):XU w' v bs:=h.kept hg (.inl rfl)
theorem XU.set{w:F}{v:H}{bs:List UInt8}(h:XU w v bs){c:Nat}(hc:yW w c)(i:Nat)(u:H):XU (tC w ⟨c,i,G⟩ u) v bs:=h.kept (Qh (Qb _ (I c)) i u) (.inr ⟨c,rfl,hc⟩)
abbrev SV:=kM×H
def LS:SV:=(Sy,sM)
def Uh(us:List SV):List H:=us.flatMap fun x=>[Y tE x.1.bit,tN x.1.right,x.2]
theorem MA(a b:List SV):Uh (a++b)=Uh a++Uh b:=by
 simp[Uh]
theorem Nm:∀(us:List SV)(i:Nat),i<us.length->(Uh us)[i*3]?=I (Y tE (us.getD i LS).1.bit)∧(Uh us)[i*3+1]?=I (tN (us.getD i LS).1.right)∧(Uh us)[i*3+2]?=I (us.getD i LS).2|[],i,h=>by simp at h|x::r,0,_=>by simp[Uh]|x::r,i+1,h=>by have:=Nm r i (by simpa using h);rw[show(i+1)*3=i*3+3by omega,show i*3+3+1=(i*3+1)+3by omega,show i*3+3+2=(i*3+2)+3by omega];simpa[Uh]using this
theorem L8(us:List SV):∀u∈Uh us,(∀x∈us,x.2.oneCell'=M)->u.oneCell'=M:=by
 intro u hu h;obtain⟨x,hx,hu⟩:=List.mem_flatMap.1 hu;simp only[tJ,tM,or_false]at hu;rcases hu with rfl|rfl|rfl;·rfl
 ·rfl
 ·exact h x hx
def JI(base:Nat)(w:F)(v:H)(l:List kM):Prop:=∃us:List SV,us.map (·.1)=l∧w.ownsRow base 232 3 v l.length (Uh us)∧(∀x∈us,XU w x.2 x.1.other)∧(l=[]->v=J G 0 0)
theorem uG(base:Nat)(w:F):JI base w (J G 0 0) []:=⟨[],rfl,sP _ _ _ _,fun x hx=>by
 simp at hx,fun _=>rfl⟩
theorem JI.row{base:Nat}{w:F}{v:H}{l:List kM}(h:JI base w v l):fZ w v.ownBlock:=by
 obtain⟨us,hm,h,_,h0⟩:=h;cases l with|nil=>rw[h0 rfl];exact .inl rfl|cons x r=>rcases h.2with⟨rfl,_⟩|⟨g,cap,cur,rfl,hb,hg,hn,_,_,ht⟩;(·exact .inl rfl);·refine .inr ⟨g,rfl,cur,_,_,hg,fQ,fun q=>?_⟩;cases us with|nil=>simp at hm|cons u us=>simp only[oD,rY]at hm;(have e:(cur.toList.take ((x::r).length*3))[0]?=(Uh (u::us))[0]?:=by rw[ht]);rw[sC,if_pos (by simp)]at e;rw[<-pA,e];simp[Uh]
theorem JI.lt{base:Nat}{w:F}{v:H}{l:List kM}(h:JI base w v l):∀k,v.ownBlock=I k->base<=k∧k<w.heap.size:=by
 obtain⟨us,_,h,_⟩:=h;exact sG h
theorem JI.grownNone{base:Nat}{w w':F}{v:H}{l:List kM}(h:JI base w v l)(hg:L w w' G):JI base w' v l:=by
 obtain⟨us,h1,h2,h3,h4⟩:=h;refine⟨us,h1,tZ h2 hg ?_,fun x hx=>(h3 x hx).grown hg,h4⟩;cases hv:v.ownBlock with|none=>exact .inl rfl|some k=>exact .inr (by simp)
theorem JI.alloc{base:Nat}{w:F}{v:H}{l:List kM}(h:JI base w v l)(o:Obj):JI base (w.alloc o) v l:=h.grownNone (sQ _ _ _)
theorem JI.shape{base:Nat}{w:F}{v:H}{l:List kM}(h:JI base w v l):∃a cap,v=J a l.length cap:=by
 obtain⟨us,_,h,_⟩:=h;rcases h.2with⟨rfl,h0⟩|⟨g,cap,cur,rfl,_⟩;·exact⟨G,0,by rw[h0]⟩
 ·exact⟨_,cap,rfl⟩
theorem JI.cells{base:Nat}{w:F}{g n cap:Nat}{us:List SV}{k:Nat}(hr:w.ownsRow base 232 3 (J (I ⟨g,0,G⟩) n cap) k (Uh us)):∀j u,(Uh us)[j]?=I u->w.cell? ⟨g,j,G⟩=I u:=by
 intro j u hj;rcases hr.2with⟨e,_⟩|⟨g',cap',cur,e,hb,hg,hn,hm,hs,ht⟩;·cases e
 ·simp only[tL,tB,rM]at e;obtain⟨⟨rfl,_⟩,_,_⟩:=e;(have hlt:j<k*3:=by have:=(sI.1 hj).1;rw[hr.1]at this;exact this);(have e2:(cur.toList.take (k*3))[j]?=(Uh us)[j]?:=by rw[ht]);rw[sC,if_pos hlt,hj]at e2;simp[tW,hg];simpa using e2
theorem Ov{us:List SV}{l:List kM}(h:us.map (·.1)=l)(i:Nat)(hi:i<l.length):(us.getD i LS).1=l.getD i Sy∧us.getD i LS∈us:=by
 subst h;have hi':i<us.length:=by simpa using hi
 constructor;·simp[hi']
 ·rw[show us.getD i LS=us[i]by simp[hi']];exact sU _
theorem JI.list{base:Nat}{w:F}{v:H}{l:List kM}(h:JI base w v l):Gg w v l:=by
 obtain⟨us,hl,hr,h3,_⟩:=h;have hul:us.length=l.length:=by rw[<-hl];simp
 rcases hr.2with⟨rfl,h0⟩|⟨g,cap,cur,rfl,hb,hg,hn,hm,hs,ht⟩;·have:l=[]:=tG h0;subst this;exact Cc w
 ·refine⟨_,cap,rfl,hn,.inr ⟨g,0,rfl,fun i hi=>?_⟩⟩;obtain⟨e1,e2⟩:=Ov hl i hi;obtain⟨c1,c2,c3⟩:=Nm us i (by omega);have hp:=h3 _ e2;rw[e1]at c1 c2 hp;rw[sR];exact⟨_,JI.cells hr _ _ c1,JI.cells hr _ _ c2,JI.cells hr _ _ c3,hp.1⟩
theorem JI.set{base:Nat}{w:F}{v:H}{l:List kM}(h:JI base w v l){c:Nat}(hc:yW w c)(hne:c<base)(i:Nat)(u:H):JI base (tC w ⟨c,i,G⟩ u) v l:=by
 have hlt:=h.lt;obtain⟨us,h1,h2,h3,h4⟩:=h;refine⟨us,h1,tZ h2 (Qh (Qb _ (I c)) i u) ?_,fun x hx=>(h3 x hx).set hc i u,h4⟩;cases hv:v.ownBlock with|none=>exact .inl rfl|some k=>exact .inr (by have:=(hlt k hv).1;simp;omega)
theorem eL:(58:Nat)≠5:=by
 decide
theorem gB:(56:Nat)≠5:=by
 decide
theorem Vp{W:F}{pb:Nat}{x y:H}(h:W.heap[pb]?=I (O #[x,y] 56))(hx:∀q,x≠Y rS q)(ua va:Option rU)(un uc vn vc:Nat){z:H}{bs:List UInt8}(hz:XU W z bs):XU ((tC W ⟨pb,0,G⟩ (J ua un uc)).setCell ⟨pb,1,G⟩ (J va vn vc)) z bs:=have h0:yW W pb:=Mx (xs:=[y]) h gB hx;have h1:=h0.set 0 (J ua un uc) (fun q=>by
 simp);(hz.set h0 0 _).set h1 1 _
theorem XU.quad{w:F}{v:H}{bs:List UInt8}(h:XU w v bs){c:Nat}(hc:yW w c){e:Bool}{sa:Option rU}{sn sc:Nat}{ka va:Option rU}{kn kc vn vc:Nat}:XU ((((tC w ⟨c,0,G⟩ (tN e)).setCell ⟨c,1,G⟩ (J sa sn sc)).setCell ⟨c,2,G⟩ (J ka kn kc)).setCell ⟨c,3,G⟩ (J va vn vc)) v bs:=have h1:=hc.set 0 (tN e) (fun q=>by
 simp);have h2:=h1.set 1 (J sa sn sc) (fun q=>by
 simp);have h3:=h2.set 2 (J ka kn kc) (fun q=>by
 simp);(((h.set hc 0 _).set h1 1 _).set h2 2 _).set h3 3 _
theorem JI.quad{base:Nat}{w:F}{v:H}{l:List kM}(h:JI base w v l){c:Nat}(hc:yW w c)(hne:c<base){e:Bool}{sa:Option rU}{sn sc:Nat}{ka va:Option rU}{kn kc vn vc:Nat}:JI base ((((tC w ⟨c,0,G⟩ (tN e)).setCell ⟨c,1,G⟩ (J sa sn sc)).setCell ⟨c,2,G⟩ (J ka kn kc)).setCell ⟨c,3,G⟩ (J va vn vc)) v l:=have h1:=hc.set 0 (tN e) (fun q=>by
 simp);have h2:=h1.set 1 (J sa sn sc) (fun q=>by
 simp);have h3:=h2.set 2 (J ka kn kc) (fun q=>by
 simp);(((h.set hc hne 0 _).set h1 hne 1 _).set h2 hne 2 _).set h3 hne 3 _
def Zv(n:Nat)(w:F)(v:H)(p:Ds):Prop:=∃base vs vk vv,v=sH #[tN p.empty,vs,vk,vv]∧n<=base∧base<=w.heap.size∧JI base w vs p.steps∧XU w vk p.pair.1∧XU w vv p.pair.2
theorem Zv.is{n:Nat}{w:F}{v:H}{p:Ds}(h:Zv n w v p):UI w v p:=by
 obtain⟨base,vs,vk,vv,rfl,_,_,h1,h2,h3⟩:=h;exact⟨vs,vk,vv,rfl,h1.list,h2.1,h3.1⟩
theorem At{base:Nat}{w W w1:F}{v:H}{l:List kM}(h:L w W G)(ho:JI base W v l)(hb:w.heap.size<=base)(hg:L W w1 v.ownBlock):L w w1 G:=⟨hg.os.trans h.os,hg.tape.trans h.tape,hg.output.trans h.output,tP h.size hg.size,fun i hi hn=>(hg.block i (tI hi h.size) (fun e=>by
 have:=(ho.lt i e.symm).1;omega)).trans (h.block i hi hn)⟩
theorem IP:(S.info? 232).map (fun i=>(i.zero,i.size,i.bytes))=I (I (sH #[Y tE 0,tN N,J G 0 0]),3,40):=by
 kernel_rfl
theorem TW{w:F}{o:rJ}{a:Act}{K:Act->F->Prop}{Q:Exit->Act->F->Prop}(s x:rH)(ho:o.op=.call {callee:=.builtin .append,args:=#[s,x],argTypes:=#[54,54]})(base:Nat)(v:H)(l:List kM)(hs:a.eval s=v)(hown:JI base w v l)(vo:H)(p:kM)(hk:XU w vo p.other)(nb:Nat)(hb:∀j u,[Y tE p.bit,tN p.right,vo][j]?=I u->w.cell? ⟨nb,j,G⟩=I u)(hx:a.eval x=J (I ⟨nb,0,G⟩) 1 1)(hl:(l.length+1)*40<=140737488355328)(hbase:base<=w.heap.size)(h:∀v' w',JI base w' v' (l++[p])->L w w' v.ownBlock->K (a.put o.dst v') w'):o.wp S a w K Q:=by
 obtain⟨i0,hi,hz0,hz1,hz2⟩:=rX IP;have hrow:=hown.row;obtain⟨us,hul,hr,hp,_⟩:=hown;refine wp_append_own w s x 54 ho base 232 i0 (sH #[Y tE 0,tN N,J G 0 0]) 3 40 Tryz.underlying54 hi hz0 hz1 hz2 rfl (by decide) v l.length (Uh us) hs hr ⟨nb,0,G⟩ 1 1 (Uh [(p,vo)]) hx rfl ?_ ?_ (by unfold pG;omega) hl hbase ?_;·intro j u hj;rw[Z4,sR];exact hb j u (by simpa[Uh]using hj)
 ·intro u hu;exact L8 _ u hu fun y hy=>by simp at hy;subst hy;exact RW hk
 ·intro v' w' h1 h2 _;refine h _ w' ⟨us++[(p,vo)],by simp[hul],?_,?_,fun e=>by simp at e⟩ h2;(·rw[MA,tA];exact h1);·intro y hy;rcases tY.1 hy with hy|hy;(·exact(hp y hy).kept h2 hrow);·simp at hy;subst hy;exact hk.kept h2 hrow
theorem kB{w:F}{ops:Array rJ}{rest:List rJ}{o:rJ}{a:Act}{Q:Exit->Act->F->Prop}(hgd:o.guard=G)(s x:rH)(ho:o.op=.call {callee:=.builtin .append,args:=#[s,x],argTypes:=#[54,54]})(base:Nat)(v:H)(l:List kM)(hs:a.eval s=v)(hown:JI base w v l)(vo:H)(p:kM)(hk:XU w vo p.other)(nb:Nat)(hb:∀j u,[Y tE p.bit,tN p.right,vo][j]?=I u->w.cell? ⟨nb,j,G⟩=I u)(hx:a.eval x=J (I ⟨nb,0,G⟩) 1 1)(hl:(l.length+1)*40<=140737488355328)(hbase:base<=w.heap.size)(h:∀v' w',JI base w' v' (l++[p])->L w w' v.ownBlock->wpList S ops Q rest (a.put o.dst v') w'):wpList S ops Q (o::rest) a w:=wpList_plain hgd fun _ hK=>TW s x ho base v l hs hown vo p hk nb hb hx hl hbase fun v' w' h1 h2=>hK _ _ (h v' w' h1 h2)
theorem Ha{w:F}{nb:Nat}{p:kM}{vo:H}{t:tV}(h:w.heap[nb]?=I (O #[Y tE p.bit,tN p.right,vo] t)):∀j u,[Y tE p.bit,tN p.right,vo][j]?=I u->w.cell? ⟨nb,j,G⟩=I u:=by
 intro j u hj;simp[tW,h];simpa using hj
def dU:H->Nat|J _ n _=>n|_=>0
def Ws:Prop:=∀(w:F)(v r u t:H)(l:FL)(n k m:List UInt8),ZN w v l->Qe w r n->Qe w u k->Qe w t m->Ge l->n.length<=140737488355328->k.length<=140737488355328->m.length<=140737488355328->rC S 21 #[v,r,u,t] w fun e w'=>∃x,e=tK (sV #[x,Y tE (YD l n k m)])∧QN 0 w' x (Kk l n k m)∧L w w' G
theorem XM{w:F}{b:Nat}{x y:H}{t:tV}(h:w.heap[b]?=I (O #[x,y] t)):w.cell? ⟨b,0,G⟩=I x∧w.cell? ⟨b,1,G⟩=I y∧w.frozen? ⟨b,0,G⟩=N∧w.frozen? ⟨b,1,G⟩=N:=by
 refine⟨?_,?_,?_,?_⟩<;>simp[tW,rN,h]
def WZ:Prop:=∀(w:F)(v u x:H)(l:PL)(f t:List UInt8),Qs w v l->Qe w u f->Qe w x t->kP l->f.length<=140737488355328->t.length<=140737488355328->rC S 36 #[v,u,x] w fun e w'=>∃y,e=tK (sV #[y,Y tE (Yy l f t)])∧QN 0 w' y (KM l f t)∧L w w' G
def Gs(t:V2):Bool:=tD (t.data.length<=200000)&&tD (0<=t.synced∧t.synced<=(t.data.length:Int))
theorem Ky(t:V2):Gs t=M↔t.data.length<=200000∧0<=t.synced∧t.synced<=(t.data.length:Int):=by
 unfold Gs;rw[rO,decide_eq_true_iff,decide_eq_true_iff]
def Tf(c:XC):List UInt8:=if Q9 c=0then Zh c else[]
def TZ(t:V2):Int:=if Gs t=M then 0 else 6
def Kn(t:V2):V2:=if Gs t=M then⟨t.data,(t.data.length:Int)⟩else V6
def Uk(t:V2)(keep:Int):Int:=if Gs t=M then(if keep<0then 2 else 0)else 6
def Xu(t:V2)(keep:Int):Nat:=if keep<(t.data.length:Int)-t.synced then(t.synced+keep).toNat else t.data.length
def Xq(t:V2)(keep:Int):V2:=if Uk t keep=0then⟨t.data.take (Xu t keep),(Xu t keep:Int)⟩else V6
def Vr(D:List UInt8->List UInt8)(t:V2)(c:XC):Int:=if Gs t=M then(if Q9 c=0then(if 200000<t.data.length+(ZC D c).length then 11 else 0)else Q9 c)else 6
def zH(D:List UInt8->List UInt8)(t:V2)(c:XC):V2:=if Vr D t c=0then⟨t.data++ZC D c,t.synced⟩else V6
def RS(t:V2):Int:=if Gs t=M then 0 else 6
def xX(D:List UInt8->List UInt8)(t:V2):List XC:=if Gs t=M then(Kz D 1 t.data).1 else[]
def zQ(D:List UInt8->List UInt8)(t:V2):V2:=if Gs t=M then⟨t.data.take (M9 D t.data),if t.synced>(M9 D t.data:Int)then(M9 D t.data:Int)else t.synced⟩else V6
def Lo:Prop:=∀(w:F)(v:H)(c:XC),JZ w v c->EW c->rC S 140 #[v] w fun e w'=>e=tK (Y tE (Q9 c))∧L w w' G
theorem Wz(b:List UInt8)(n:Nat)(h:n<b.length):Zt (b.drop n)=if n+1+(b.getD n 0).toNat<=b.length then I ((b.take (n+1+(b.getD n 0).toNat)).drop (n+1),b.drop (n+1+(b.getD n 0).toNat))else G:=by
 rw[sL h,Zt,show b[n]=b.getD n 0 by simp[h],pH];by_cases hc:n+1+(b.getD n 0).toNat<=b.length;·rw[if_pos (by omega),if_pos hc,List.drop_take,List.drop_drop,Nat.add_sub_cancel_left]
 ·rw[if_neg (by omega),if_neg hc]
def T4(ws:List Ze):Prop:=∀p∈ws,p.name.length<=255∧p.key.length<=255∧p.value.length<=255
theorem Cm{ws:List Ze}{p:Ze}(h:T4 ws)(hp:p.name.length<=255∧p.key.length<=255∧p.value.length<=255):T4 (ws++[p]):=fun q hq=>by
 rcases tY.1 hq with hq|hq;·exact h q hq
 ·simp only[tJ,tM,or_false]at hq;rw[hq];exact hp
theorem Hs{b:List UInt8}(h:4000<b.length):YI b=1∧JB b=Zk:=by
 have:YI b=1:=by rw[YI,if_pos h]
 exact⟨this,by rw[JB,this,if_neg (by decide)]⟩
theorem AS{b:List UInt8}(h:b.length<4):YI b=14∧JB b=Zk:=by
 have:YI b=14:=by rw[YI,if_neg (by omega),if_pos h]
 exact⟨this,by rw[JB,this,if_neg (by decide)]⟩
theorem Lz{b:List UInt8}(h1:¬4000<b.length)(h2:¬b.length<4)(h:GS b=G):YI b=14∧JB b=Zk:=by
 have:YI b=14:=by rw[YI,if_neg h1,if_neg h2,h]
 exact⟨this,by rw[JB,this,if_neg (by decide)]⟩
theorem Ll{b r:List UInt8}{ws:List Ze}(h1:¬4000<b.length)(h2:¬b.length<4)(h:GS b=I (ws,r))(hr:r.length≠0):YI b=4∧JB b=Zk:=by
 have:YI b=4:=by rw[YI,if_neg h1,if_neg h2,h];show(if r.length=0then _ else(4:Int))=4;rw[if_neg hr]
 exact⟨this,by rw[JB,this,if_neg (by decide)]⟩
theorem Wh{b r:List UInt8}{ws:List Ze}(h1:¬4000<b.length)(h2:¬b.length<4)(h:GS b=I (ws,r))(hr:r.length=0):YI b=Q9 ⟨(V5 b:Int),ws⟩∧(YI b=0->JB b=⟨(V5 b:Int),ws⟩)∧(YI b≠0->JB b=Zk):=by
 have:YI b=Q9 ⟨(V5 b:Int),ws⟩:=by rw[YI,if_neg h1,if_neg h2,h];show(if r.length=0then _ else(4:Int))=_;rw[if_pos hr]
 refine⟨this,fun h0=>?_,fun h0=>?_⟩;·rw[JB,if_pos h0,h]
 ·rw[JB,if_neg h0]
structure Vk where
  rest : List UInt8
  short : Bool
def Fg(r:Vk)(n:Nat):List UInt8:=if r.short=M∨r.rest.length<n then[]else r.rest.take n
def C3(r:Vk)(n:Nat):Vk:=if r.short=M∨r.rest.length<n then⟨r.rest,M⟩else⟨r.rest.drop n,N⟩
theorem FJ{r:Vk}{n:Nat}(h:r.short=M∨r.rest.length<n):Fg r n=[]∧C3 r n=⟨r.rest,M⟩:=⟨if_pos h,if_pos h⟩
theorem uY{r:Vk}{n:Nat}(h:¬(r.short=M∨r.rest.length<n)):Fg r n=r.rest.take n∧C3 r n=⟨r.rest.drop n,N⟩:=⟨if_neg h,if_neg h⟩
theorem aQ(r:Vk)(n:Nat):(Fg r n).length<=n:=by
 unfold Fg;split;·simp
 ·rw[rF];omega
def Xd(r:Vk):Vk:=C3 r 1
def JD(r:Vk):Nat:=if(Xd r).short=M then 0 else((Fg r 1).getD 0 0).toNat
theorem Yk(r:Vk):JD r<256:=by
 unfold JD;split;·omega
 ·exact((Fg r 1).getD 0 0).toNat_lt
theorem YU(x:UInt8)(l:List UInt8):Xd ⟨x::l,N⟩=⟨l,N⟩∧JD ⟨x::l,N⟩=x.toNat:=by
 have h:¬((⟨x::l,N⟩:Vk).short=M∨(⟨x::l,N⟩:Vk).rest.length<1):=by simp
 obtain⟨h1,h2⟩:=uY h;have h3:Xd ⟨x::l,N⟩=⟨l,N⟩:=h2;refine⟨h3,?_⟩;rw[JD,h3,h1,if_neg (by simp)];rfl
theorem vR{r:Vk}(h:r.short=M)(n:Nat):(C3 r n).short=M:=by
 rw[(FJ (.inl h)).2]
theorem Kg{r:Vk}(h:r.short=M):(Xd r).short=M:=vR h 1
theorem yC:(Xd ⟨[],N⟩).short=M:=rfl
def Sx(r:Vk):List UInt8:=Fg (Xd r) (JD r)
def KG(r:Vk):Vk:=C3 (Xd r) (JD r)
theorem Vy{r:Vk}(h:r.short=M):(KG r).short=M:=vR (Kg h) _
theorem vI{l p l2:List UInt8}(h:Zt l=I (p,l2)):Sx ⟨l,N⟩=p∧KG ⟨l,N⟩=⟨l2,N⟩:=by
 cases l with|nil=>cases h|cons x l=>rw[Zt]at h;obtain⟨h1,h2⟩:=YU x l;unfold Sx KG;rw[h1,h2];by_cases hx:x.toNat<=l.length;(·rw[if_pos hx]at h;simp only[tB,rW]at h;obtain⟨rfl,rfl⟩:=h;exact uY (by simp;omega));·rw[if_neg hx]at h;cases h
theorem Fu{l:List UInt8}(h:Zt l=G):(KG ⟨l,N⟩).short=M:=by
 cases l with|nil=>exact vR yC _|cons x l=>rw[Zt]at h;obtain⟨h1,h2⟩:=YU x l;unfold KG;rw[h1,h2];by_cases hx:x.toNat<=l.length;(·rw[if_pos hx]at h;cases h);·rw[(FJ (.inr (by show l.length<x.toNat;omega))).2]
theorem TV(r:Vk):(Sx r).length<=255:=tP (aQ _ _) (pT (Yk r))
def FN(r:Vk):Ze:=if JD (KG (KG r))=255then⟨Sx r,Sx (KG r),[],M⟩else⟨Sx r,Sx (KG r),Sx (KG (KG r)),N⟩
def CJ(r:Vk):Vk:=if JD (KG (KG r))=255then Xd (KG (KG r))else KG (KG (KG r))
theorem DO{r:Vk}(h:r.short=M):(CJ r).short=M:=by
 unfold CJ;split;·exact Kg (Vy (Vy h))
 ·exact Vy (Vy (Vy h))
theorem TI{r:Vk}(h:(KG (KG r)).short=M):(CJ r).short=M:=by
 unfold CJ;split;·exact Kg h
 ·exact Vy h
theorem bS{l l2:List UInt8}{p:Ze}(h:Y8 l=I (p,l2)):FN ⟨l,N⟩=p∧CJ ⟨l,N⟩=⟨l2,N⟩:=by
 unfold Y8 at h;cases h1:Zt l with|none=>rw[h1]at h;cases h|some q=>obtain⟨n,la⟩:=q;rw[h1]at h;have h:Ml n la=I (p,l2):=h;unfold Ml at h;obtain⟨a1,a2⟩:=vI h1;cases h2:Zt la with|none=>rw[h2]at h;cases h|some q=>obtain⟨k,lb⟩:=q;rw[h2]at h;have h:uH n k lb=I (p,l2):=h;unfold uH at h;obtain⟨b1,b2⟩:=vI h2;unfold FN CJ;rw[a1,a2,b1,b2];cases lb with|nil=>cases h|cons x lb=>obtain⟨c1,c2⟩:=YU x lb;by_cases hx:(x::lb).head?=I 255;(·rw[if_pos hx]at h;simp only[tB,rW]at h;obtain⟨rfl,rfl⟩:=h;have:x=255:=oI hx;subst this;rw[c2,c1,if_pos (by rfl),if_pos (by rfl)];exact⟨rfl,rfl⟩);·rw[if_neg hx]at h;have hne:¬x.toNat=255:=fun e=>hx (by rw[show x=255from pU.1 e];rfl);rw[c2,if_neg hne,if_neg hne];cases h3:Zt (x::lb)with|none=>rw[h3]at h;cases h|some q=>obtain⟨v,lc⟩:=q;rw[h3]at h;simp only[tB,rW]at h;obtain⟨rfl,rfl⟩:=h;obtain⟨d1,d2⟩:=vI h3;rw[d1,d2];exact⟨rfl,rfl⟩
theorem bB{l:List UInt8}(h:Y8 l=G):(CJ ⟨l,N⟩).short=M:=by
 unfold Y8 at h;cases h1:Zt l with|none=>exact TI (Vy (Fu h1))|some q=>obtain⟨n,la⟩:=q;rw[h1]at h;have h:Ml n la=G:=h;unfold Ml at h;obtain⟨a1,a2⟩:=vI h1;cases h2:Zt la with|none=>exact TI (by rw[a2];exact Fu h2)|some q=>obtain⟨k,lb⟩:=q;rw[h2]at h;have h:uH n k lb=G:=h;unfold uH at h;obtain⟨b1,b2⟩:=vI h2;unfold CJ;rw[a2,b2];cases lb with|nil=>split;(·exact yC);·exact Fu rfl|cons x lb=>obtain⟨c1,c2⟩:=YU x lb;by_cases hx:(x::lb).head?=I 255;(·rw[if_pos hx]at h;cases h);·rw[if_neg hx]at h;have hne:¬x.toNat=255:=fun e=>hx (by rw[show x=255from pU.1 e];rfl);rw[c2,if_neg hne];cases h3:Zt (x::lb)with|none=>exact Fu h3|some q=>obtain⟨v,lc⟩:=q;rw[h3]at h;cases h
theorem IE(r:Vk):(FN r).name.length<=255∧(FN r).key.length<=255∧(FN r).value.length<=255:=by
 unfold FN;split;·exact⟨TV _,TV _,by simp⟩
 ·exact⟨TV _,TV _,TV _⟩
def Uw:Nat->Vk->Vk|0,r=>r|n+1,r=>CJ (Uw n r)
def Ur:Nat->Vk->List Ze|0,_=>[]|n+1,r=>Ur n r++[FN (Uw n r)]
theorem Mv:∀(n:Nat)(r:Vk),(Ur n r).length=n|0,_=>rfl|n+1,r=>by rw[Ur,tA,Mv n r];rfl
theorem EA:∀(n:Nat)(r:Vk),T4 (Ur n r)|0,_=>fun p hp=>by simp[Ur]at hp|n+1,r=>Cm (EA n r) (IE _)
theorem Ew:∀(n:Nat){r:Vk},r.short=M->(Uw n r).short=M|0,_,h=>h|n+1,_,h=>DO (Ew n h)
theorem uX:∀(n:Nat){l l2:List UInt8}{ws:List Ze},ZQ n l=I (ws,l2)->Ur n ⟨l,N⟩=ws∧Uw n ⟨l,N⟩=⟨l2,N⟩|0,l,l2,ws,h=>by rw[ZQ]at h;simp only[tB,rW]at h;obtain⟨rfl,rfl⟩:=h;exact⟨rfl,rfl⟩|n+1,l,l2,ws,h=>by rw[zT]at h;cases h1:ZQ n l with|none=>rw[h1]at h;cases h|some q=>obtain⟨ws1,l1⟩:=q;rw[h1]at h;have h:(match Y8 l1 with|I (w,r2)=>I (ws1++[w],r2)|none=>G)=I (ws,l2):=h;obtain⟨e1,e2⟩:=uX n h1;cases h2:Y8 l1 with|none=>rw[h2]at h;cases h|some q=>obtain⟨p,l3⟩:=q;rw[h2]at h;simp only[tB,rW]at h;obtain⟨rfl,rfl⟩:=h;obtain⟨d1,d2⟩:=bS h2;rw[Ur,Uw,e1,e2,d1,d2];exact⟨rfl,rfl⟩
theorem DD:∀(n:Nat){l:List UInt8},ZQ n l=G->(Uw n ⟨l,N⟩).short=M|0,l,h=>by rw[ZQ]at h;cases h|n+1,l,h=>by rw[zT]at h;cases h1:ZQ n l with|none=>exact DO (DD n h1)|some q=>obtain⟨ws1,l1⟩:=q;rw[h1]at h;have h:(match Y8 l1 with|I (w,r2)=>I (ws1++[w],r2)|none=>G)=G:=h;obtain⟨e1,e2⟩:=uX n h1;cases h2:Y8 l1 with|none=>rw[Uw,e2];exact bB h2|some q=>obtain⟨p,l3⟩:=q;rw[h2]at h;cases h
def RZ(r:Vk):Vk:=Uw (JD (Xd (Xd (Xd r)))) (Xd (Xd (Xd (Xd r))))
def Ef(r:Vk):XC:=⟨((65536*JD r+256*JD (Xd r)+JD (Xd (Xd r)):Nat):Int),Ur (JD (Xd (Xd (Xd r)))) (Xd (Xd (Xd (Xd r))))⟩
theorem De(r:Vk):T4 (Ef r).writes∧(Ef r).writes.length<=255:=⟨EA _ _,by
 show(Ur _ _).length<=255;rw[Mv];exact pT (Yk _)⟩
theorem La(b:List UInt8)(h:¬b.length<4):JD ⟨b,N⟩=(b.getD 0 0).toNat∧JD (Xd ⟨b,N⟩)=(b.getD 1 0).toNat∧JD (Xd (Xd ⟨b,N⟩))=(b.getD 2 0).toNat∧JD (Xd (Xd (Xd ⟨b,N⟩)))=(b.getD 3 0).toNat∧Xd (Xd (Xd (Xd ⟨b,N⟩)))=⟨b.drop 4,N⟩:=by
 match b,h with|[],h=>exact absurd (by simp) h|[_],h=>exact absurd (by simp) h|[_,_],h=>exact absurd (by simp) h|[_,_,_],h=>exact absurd (by simp) h|x0::x1::x2::x3::b,_=>obtain⟨a1,a2⟩:=YU x0 (x1::x2::x3::b);obtain⟨b1,b2⟩:=YU x1 (x2::x3::b);obtain⟨c1,c2⟩:=YU x2 (x3::b);obtain⟨d1,d2⟩:=YU x3 b;rw[a1,b1,c1,d1];exact⟨a2,b2,c2,d2,rfl⟩
theorem eZ(b:List UInt8)(h:b.length<4):(RZ ⟨b,N⟩).short=M:=by
 unfold RZ;refine Ew _ ?_;match b,h with|[],_=>exact Kg (Kg (Kg yC))|[x],_=>rw[(YU x []).1];exact Kg (Kg yC)|[x,y],_=>rw[(YU x [y]).1,(YU y []).1];exact Kg yC|[x,y,z],_=>rw[(YU x [y,z]).1,(YU y [z]).1,(YU z []).1];exact yC|_::_::_::_::_,h=>exact absurd h (by simp only[sJ];omega)
theorem Ix{b:List UInt8}(h0:¬4000<b.length)(h:(RZ ⟨b,N⟩).short=M):YI b=14∧JB b=Zk:=by
 by_cases h4:b.length<4;·exact AS h4
 ·obtain⟨_,_,_,e3,e4⟩:=La b h4;cases hb:GS b with|none=>exact Lz h0 h4 hb|some q=>obtain⟨ws,l⟩:=q;obtain⟨_,e5⟩:=uX _ hb;unfold RZ at h;rw[e3,e4,e5]at h;cases h
theorem M5{b:List UInt8}(h:(RZ ⟨b,N⟩).short=N):¬b.length<4∧GS b=I ((Ef ⟨b,N⟩).writes,(RZ ⟨b,N⟩).rest)∧(V5 b:Int)=(Ef ⟨b,N⟩).turn:=by
 by_cases h4:b.length<4;·rw[eZ b h4]at h;cases h
 ·obtain⟨e0,e1,e2,e3,e4⟩:=La b h4;refine⟨h4,?_,?_⟩;(·cases hb:GS b with|none=>have:=DD _ hb;unfold RZ at h;rw[e3,e4,this]at h;cases h|some q=>obtain⟨ws,l⟩:=q;obtain⟨e5,e6⟩:=uX _ hb;unfold RZ Ef;rw[e3,e4,e5,e6]);·unfold Ef;rw[e0,e1,e2];rfl
theorem dC{b:List UInt8}(h0:¬4000<b.length)(h:(RZ ⟨b,N⟩).short=N)(hr:(RZ ⟨b,N⟩).rest.length≠0):YI b=4∧JB b=Zk:=by
 obtain⟨h4,hb,_⟩:=M5 h;exact Ll h0 h4 hb hr
theorem cS{b:List UInt8}(h0:¬4000<b.length)(h:(RZ ⟨b,N⟩).short=N)(hr:(RZ ⟨b,N⟩).rest.length=0):YI b=Q9 (Ef ⟨b,N⟩)∧(YI b=0->JB b=Ef ⟨b,N⟩)∧(YI b≠0->JB b=Zk):=by
 obtain⟨h4,hb,ht⟩:=M5 h;have:=Wh h0 h4 hb hr;rw[ht]at this;exact this
theorem ZA(w:F)(o:Obj):∃W:F,Hid (W=w.alloc o)∧L w W G∧Hid (W.heap[w.heap.size]?=I o):=⟨w.alloc o,rfl,sQ _ _ _,oH w o⟩
theorem jR(w:F)(b i:Nat)(u:H):∃W:F,Hid (W=tC w ⟨b,i,G⟩ u)∧L w W (I b):=⟨_,rfl,YK w b i u⟩
theorem gP:(236:Nat)≠5:=by
 decide
theorem dN:(236:Nat)≠97:=by
 decide
theorem Qe.rdr{w w':F}{b:Nat}{a0:Option rU}{n0 c0:Nat}{s:Bool}{t:tV}{v:H}{bs:List UInt8}(h:Qe w v bs)(hb:w.heap[b]?=I (O #[J a0 n0 c0,tN s] t))(hg:L w w' (I b)):Qe w' v bs:=by
 obtain⟨a,cap,rfl,hc,h⟩:=h;refine⟨a,cap,rfl,hc,?_⟩;rcases h with h|⟨pb,o,rfl,h⟩;·exact .inl h
 ·by_cases h0:bs=[];(·exact .inl ⟨h0,fun e=>by cases e⟩);·refine .inr ⟨pb,o,rfl,h.grown hg ?_⟩;intro e;cases e;have hc0:=h 0 (rV.2 h0);simp only[tW,hb,Nat.add_zero]at hc0;match o,hc0 with|0,hc0=>simp at hc0|1,hc0=>simp at hc0|o+2,hc0=>simp at hc0
structure Zc (w0 w : F) (b : Nat) (r : Vk) : Prop where
  at_ : ∃ a cap, w.heap[b]? = I (O #[J a r.rest.length cap, tN r.short] 236) ∧ Qe w0 (J a r.rest.length cap) r.rest
  old : ∃ a n c s, w0.heap[b]? = I (O #[J a n c, tN s] 236)
  grown : L w0 w (I b)
theorem Zc.lt{w0 w:F}{b:Nat}{r:Vk}(h:Zc w0 w b r):b<w.heap.size:=by
 obtain⟨a,cap,h,_⟩:=h.at_;exact(tH.1 h).1
theorem Zc.now{w0 w:F}{b:Nat}{r:Vk}(h:Zc w0 w b r){v:H}{bs:List UInt8}(hv:Qe w0 v bs):Qe w v bs:=by
 obtain⟨a,n,c,s,h0⟩:=h.old;exact hv.rdr h0 h.grown
theorem Zc.row{w0 w:F}{b:Nat}{r:Vk}(h:Zc w0 w b r):I b=G∨∃g cur t fz,I b=I g∧0<=g∧w.heap[g]?=I (O cur t fz)∧t≠5:=by
 obtain⟨a,cap,h,_⟩:=h.at_;exact .inr ⟨b,_,_,_,rfl,tQ _,h,gP⟩
theorem Qj.rdr{w0 w w':F}{b:Nat}{r:Vk}{v:H}{bs:List UInt8}(h:Qj 0 w v bs)(hb:Zc w0 w b r)(hg:L w w' (I b)):Qj 0 w' v bs:=h.keptT hg hb.row
theorem Xp{w w':F}(hg:L w w' G)(r:Option Nat):L w w' r:=⟨hg.os,hg.tape,hg.output,hg.size,fun i hi _=>hg.block i hi (by
 simp)⟩
theorem Zc.kept{w0 w w':F}{b:Nat}{r:Vk}(h:Zc w0 w b r)(hg:L w w' G):Zc w0 w' b r:=by
 have hl:=h.lt;obtain⟨a,cap,h1,hs⟩:=h.at_;exact⟨⟨a,cap,by rw[hg.block b hl (by simp)];exact h1,hs⟩,h.old,Qa h.grown (Xp hg _)⟩
theorem Xb{w w':F}{b:Nat}(hg:L w w' (I b)){c:Nat}{o:Obj}(hc:w.heap[c]?=I o)(hne:c≠b):w'.heap[c]?=I o:=by
 rw[hg.block c (tH.1 hc).1 (by simpa using hne)];exact hc
theorem Zc.apart{w0 w w':F}{b:Nat}{r:Vk}(h:Zc w0 w b r){c:Nat}(hne:b≠c)(hc:w0.heap.size<=c)(hg:L w w' (I c)):Zc w0 w' b r:=by
 have hl:=h.lt;obtain⟨a,cap,h1,hs⟩:=h.at_;exact⟨⟨a,cap,by rw[hg.block b hl (by simpa using hne)];exact h1,hs⟩,h.old,Jx h.grown hc hg⟩
theorem Q4.rdr{rb:Nat}{w0 w w':F}{b:Nat}{r:Vk}{v:H}{l:List Ze}(h:Q4 rb 0 w v l)(hb:Zc w0 w b r)(hg:L w w' (I b)):Q4 rb 0 w' v l:=by
 obtain⟨a,cap,h0,_⟩:=hb.at_;exact h.kept hg (.inr (h.ne h0 dN)) hb.row
theorem Zc.ownV{rb:Nat}{w0 w w':F}{b:Nat}{r:Vk}{v:H}{l:List Ze}(h:Zc w0 w b r)(ho:Q4 rb 0 w v l)(hb:w0.heap.size<=rb)(hg:L w w' v.ownBlock):Zc w0 w' b r:=by
 obtain⟨a,cap,h1,hs⟩:=h.at_;have hne:=ho.ne h1 dN;cases hv:v.ownBlock with|none=>rw[hv]at hg;exact h.kept hg|some g=>rw[hv]at hg hne;exact h.apart (c:=g) (fun e=>hne (by rw[e])) (tP hb (ho.lt g hv).1) hg
section
open Go.ChangeShapes Go.WideShapes Go.ChangeAt Go.RowKit
theorem iJ:ownKnob S.godebug=G:=by
 kernel_rfl
theorem gW:laidOutB S=M:=by
 kernel_rfl
theorem VS{n:Int}(h:(Lit.int tE n).wf=M):-9223372036854775808<=n∧n<=9223372036854775807:=bounds_i64 h
theorem gE{w w':F}(h:L w w' G):Below w.heap.size w w':=⟨h.os,h.tape,h.output,h.size,fun k hk=>h.block k hk (by
 simp)⟩
end
structure Rq where
  kind : Int
  name : List UInt8
  key : List UInt8
  last : List UInt8
  value : List UInt8
def V3:Rq:=⟨0,[],[],[],[]⟩
def QY(k:Int):Bool:=tD (2<=k∧k<=5)||tD (k=8)
def yH(r:Rq):Int:=if QY r.kind=M then(if Qt r.name.length=0then(if Qp r.key.length=0then(if r.kind=3then Qp r.last.length else 0)else Qp r.key.length)else Qt r.name.length)else 0
def Rm(r:Rq):Int:=if QY r.kind=N∧0<r.name.length+r.key.length then 4 else if(r.kind≠3∧0<r.last.length)∨(r.kind≠4∧0<r.value.length)then 4 else 0
def Yo(r:Rq):Int:=if 1<=r.kind∧r.kind<=8then(if yH r=0then(if 32<r.value.length then 1 else Rm r)else yH r)else 5
structure Jd(r:Rq):Prop where kind:1<=r.kind∧r.kind<=8name:QY r.kind=M->1<=r.name.length∧r.name.length<=8key:QY r.kind=M->1<=r.key.length∧r.key.length<=16last:r.kind=3->1<=r.last.length∧r.last.length<=16value:r.value.length<=32noName:QY r.kind=N->r.name=[]noKey:QY r.kind=N->r.key=[]noLast:r.kind≠3->r.last=[]noValue:r.kind≠4->r.value=[]
theorem Fc(r:Rq):yH r=0↔(QY r.kind=M->(1<=r.name.length∧r.name.length<=8)∧(1<=r.key.length∧r.key.length<=16)∧(r.kind=3->1<=r.last.length∧r.last.length<=16)):=by
 unfold yH;by_cases h:QY r.kind=M;·rw[if_pos h];by_cases h1:Qt r.name.length=0;(·rw[if_pos h1];by_cases h2:Qp r.key.length=0;(·rw[if_pos h2];by_cases h3:r.kind=3;(·rw[if_pos h3,Zu];exact⟨fun e _=>⟨(Zw _).1 h1,(Zu _).1 h2,fun _=>e⟩,fun e=>(e h).2.2 h3⟩);·rw[if_neg h3];exact⟨fun _ _=>⟨(Zw _).1 h1,(Zu _).1 h2,fun e=>absurd e h3⟩,fun _=>rfl⟩);·rw[if_neg h2];exact⟨fun e=>absurd e h2,fun e=>(Zu _).2 (e h).2.1⟩);·rw[if_neg h1];exact⟨fun e=>absurd e h1,fun e=>(Zw _).2 (e h).1⟩
 ·rw[if_neg h];exact⟨fun _ e=>absurd e h,fun _=>rfl⟩
theorem cI{l:List UInt8}(h:¬0<l.length):l=[]:=tG (by
 omega)
theorem As(r:Rq):Rm r=0↔(QY r.kind=N->r.name=[]∧r.key=[])∧(r.kind≠3->r.last=[])∧(r.kind≠4->r.value=[]):=by
 unfold Rm;by_cases h1:QY r.kind=N∧0<r.name.length+r.key.length;·rw[if_pos h1];refine⟨fun e=>(by cases e),fun e=>?_⟩;have:=e.1 h1.1;rw[this.1,this.2]at h1;simp at h1
 ·rw[if_neg h1];by_cases h2:(r.kind≠3∧0<r.last.length)∨(r.kind≠4∧0<r.value.length);(·rw[if_pos h2];refine⟨fun e=>(by cases e),fun e=>?_⟩;rcases h2 with h2|h2;(·rw[e.2.1 h2.1]at h2;simp at h2);·rw[e.2.2 h2.1]at h2;simp at h2);·rw[if_neg h2];refine⟨fun _=>⟨fun h=>?_,fun h=>cI fun e=>h2 (.inl ⟨h,e⟩),fun h=>cI fun e=>h2 (.inr ⟨h,e⟩)⟩,fun _=>rfl⟩;have hz:¬0<r.name.length+r.key.length:=fun e=>h1 ⟨h,e⟩;exact⟨cI (by omega),cI (by omega)⟩
theorem YE(r:Rq):Yo r=0↔Jd r:=by
 unfold Yo;by_cases h0:1<=r.kind∧r.kind<=8;·rw[if_pos h0];by_cases h1:yH r=0;(·rw[if_pos h1];have hp:=(Fc r).1 h1;by_cases h2:32<r.value.length;(·rw[if_pos h2];exact⟨fun e=>(by cases e),fun e=>by have:=e.value;omega⟩);·rw[if_neg h2,As];refine⟨fun⟨e1,e2,e3⟩=>⟨h0,fun h=>(hp h).1,fun h=>(hp h).2.1,fun h=>(hp (by rw[h];decide)).2.2 h,by omega,fun h=>(e1 h).1,fun h=>(e1 h).2,e2,e3⟩,fun e=>⟨fun h=>⟨e.noName h,e.noKey h⟩,e.noLast,e.noValue⟩⟩);·rw[if_neg h1];refine⟨fun e=>absurd e h1,fun e=>(Fc r).2 fun h=>⟨e.name h,e.key h,e.last⟩⟩
 ·rw[if_neg h0];exact⟨fun e=>(by cases e),fun e=>absurd e.kind h0⟩
def Xm(c:Bool)(p:List UInt8):List UInt8:=if c=M then XK p else[]
def Jh(c:Bool)(r:List UInt8):Option (List UInt8×List UInt8):=if c=M then Zt r else I ([],r)
theorem yE(c:Bool)(p r:List UInt8)(h:c=M->p.length<256)(h0:c=N->p=[]):Jh c (Xm c p++r)=I (p,r):=by
 cases c with|true=>exact Vj p r (h rfl)|false=>rw[h0 rfl];rfl
theorem VL{c:Bool}{r p r2:List UInt8}(h:Jh c r=I (p,r2)):r=Xm c p++r2:=by
 cases c with|true=>exact Gi h|false=>(obtain⟨rfl,rfl⟩:[]=p∧r=r2:=by simpa[Jh]using h);rfl
theorem yU{c:Bool}{r p r2:List UInt8}(h:Jh c r=I (p,r2))(x:List UInt8):Jh c (r++x)=I (p,r2++x):=by
 cases c with|true=>exact Bp h x|false=>(obtain⟨rfl,rfl⟩:[]=p∧r=r2:=by simpa[Jh]using h);rfl
theorem We{c:Bool}{r p r2:List UInt8}(h:Jh c r=I (p,r2))(hc:c=N):p=[]:=by
 subst hc;have:[]=p∧r=r2:=by simpa[Jh]using h
 exact this.1.symm
def zD(r:Rq):List UInt8:=Xm (QY r.kind) r.name++(Xm (QY r.kind) r.key++(Xm (tD (r.kind=3)) r.last++Xm (tD (r.kind=4)) r.value))
def Vl(r:Rq):List UInt8:=sF r.kind.toNat::zD r
def Vf(k:Int)(n q l r:List UInt8):Option (Rq×List UInt8):=match Jh (tD (k=4)) r with|I (v,r2)=>I (⟨k,n,q,l,v⟩,r2)|none=>G
def Vg(k:Int)(n q r:List UInt8):Option (Rq×List UInt8):=match Jh (tD (k=3)) r with|I (l,r2)=>Vf k n q l r2|none=>G
def Ve(k:Int)(n r:List UInt8):Option (Rq×List UInt8):=match Jh (QY k) r with|I (q,r2)=>Vg k n q r2|none=>G
def X9(k:Int)(r:List UInt8):Option (Rq×List UInt8):=match Jh (QY k) r with|I (n,r2)=>Ve k n r2|none=>G
theorem L7{r:Rq}(h:Jd r)(x:List UInt8):X9 r.kind (zD r++x)=I (r,x):=by
 have e1:=yE (QY r.kind) r.name (Xm (QY r.kind) r.key++(Xm (tD (r.kind=3)) r.last++(Xm (tD (r.kind=4)) r.value++x))) (fun e=>by have:=h.name e;omega) h.noName;have e2:=yE (QY r.kind) r.key (Xm (tD (r.kind=3)) r.last++(Xm (tD (r.kind=4)) r.value++x)) (fun e=>by have:=h.key e;omega) h.noKey;have e3:=yE (tD (r.kind=3)) r.last (Xm (tD (r.kind=4)) r.value++x) (fun e=>by have:=h.last (by simpa using e);omega) (fun e=>h.noLast (by simpa using e));have e4:=yE (tD (r.kind=4)) r.value x (fun _=>by have:=h.value;omega) (fun e=>h.noValue (by simpa using e));rw[zD,rK,rK,rK,X9,e1];show Ve _ _ _=_;rw[Ve,e2];show Vg _ _ _ _=_;rw[Vg,e3];show Vf _ _ _ _ _=_;rw[Vf,e4]
theorem kJ{k:Int}{b x:List UInt8}{r:Rq}(h:X9 k b=I (r,x)):r.kind=k∧∃r1 r2 r3,Jh (QY k) b=I (r.name,r1)∧Jh (QY k) r1=I (r.key,r2)∧Jh (tD (k=3)) r2=I (r.last,r3)∧Jh (tD (k=4)) r3=I (r.value,x):=by
 rw[X9]at h;match h1:Jh (QY k) b with|none=>rw[h1]at h;cases h|I (n,r1)=>rw[h1]at h;replace h:Ve k n r1=I (r,x):=h;rw[Ve]at h;match h2:Jh (QY k) r1 with|none=>rw[h2]at h;cases h|I (q,r2)=>rw[h2]at h;replace h:Vg k n q r2=I (r,x):=h;rw[Vg]at h;match h3:Jh (tD (k=3)) r2 with|none=>rw[h3]at h;cases h|I (l,r3)=>rw[h3]at h;replace h:Vf k n q l r3=I (r,x):=h;rw[Vf]at h;match h4:Jh (tD (k=4)) r3 with|none=>rw[h4]at h;cases h|I (v,r4)=>rw[h4]at h;(obtain⟨rfl,rfl⟩:(⟨k,n,q,l,v⟩:Rq)=r∧r4=x:=by simpa using h);exact⟨rfl,r1,r2,r3,rfl,h2,h3,h4⟩
theorem aU{k:Int}{b r1 r2 r3 x n q l v:List UInt8}(h1:Jh (QY k) b=I (n,r1))(h2:Jh (QY k) r1=I (q,r2))(h3:Jh (tD (k=3)) r2=I (l,r3))(h4:Jh (tD (k=4)) r3=I (v,x)):X9 k b=I (⟨k,n,q,l,v⟩,x):=by
 rw[X9,h1];show Ve _ _ _=_;rw[Ve,h2];show Vg _ _ _ _=_;rw[Vg,h3];show Vf _ _ _ _ _=_;rw[Vf,h4]
theorem Td{k:Int}{b x:List UInt8}{r:Rq}(h:X9 k b=I (r,x)):b=zD r++x∧r.kind=k:=by
 obtain⟨hk,r1,r2,r3,h1,h2,h3,h4⟩:=kJ h;refine⟨?_,hk⟩;rw[zD,hk,VL h1,VL h2,VL h3,VL h4];simp[rK]
theorem L6{k:Int}{b y:List UInt8}{r:Rq}(h:X9 k b=I (r,y))(x:List UInt8):X9 k (b++x)=I (r,y++x):=by
 obtain⟨hk,r1,r2,r3,h1,h2,h3,h4⟩:=kJ h;have:=aU (yU h1 x) (yU h2 x) (yU h3 x) (yU h4 x);rw[this,<-hk]
def Un(b:List UInt8):Int:=((b.getD 0 0).toNat:Int)
def QK(b:List UInt8):Int:=if 4000<b.length then 1 else if b.length=0then 14 else if 1<=Un b∧Un b<=8then(match X9 (Un b) (b.drop 1)with|none=>14|I (r,x)=>if x.length=0then Yo r else 4)else 5
def Qu(b:List UInt8):Rq:=if QK b=0then(match X9 (Un b) (b.drop 1)with|I (r,_)=>r|none=>V3)else V3
theorem Hj{r:Rq}(h:Jd r)(x:List UInt8):Un (Vl r++x)=r.kind∧(Vl r++x).drop 1=zD r++x:=by
 have h0:=h.kind;refine⟨?_,rfl⟩;show(((sF r.kind.toNat).toNat:Nat):Int)=r.kind;simp;omega
theorem KV(c:Bool)(p:List UInt8):(Xm c p).length<=p.length+1:=by
 cases c with|true=>exact tX _|false=>exact tQ _
theorem MP{r:Rq}(h:Jd r):(Vl r).length<=78∧1<=(Vl r).length:=by
 have l1:=KV (QY r.kind) r.name;have l2:=KV (QY r.kind) r.key;have l3:=KV (tD (r.kind=3)) r.last;have l4:=KV (tD (r.kind=4)) r.value;have k1:r.name.length<=8:=by by_cases e:QY r.kind=M;(·exact(h.name e).2);·rw[h.noName (by simpa using e)];simp
 have k2:r.key.length<=16:=by by_cases e:QY r.kind=M;(·exact(h.key e).2);·rw[h.noKey (by simpa using e)];simp
 have k3:r.last.length<=16:=by by_cases e:r.kind=3;(·exact(h.last e).2);·rw[h.noLast e];simp
 have k4:=h.value;have e:(Vl r).length=1+(Xm (QY r.kind) r.name).length+(Xm (QY r.kind) r.key).length+(Xm (tD (r.kind=3)) r.last).length+(Xm (tD (r.kind=4)) r.value).length:=by rw[Vl,zD,sJ,tA,tA,tA];omega
 omega
theorem fV{r:Rq}(h:Jd r)(k:Nat)(hk:k<(Vl r).length):QK ((Vl r).take k)=14:=by
 have hl2:=MP h;have hlen:((Vl r).take k).length=k:=by rw[rF];omega
 rw[QK,if_neg (by omega)];by_cases h0:k=0;·rw[if_pos (by omega)]
 ·rw[if_neg (by omega)];have hsp:(Vl r).take k++(Vl r).drop k=Vl r:=rP _ _;(have hkd:Un ((Vl r).take k)=r.kind:=by obtain⟨e1,_⟩:=Hj h [];rw[tU]at e1;rw[<-e1];match k,h0 with|k+1,_=>rfl);rw[hkd,if_pos h.kind];match hD:X9 r.kind (((Vl r).take k).drop 1)with|none=>rfl|I (r',y)=>have hm:=L6 hD ((Vl r).drop k);(have hd:((Vl r).take k).drop 1++(Vl r).drop k=zD r:=by match k,h0 with|k+1,_=>show(zD r).take k++(zD r).drop k=zD r;exact rP _ _);rw[hd]at hm;have hb:=L7 h [];rw[tU,hm]at hb;(have he:y++(Vl r).drop k=[]:=by have:=congrArg (fun o=>o.map Prod.snd) hb;simpa using this);have:=congrArg List.length he;rw[tA,pH]at this;simp at this;omega
theorem Yn{b:List UInt8}(h:QK b=0):Yo (Qu b)=0∧Vl (Qu b)=b:=by
 have h':=h;rw[QK]at h;by_cases h1:4000<b.length;·rw[if_pos h1]at h;cases h
 ·rw[if_neg h1]at h;by_cases h2:b.length=0;(·rw[if_pos h2]at h;cases h);·rw[if_neg h2]at h;by_cases h3:1<=Un b∧Un b<=8;(·rw[if_pos h3]at h;match hD:X9 (Un b) (b.drop 1)with|none=>rw[hD]at h;cases h|I (r,x)=>rw[hD]at h;replace h:(if x.length=0then Yo r else 4)=0:=h;by_cases hx:x.length=0;(·rw[if_pos hx]at h;(have hr:Qu b=r:=by rw[Qu,if_pos h',hD]);rw[hr];refine⟨h,?_⟩;obtain⟨f1,f2⟩:=Td hD;rw[tG hx,tU]at f1;rw[Vl,<-f1,f2];match b,h2 with|c::b,_=>show sF ((c.toNat:Nat):Int).toNat::b=c::b;simp);·rw[if_neg hx]at h;cases h);·rw[if_neg h3]at h;cases h
theorem yT{b:List UInt8}(h:QK b≠0):Qu b=V3:=by
 rw[Qu,if_neg h]
def XD(w:F)(v:H)(r:Rq):Prop:=∃vn vk vl vv,v=sH #[Y tE r.kind,vn,vk,vl,vv]∧Qe w vn r.name∧Qe w vk r.key∧Qe w vl r.last∧Qe w vv r.value
theorem XD.grown{w w':F}{v:H}{r:Rq}(h:XD w v r)(hg:L w w' G):XD w' v r:=by
 obtain⟨vn,vk,vl,vv,rfl,h1,h2,h3,h4⟩:=h;exact⟨vn,vk,vl,vv,rfl,h1.grown hg,h2.grown hg,h3.grown hg,h4.grown hg⟩
theorem XD.agg{w:F}{v:H}{r:Rq}(h:XD w v r):∃n1 n2 k1 k2 l1 l2 v1 v2,v=sH #[Y tE r.kind,J n1 r.name.length n2,J k1 r.key.length k2,J l1 r.last.length l2,J v1 r.value.length v2]:=by
 obtain⟨vn,vk,vl,vv,rfl,h1,h2,h3,h4⟩:=h;obtain⟨n1,n2,rfl⟩:=h1.shape;obtain⟨k1,k2,rfl⟩:=h2.shape;obtain⟨l1,l2,rfl⟩:=h3.shape;obtain⟨v1,v2,rfl⟩:=h4.shape;exact⟨n1,n2,k1,k2,l1,l2,v1,v2,rfl⟩
theorem XD.parts{w:F}{r:Rq}{x a b c d:H}(h:XD w (sH #[x,a,b,c,d]) r):x=Y tE r.kind∧Qe w a r.name∧Qe w b r.key∧Qe w c r.last∧Qe w d r.value:=by
 obtain⟨vn,vk,vl,vv,e,h1,h2,h3,h4⟩:=h;simp only[pE,pI,rY,and_true]at e;obtain⟨rfl,rfl,rfl,rfl,rfl⟩:=e;exact⟨rfl,h1,h2,h3,h4⟩
theorem uN(w:F):XD w (sH #[Y tE 0,J G 0 0,J G 0 0,J G 0 0,J G 0 0]) V3:=⟨_,_,_,_,rfl,QD w,QD w,QD w,QD w⟩
structure xY(r:Rq):Prop where kind:-9223372036854775808<=r.kind∧r.kind<=9223372036854775807name:r.name.length<=140737488355328key:r.key.length<=140737488355328last:r.last.length<=140737488355328value:r.value.length<=140737488355328
theorem yB{r:Rq}(h:Jd r):xY r:=by
 have h0:=h.kind;have h5:=h.value;have k1:r.name.length<=8:=by by_cases e:QY r.kind=M;(·exact(h.name e).2);·rw[h.noName (by simpa using e)];simp
 have k2:r.key.length<=16:=by by_cases e:QY r.kind=M;(·exact(h.key e).2);·rw[h.noKey (by simpa using e)];simp
 have k3:r.last.length<=16:=by by_cases e:r.kind=3;(·exact(h.last e).2);·rw[h.noLast e];simp
 exact⟨by omega,by omega,by omega,by omega,by omega⟩
theorem Qq{W w:F}{b:Nat}{x y z u s:H}{t:tV}(hg:L W w G)(h:W.heap[b]?=I (O #[x,y,z,u,s] t)):(w.cell? ⟨b,0,G⟩=I x∧w.cell? ⟨b,1,G⟩=I y∧w.cell? ⟨b,2,G⟩=I z∧w.cell? ⟨b,3,G⟩=I u∧w.cell? ⟨b,4,G⟩=I s)∧(w.frozen? ⟨b,0,G⟩=N∧w.frozen? ⟨b,1,G⟩=N∧w.frozen? ⟨b,2,G⟩=N∧w.frozen? ⟨b,3,G⟩=N∧w.frozen? ⟨b,4,G⟩=N)∧w.heap[b]?=I (O #[x,y,z,u,s] t):=by
 have hb:w.heap[b]?=I (O #[x,y,z,u,s] t):=by rw[hg.block b (tH.1 h).1 (by simp)];exact h
 refine⟨⟨?_,?_,?_,?_,?_⟩,⟨?_,?_,?_,?_,?_⟩,hb⟩;all_goals simp[tW,rN,hb]
theorem Yl{w:F}{b i:Nat}{cs:Array H}{t:tV}{fz:Nat×Nat}{u:H}(h:w.heap[b]?=I (O cs t fz)):(tC w ⟨b,i,G⟩ u).heap[b]?=I (O (cs.setIfInBounds i u) t fz):=by
 simp only[tC,tS,if_true,h,rI];rfl
theorem qM{w:F}{b c i:Nat}{o:Obj}{u:H}(h:w.heap[b]?=I o)(hne:b≠c):(tC w ⟨c,i,G⟩ u).heap[b]?=I o:=by
 simp only[tC,tS];rw[if_neg (fun e=>hne e.symm)];exact h
abbrev It(w:F)(b:Nat)(x y z u s:H):F:=((((tC w ⟨b,0,G⟩ x).setCell ⟨b,1,G⟩ y).setCell ⟨b,2,G⟩ z).setCell ⟨b,3,G⟩ u).setCell ⟨b,4,G⟩ s
theorem uO{w:F}{b:Nat}{x y z u s:H}{t:tV}(h:w.heap[b]?=I (O #[x,y,z,u,s] t))(x' y' z' u' s':H):(It w b x' y' z' u' s').heap[b]?=I (O #[x',y',z',u',s'] t):=Yl (Yl (Yl (Yl (Yl h))))
theorem qX{w W:F}{b:Nat}(hg:L w W G)(hb:w.heap.size<=b)(x y z u s:H):L w (It W b x y z u s) G:=Qd (Qd (Qd (Qd (Qd hg _ hb _ _) _ hb _ _) _ hb _ _) _ hb _ _) _ hb _ _
theorem LN(W:F)(b:Nat)(x y z u s:H):L W (It W b x y z u s) (I b):=Qh (Qh (Qh (Qh (Qh (Qb W (I b)) _ _) _ _) _ _) _ _) _ _
abbrev V1(w:F)(b:Nat)(x y z u:H):F:=(((tC w ⟨b,0,G⟩ x).setCell ⟨b,1,G⟩ y).setCell ⟨b,2,G⟩ z).setCell ⟨b,3,G⟩ u
theorem X0{w:F}{b:Nat}{x y z u:H}{t:tV}(h:w.heap[b]?=I (O #[x,y,z,u] t))(x' y' z' u':H):(V1 w b x' y' z' u').heap[b]?=I (O #[x',y',z',u'] t):=Yl (Yl (Yl (Yl h)))
theorem Z7{w W:F}{b:Nat}(hg:L w W G)(hb:w.heap.size<=b)(x y z u:H):L w (V1 W b x y z u) G:=Qd (Qd (Qd (Qd hg _ hb _ _) _ hb _ _) _ hb _ _) _ hb _ _
theorem Yi(W:F)(b:Nat)(x y z u:H):L W (V1 W b x y z u) (I b):=Qh (Qh (Qh (Qh (Qb W (I b)) _ _) _ _) _ _) _ _
theorem Q8.later{base:Nat}{w w':F}{v:H}{bs:List UInt8}(h:Q8 base w v bs){b:Nat}(hg:L w w' (I b))(hb:b<base):Q8 base w' v bs:=by
 refine h.grown hg (.inr fun e=>?_);have:=(h.lt b e).1;omega
def ED(i:Nat):Nat:=[0,0,3,7,11,3,0,0,3].getD i 0
def UT(w:F):Prop:=∀i,i<9->w.cell? ⟨0,i,G⟩=I (Y rS ((ED i:Nat):Int))
theorem UT.grown{w w':F}(h:UT w)(hg:L w w' G):UT w':=fun i hi=>hg.cell (h i hi) (by
 simp)
def QS(k:Int):Nat->Bool|0=>QY k|1=>QY k|2=>tD (k=3)|_=>tD (k=4)
theorem dD(k j:Nat)(hk:k<9)(hj:j<4):(bits BinOp.and rS ((ED k:Nat):Int) ((2^j:Nat):Int)!=0)=QS (k:Int) j:=(by
 decide+kernel:∀(k:Fin 9)(j:Fin 4),(bits BinOp.and rS ((ED k.1:Nat):Int) ((2^j.1:Nat):Int)!=0)=QS (k.1:Int) j.1) ⟨k,hk⟩ ⟨j,hj⟩
structure Rd where
  name : List UInt8
  key : List UInt8
  wide : Bool
  last : List UInt8
def Zd:Rd:=⟨[],[],N,[]⟩
def XA(r:Rd):Int:=if Qt r.name.length=0then(if Qp r.key.length=0then(if r.wide=M then Qp r.last.length else(if 0<r.last.length then 4 else 0))else Qp r.key.length)else Qt r.name.length
theorem R9(r:Rd):XA r=0↔(1<=r.name.length∧r.name.length<=8)∧(1<=r.key.length∧r.key.length<=16)∧(if r.wide=M then 1<=r.last.length∧r.last.length<=16 else r.last=[]):=by
 unfold XA;by_cases hn:Qt r.name.length=0;·rw[if_pos hn];have hn':=(Zw _).1 hn;by_cases hk:Qp r.key.length=0;(·rw[if_pos hk];have hk':=(Zu _).1 hk;by_cases hw:r.wide=M;(·rw[if_pos hw,if_pos hw,Zu];exact⟨fun h=>⟨hn',hk',h⟩,fun h=>h.2.2⟩);·rw[if_neg hw,if_neg hw];by_cases hl:0<r.last.length;(·rw[if_pos hl];exact⟨fun h=>by omega,fun h=>by rw[h.2.2]at hl;simp at hl⟩);·rw[if_neg hl];exact⟨fun _=>⟨hn',hk',tG (by omega)⟩,fun _=>rfl⟩);·rw[if_neg hk];exact⟨fun h=>absurd h hk,fun h=>absurd ((Zu _).2 h.2.1) hk⟩
 ·rw[if_neg hn];exact⟨fun h=>absurd h hn,fun h=>absurd ((Zw _).2 h.1) hn⟩
theorem Cr{D:List UInt8->List UInt8}(hD:∀x,(D x).length=4){c:XC}(hc:Q9 c=0):6<=(ZC D c).length∧(ZC D c).length<=600:=by
 have h1:=Pg hD c;have h2:=UW hc;omega
theorem C6(D:List UInt8->List UInt8)(cs:List XC)(i:Nat)(h:i<cs.length):Q5 D (cs.take (i+1))=Q5 D (cs.take i)++ZC D (cs.getD i Zk):=by
 rw[sY h,Vt,Pb,show cs[i]=cs.getD i Zk by simp[h]]
theorem eD{D:List UInt8->List UInt8}{t:V2}(hm:Gs t=M){cs:List XC}{r:List UInt8}{n:Nat}(h:Kz D 1 t.data=(cs,r))(hn:M9 D t.data=n):RS t=0∧xX D t=cs∧zQ D t=⟨t.data.take n,if t.synced>(n:Int)then(n:Int)else t.synced⟩:=by
 refine⟨by rw[RS,if_pos hm],by rw[xX,if_pos hm,h],by rw[zQ,if_pos hm,hn]⟩
theorem I0{D:List UInt8->List UInt8}(hD:∀x,(D x).length=4){cs:List XC}(h:qQ 1 cs)(k:Nat)(s:Int)(hk:k<=(Q5 D cs).length)(hs:0<=s∧s<=(k:Int))(hl:(Q5 D cs).length<=200000):∃j,j<=cs.length∧(Q5 D (cs.take j)).length<=k∧(j<cs.length->k<(Q5 D (cs.take (j+1))).length)∧RS ⟨(Q5 D cs).take k,s⟩=0∧xX D ⟨(Q5 D cs).take k,s⟩=cs.take j∧zQ D ⟨(Q5 D cs).take k,s⟩=⟨Q5 D (cs.take j),if s>((Q5 D (cs.take j)).length:Int)then((Q5 D (cs.take j)).length:Int)else s⟩:=by
 obtain⟨j,h1,h2,h3,h4,h5⟩:=Cn hD h k;have hkl:((Q5 D cs).take k).length=k:=by simp;omega
 have hm:Gs ⟨(Q5 D cs).take k,s⟩=M:=(Ky _).2 ⟨by show((Q5 D cs).take k).length<=_;omega,by show 0<=s∧s<=(((Q5 D cs).take k).length:Int);omega⟩;have hn:M9 D ((Q5 D cs).take k)=(Q5 D (cs.take j)).length:=by rw[M9,h2,hkl];show k-(((Q5 D cs).take k).drop _).length=_;rw[pH,hkl];omega
 obtain⟨a,b,c⟩:=eD hm h2 hn;refine⟨j,h1,h3,h5,a,b,?_⟩;rw[c];have e:((Q5 D cs).take k).take (Q5 D (cs.take j)).length=Q5 D (cs.take j):=by rw[pY,pZ h3];(conv=>lhs;rw[<-rP j cs,Vt]);rw[show(cs.take j++cs.drop j).take j=cs.take j by rw[rP]];exact List.take_left' rfl
 show(⟨((Q5 D cs).take k).take _,_⟩:V2)=_;rw[e]
def IC:FL->Nat->List XC->Int|_,_,[]=>0|f,i,c::cs=>if Q9 c=0then(if c.turn=((i+1:Nat):Int)then(if QZ f c.writes=0then IC (Xt f c.writes) (i+1) cs else QZ f c.writes)else 3)else Q9 c
def G2:FL->List XC->FL|f,[]=>f|f,c::cs=>G2 (Xt f c.writes) cs
theorem vF:∀(a b:List XC)(f:FL),G2 f (a++b)=G2 (G2 f a) b|[],_,_=>rfl|_::a,b,_=>vF a b _
theorem Ar(cs:List XC)(f:FL)(c:XC):G2 f (cs++[c])=Xt (G2 f cs) c.writes:=by
 rw[vF];rfl
def uU:FL->Nat->List XC->Prop|_,_,[]=>True|f,i,c::cs=>Q9 c=0∧c.turn=((i+1:Nat):Int)∧QZ f c.writes=0∧uU (Xt f c.writes) (i+1) cs
theorem uU.take:∀{cs:List XC}{f:FL}{i:Nat}(_:uU f i cs)(j:Nat),uU f i (cs.take j)|[],_,_,_,j=>by rw[List.take_nil];trivial|_::_,_,_,_,0=>trivial|_::_,_,_,h,j+1=>⟨h.1,h.2.1,h.2.2.1,uU.take h.2.2.2 j⟩
theorem uU.at:∀{cs:List XC}{f:FL}{i:Nat}(_:uU f i cs)(j:Nat)(_:j<cs.length),Q9 (cs.getD j Zk)=0∧(cs.getD j Zk).turn=((i+j+1:Nat):Int)∧QZ (G2 f (cs.take j)) (cs.getD j Zk).writes=0|[],_,_,_,j,hj=>by simp at hj|c::cs,f,i,h,0,_=>⟨h.1,h.2.1,h.2.2.1⟩|c::cs,f,i,h,j+1,hj=>by have:=uU.at h.2.2.2 j (by simpa using hj);rw[show i+(j+1)+1=i+1+j+1by omega];simpa[G2]using this
theorem Fi{l:FL}(h:Xo l)(ws:List Ze):Xo (Xt l ws):=by
 unfold Xt;by_cases h0:QZ l ws=0;·rw[if_pos h0];unfold QZ at h0;rw[if_pos ((XY l).2 h)]at h0;by_cases h10:10<ws.length;(·rw[if_pos h10]at h0;omega);·rw[if_neg h10]at h0;exact uW ws l h h0
 ·rw[if_neg h0];exact qE
theorem uP:∀(cs:List XC)(f:FL),Xo f->Xo (G2 f cs)|[],_,h=>h|c::cs,_,h=>uP cs _ (Fi h c.writes)
def ZH(n t:Int):Bool:=tD (0<=t∧t<=n∧n-t<6)
def TJ(a b:Ze):Prop:=a.name=b.name∧a.key=b.key
def EU(l:List Ze):Prop:=l.Pairwise fun a b=>¬TJ a b
def XE(a b:Rd):Bool:=a.wide==b.wide&&(tD (a.name=b.name)&&(tD (a.key=b.key)&&tD (a.last=b.last)))
theorem qG(a b:Rd):XE a b=M↔a=b:=by
 obtain⟨n,k,w,l⟩:=a;obtain⟨n2,k2,w2,l2⟩:=b;simp only[XE,rO,decide_eq_true_iff,beq_iff_eq,Rd.mk.injEq];exact⟨fun⟨h1,h2,h3,h4⟩=>⟨h2,h3,h1,h4⟩,fun⟨h1,h2,h3,h4⟩=>⟨h3,h1,h2,h4⟩⟩
def ZM(a b:Ze):Bool:=tD (a.name=b.name)&&tD (a.key=b.key)
theorem qP(a b:Ze):ZM a b=M↔TJ a b:=by
 simp only[ZM,rO,decide_eq_true_iff];exact Iff.rfl
def GM:List Rd->List Rd->Int|_,[]=>0|p,r::rs=>if XA r=0then(if p.any (fun q=>XE q r)=M then 3 else GM (p++[r]) rs)else XA r
def xJ:List Ze->List Ze->Int|_,[]=>0|p,w::ws=>if QC w=0then(if p.any (fun q=>ZM q w)=M then 3 else xJ (p++[w]) ws)else QC w
theorem F3:∀(rs p:List Rd),GM p rs=0↔(∀r∈rs,XA r=0)∧(∀r∈rs,r∉p)∧rs.Nodup|[],p=>by simp[GM]|r::rs,p=>by have ih:=F3 rs (p++[r]);rw[GM];by_cases h1:XA r=0;(·rw[if_pos h1];by_cases h2:p.any (fun q=>XE q r)=M;(·rw[if_pos h2];refine⟨fun h=>by omega,fun h=>?_⟩;obtain⟨q,hq,he⟩:=rG.1 h2;rw[(qG q r).1 he]at hq;exact absurd hq (h.2.1 r (sN ..)));·rw[if_neg h2,ih];have hr:r∉p:=fun hm=>h2 (rG.2 ⟨r,hm,(qG r r).2 rfl⟩);constructor;(·rintro⟨a,b,c⟩;refine⟨fun x hx=>?_,fun x hx=>?_,pW.2 ⟨fun hm=>b r hm (by simp),c⟩⟩;(·rcases tJ.1 hx with rfl|hx;(·exact h1);·exact a x hx);·rcases tJ.1 hx with rfl|hx;(·exact hr);·exact fun hm=>b x hx (tY.2 (.inl hm)));·rintro⟨a,b,c⟩;have c':=pW.1 c;refine⟨fun x hx=>a x (sE _ hx),fun x hx hm=>?_,c'.2⟩;rcases tY.1 hm with hm|hm;(·exact b x (sE _ hx) hm);·simp only[tJ,tM,or_false]at hm;subst hm;exact c'.1 hx);·rw[if_neg h1];exact⟨fun h=>absurd h h1,fun h=>absurd (h.1 r (sN ..)) h1⟩
theorem MS:∀(ws p:List Ze),xJ p ws=0↔(∀w∈ws,QC w=0)∧(∀w∈ws,∀q∈p,¬TJ q w)∧EU ws|[],p=>by simp[xJ,EU]|w::ws,p=>by have ih:=MS ws (p++[w]);rw[xJ];by_cases h1:QC w=0;(·rw[if_pos h1];by_cases h2:p.any (fun q=>ZM q w)=M;(·rw[if_pos h2];refine⟨fun h=>by omega,fun h=>?_⟩;obtain⟨q,hq,he⟩:=rG.1 h2;exact absurd ((qP q w).1 he) (h.2.1 w (sN ..) q hq));·rw[if_neg h2,ih];have hr:∀q∈p,¬TJ q w:=fun q hm e=>h2 (rG.2 ⟨q,hm,(qP q w).2 e⟩);constructor;(·rintro⟨a,b,c⟩;refine⟨fun x hx=>?_,fun x hx q hq=>?_,rA.2 ⟨fun x hx=>b x hx w (by simp),c⟩⟩;(·rcases tJ.1 hx with rfl|hx;(·exact h1);·exact a x hx);·rcases tJ.1 hx with rfl|hx;(·exact hr q hq);·exact b x hx q (tY.2 (.inl hq)));·rintro⟨a,b,c⟩;have c':=rA.1 c;refine⟨fun x hx=>a x (sE _ hx),fun x hx q hm=>?_,c'.2⟩;rcases tY.1 hm with hm|hm;(·exact b x (sE _ hx) q hm);·simp only[tJ,tM,or_false]at hm;subst hm;exact c'.1 x hx);·rw[if_neg h1];exact⟨fun h=>absurd h h1,fun h=>absurd (h.1 w (sN ..)) h1⟩
structure Tx where
  start : Int
  reads : List Rd
  writes : List Ze
def Fh:Tx:=⟨0,[],[]⟩
def Gd(t:Tx):Int:=if 0<=t.start∧t.start<=1048576then(if 20<t.reads.length∨10<t.writes.length then 1 else(if GM [] t.reads=0then xJ [] t.writes else GM [] t.reads))else 2
structure G9 (t : Tx) : Prop where
  start : 0 <= t.start ∧ t.start <= 1048576
  reads : t.reads.length <= 20
  writes : t.writes.length <= 10
  each : ∀ r ∈ t.reads, XA r = 0
  once : t.reads.Nodup
  wrs : ∀ w ∈ t.writes, QC w = 0
  apart : EU t.writes
theorem kK(t:Tx):Gd t=0↔G9 t:=by
 unfold Gd;by_cases h1:0<=t.start∧t.start<=1048576;·rw[if_pos h1];by_cases h2:20<t.reads.length∨10<t.writes.length;(·rw[if_pos h2];exact⟨fun h=>by omega,fun h=>by have:=h.reads;have:=h.writes;omega⟩);·rw[if_neg h2];by_cases h3:GM [] t.reads=0;(·rw[if_pos h3,MS];have h3':=(F3 _ _).1 h3;exact⟨fun h=>⟨h1,by omega,by omega,h3'.1,h3'.2.2,h.1,h.2.2⟩,fun h=>⟨h.wrs,fun _ _ _ hq=>by simp at hq,h.apart⟩⟩);·rw[if_neg h3];exact⟨fun h=>absurd h h3,fun h=>absurd ((F3 _ _).2 ⟨h.each,fun _ _ hq=>by simp at hq,h.once⟩) h3⟩
 ·rw[if_neg h1];exact⟨fun h=>by omega,fun h=>absurd h.start h1⟩
def RQ(t:Tx)(r:Rd):Bool:=t.reads.any (fun q=>XE q r)
theorem IG(t:Tx)(r:Rd):RQ t r=M↔r∈t.reads:=by
 unfold RQ;rw[rG];exact⟨fun⟨q,hq,e⟩=>(qG q r).1 e▸hq,fun h=>⟨r,h,(qG r r).2 rfl⟩⟩
def Xl(t:Tx)(r:Rd):Int:=if Gd t=0then(if XA r=0then(if RQ t r=M then 0 else(if t.reads.length=20then 11 else 0))else XA r)else Gd t
def X5(t:Tx)(r:Rd):Tx:=if Xl t r=0then(if RQ t r=M then t else⟨t.start,t.reads++[r],t.writes⟩)else Fh
theorem dG{t:Tx}(h:G9 t){r:Rd}(hr:XA r=0):Xl t r=if RQ t r=M then 0 else(if t.reads.length=20then 11 else 0):=by
 rw[Xl,if_pos ((kK t).2 h),if_pos hr]
theorem bY{t:Tx}(h:G9 t){r:Rd}(hr:XA r=0)(he:Xl t r=0):G9 (X5 t r):=by
 rw[X5,if_pos he];by_cases hh:RQ t r=M;·rw[if_pos hh];exact h
 ·rw[if_neg hh];rw[dG h hr,if_neg hh]at he;have hm:r∉t.reads:=fun e=>hh ((IG t r).2 e);(have h20:t.reads.length≠20:=fun e=>by rw[if_pos e]at he;omega);refine⟨h.start,?_,h.writes,fun x hx=>?_,?_,h.wrs,h.apart⟩;(·have:=h.reads;simp;omega);(·rcases tY.1 hx with hx|hx;(·exact h.each x hx);·simp only[tJ,tM,or_false]at hx;rw[hx];exact hr);·rw[pQ];refine⟨h.once,by simp,fun a ha b hb e=>?_⟩;simp only[tJ,tM,or_false]at hb;subst hb;subst e;exact hm ha
def Ff(l:List Ze)(w:Ze):Bool:=l.any (fun q=>ZM q w)
def zP:List Ze->Ze->List Ze|[],w=>[w]|a::l,w=>if ZM a w=M then w::l else a::zP l w
def Xg(t:Tx)(w:Ze):Int:=if Gd t=0then(if QC w=0then(if Ff t.writes w=M then 0 else(if t.writes.length=10then 11 else 0))else QC w)else Gd t
def Yd(t:Tx)(w:Ze):Tx:=if Xg t w=0then⟨t.start,t.reads,zP t.writes w⟩else Fh
theorem Dl:∀(l:List Ze)(w:Ze),(zP l w).length=if Ff l w=M then l.length else l.length+1|[],w=>rfl|a::l,w=>by rw[zP,Ff,rB];by_cases h:ZM a w=M;(·rw[if_pos h,h];rfl);·rw[if_neg h,sJ,Dl l w];(have hf:ZM a w=N:=by simpa using h);rw[hf,oE];show _=if Ff l w=M then _ else _;by_cases h2:Ff l w=M;(·rw[if_pos h2,if_pos h2];rfl);·rw[if_neg h2,if_neg h2];rfl
theorem Ti:∀(l:List Ze)(w x:Ze),x∈zP l w->x=w∨x∈l|[],w,x,h=>by simpa[zP]using h|a::l,w,x,h=>by rw[zP]at h;by_cases h1:ZM a w=M;(·rw[if_pos h1]at h;rcases tJ.1 h with h|h;(·exact .inl h);·exact .inr (sE _ h));·rw[if_neg h1]at h;rcases tJ.1 h with h|h;(·exact .inr (by rw[h];exact sN ..));·exact(Ti l w x h).elim .inl fun h=>.inr (sE _ h)
theorem Dn{a b c:Ze}(h:TJ a b)(k:TJ b c):TJ a c:=⟨h.1.trans k.1,h.2.trans k.2⟩
theorem FZ:∀(l:List Ze)(w:Ze),EU l->EU (zP l w)|[],w,_=>List.pairwise_singleton ..|a::l,w,h=>by have h':=rA.1 h;rw[zP];by_cases h1:ZM a w=M;(·rw[if_pos h1];exact rA.2 ⟨fun x hx e=>h'.1 x hx (Dn ((qP a w).1 h1) e),h'.2⟩);·rw[if_neg h1];refine rA.2 ⟨fun x hx e=>?_,FZ l w h'.2⟩;rcases Ti l w x hx with rfl|hx;(·exact h1 ((qP _ _).2 e));·exact h'.1 x hx e
theorem IU{t:Tx}(h:G9 t){w:Ze}(hw:QC w=0):Xg t w=if Ff t.writes w=M then 0 else(if t.writes.length=10then 11 else 0):=by
 rw[Xg,if_pos ((kK t).2 h),if_pos hw]
theorem aA{t:Tx}(h:G9 t){w:Ze}(hw:QC w=0)(he:Xg t w=0):G9 (Yd t w):=by
 rw[Yd,if_pos he];rw[IU h hw]at he;refine⟨h.start,h.reads,?_,h.each,h.once,fun x hx=>?_,FZ _ _ h.apart⟩;·show(zP t.writes w).length<=10;rw[Dl];have:=h.writes;by_cases hh:Ff t.writes w=M;(·rw[if_pos hh];exact this);·rw[if_neg hh]at he⊢;(have h10:t.writes.length≠10:=fun e=>by rw[if_pos e]at he;omega);omega
 ·rcases Ti _ _ _ hx with rfl|hx;(·exact hw);·exact h.wrs x hx
def fM(l:List Ze)(n k:List UInt8):Option Ze:=l.find? fun q=>tD (q.name=n)&&tD (q.key=k)
theorem IF{l:List Ze}{n k:List UInt8}{w:Ze}(h:fM l n k=I w):w∈l∧w.name=n∧w.key=k:=by
 refine⟨List.mem_of_find?_eq_some h,?_⟩;have:=List.find?_some h;simpa using this
def fY(a b k:List UInt8):Bool:=!YJ k a&&!YJ b k
def KT(n a b:List UInt8)(l:PL)(w:Ze):PL:=if w.name=n∧fY a b w.key=M then(if w.gone=M then jU l w.key else Kc l (w.key,w.value))else l
def AM(n a b:List UInt8):PL->List Ze->PL|l,[]=>l|l,w::ws=>AM n a b (KT n a b l w) ws
def kI(n a b:List UInt8):PL->List Ze->Int|_,[]=>0|l,w::ws=>if 60<(KT n a b l w).length then 11 else kI n a b (KT n a b l w) ws
def XP(r:Rd)(w:Ze):Bool:=tD (r.name=w.name)&&(if r.wide=M then fY r.key r.last w.key else tD (r.key=w.key))
def gL(t:Tx)(ws:List Ze):Bool:=ws.any fun w=>t.reads.any fun r=>XP r w
def I4(t:Tx)(l:List XC):Bool:=l.any fun c=>tD (t.start<c.turn)&&gL t c.writes
def F7(t:Tx):Int:=Gd t
def Uy(t:Tx)(l:List XC):Bool:=if Gd t=0then I4 t l else N
def zL(l:FL)(t:Tx):Int:=if Q7 l=0then Gd t else Q7 l
def Kt(l:FL)(t:Tx)(n k:List UInt8):Int:=if zL l t=0then(if Qt n.length=0then Qp k.length else Qt n.length)else zL l t
def VG(l:FL)(t:Tx)(n k:List UInt8):Bool:=if Kt l t n k=0then(fM t.writes n k).isSome else N
def U5(l:FL)(t:Tx)(n k:List UInt8):Bool:=if Kt l t n k=0then(match fM t.writes n k with|I w=>!w.gone|none=>U3 l n k)else N
def UQ(l:FL)(t:Tx)(n k:List UInt8):List UInt8:=if Kt l t n k=0then(match fM t.writes n k with|I w=>w.value|none=>U4 l n k)else[]
theorem Sj{l:FL}{t:Tx}(hl:Xo l)(ht:G9 t){n k:List UInt8}(hn:1<=n.length∧n.length<=8)(hk:1<=k.length∧k.length<=16):Kt l t n k=0:=by
 rw[Kt,zL,if_pos ((XY l).2 hl),if_pos ((kK t).2 ht),if_pos ((Zw _).2 hn),(Zu _).2 hk]
def Kv(l:FL)(t:Tx)(n a b:List UInt8):Int:=if zL l t=0then(if Qt n.length=0then(if Qp a.length=0then(if Qp b.length=0then kI n a b (U9 (Jf l n) a b) t.writes else Qp b.length)else Qp a.length)else Qt n.length)else zL l t
def VU(l:FL)(t:Tx)(n a b:List UInt8):PL:=if Kv l t n a b=0then AM n a b (U9 (Jf l n) a b) t.writes else[]
def Uf(r:Rq):Int:=if Yo r=0then(if r.kind=2∨r.kind=3then 0 else 7)else Yo r
def Zs(r:Rq):Rd:=if Uf r=0then⟨r.name,r.key,tD (r.kind=3),r.last⟩else Zd
def Y5(r:Rq):Int:=if Yo r=0then(if r.kind=4∨r.kind=5then 0 else 7)else Yo r
def Xh(r:Rq):Ze:=if Y5 r=0then⟨r.name,r.key,r.value,tD (r.kind=5)⟩else Qr
theorem Ow{r:Rq}(h:Uf r=0):XA (Zs r)=0:=by
 have h':=h;unfold Uf at h;by_cases h0:Yo r=0;·rw[if_pos h0]at h;have ho:=(YE r).1 h0;by_cases h1:r.kind=2∨r.kind=3;(·(have hn:QY r.kind=M:=by rcases h1 with h1|h1<;>rw[h1]<;>decide);rw[Zs,if_pos h',R9];refine⟨ho.name hn,ho.key hn,?_⟩;show if tD (r.kind=3)=M then _ else _;by_cases h3:r.kind=3;(·rw[if_pos (by simpa using h3)];exact ho.last h3);·rw[if_neg (by simpa using h3)];exact ho.noLast h3);·rw[if_neg h1]at h;cases h
 ·rw[if_neg h0]at h;exact absurd h h0
theorem vS{r:Rq}(h:Y5 r=0):QC (Xh r)=0:=by
 have h':=h;unfold Y5 at h;by_cases h0:Yo r=0;·rw[if_pos h0]at h;have ho:=(YE r).1 h0;by_cases h1:r.kind=4∨r.kind=5;(·(have hn:QY r.kind=M:=by rcases h1 with h1|h1<;>rw[h1]<;>decide);rw[Xh,if_pos h',XJ];refine⟨ho.name hn,ho.key hn,?_⟩;show if tD (r.kind=5)=M then _ else _;by_cases h3:r.kind=5;(·rw[if_pos (by simpa using h3)];exact ho.noValue (by omega));·rw[if_neg (by simpa using h3)];exact ho.value);·rw[if_neg h1]at h;cases h
 ·rw[if_neg h0]at h;exact absurd h h0
theorem Ep{r:Rq}(h:Jd r):Uf r=(if r.kind=2∨r.kind=3then 0 else 7)∧Y5 r=(if r.kind=4∨r.kind=5then 0 else 7):=by
 have:=(YE r).2 h;exact⟨by rw[Uf,if_pos this],by rw[Y5,if_pos this]⟩
def IR(l:List Ac):List UInt8:=l.flatMap fun a=>gR a++[10]
def K7:Nat->List Ac->Option (Nat×Int)|_,[]=>G|n,a::l=>if YW a=0then K7 (n+1) l else I (n,YW a)
def Gb(l:List Ac):Int:=if 100000<l.length then 1 else match K7 0 l with|none=>0|I (_,e)=>e
def Py(l:List Ac):Nat:=if 100000<l.length then 0 else match K7 0 l with|none=>0|I (i,_)=>i
def PY(l:List Ac):List UInt8:=if Gb l=0then IR l else[]
theorem EI:∀(l:List Ac)(n:Nat),K7 n l=G↔∀a∈l,Yt a|[],_=>by simp[K7]|a::l,n=>by rw[K7];by_cases ha:YW a=0;(·rw[if_pos ha,EI l (n+1)];simp only[tJ,forall_eq_or_imp];exact⟨fun h=>⟨(kQ a).1 ha,h⟩,fun h=>h.2⟩);·rw[if_neg ha];exact⟨fun h=>(by cases h),fun h=>absurd ((kQ a).2 (h a (by simp))) ha⟩
theorem LR(l:List Ac)(m:Nat)(hm:m<l.length):K7 m (l.drop m)=if YW (l.getD m Kh)=0then K7 (m+1) (l.drop (m+1))else I (m,YW (l.getD m Kh)):=by
 rw[sL hm,K7,show l[m]=l.getD m Kh by simp[hm]]
theorem gV{l:List Ac}(h:∀a∈l,Yt a)(hl:l.length<=100000):Gb l=0∧Py l=0∧PY l=IR l:=by
 have hb:=(EI l 0).2 h;have he:Gb l=0:=by rw[Gb,if_neg (by omega),hb]
 exact⟨he,by rw[Py,if_neg (by omega),hb],by rw[PY,if_pos he]⟩
theorem Lw{l:List Ac}(h:100000<l.length):Gb l=1∧Py l=0∧PY l=[]:=by
 have e:Gb l=1:=by rw[Gb,if_pos h]
 exact⟨e,by rw[Py,if_pos h],by rw[PY,e,if_neg (by decide)]⟩
theorem Ta{l:List Ac}(h:l.length<=100000)(hb:K7 0 l=G):Gb l=0∧Py l=0∧PY l=IR l:=by
 have e:Gb l=0:=by rw[Gb,if_neg (by omega),hb]
 exact⟨e,by rw[Py,if_neg (by omega),hb],by rw[PY,if_pos e]⟩
theorem OZ{l:List Ac}(h:l.length<=100000){i:Nat}{e:Int}(hb:K7 0 l=I (i,e))(he:e≠0):Gb l=e∧Py l=i∧PY l=[]:=by
 have h1:Gb l=e:=by rw[Gb,if_neg (by omega),hb]
 exact⟨h1,by rw[Py,if_neg (by omega),hb],by rw[PY,h1,if_neg he]⟩
theorem dB{l:List Ac}{m:Nat}(hm:m<l.length)(hb:K7 0 l=K7 m (l.drop m)):(YW (l.getD m Kh)=0->K7 0 l=K7 (m+1) (l.drop (m+1)))∧(YW (l.getD m Kh)≠0->K7 0 l=I (m,YW (l.getD m Kh))):=by
 rw[hb,LR l m hm];exact⟨fun h=>by rw[if_pos h],fun h=>by rw[if_neg h]⟩
structure Rp where
  sess : Int
  code : Int
  turn : Int
  found : Bool
  value : List UInt8
  pairs : PL
  pf : Option (FL × List UInt8 × List UInt8)
def Gz(s:Nat)(e:Int):Rp:=⟨(s:Int),e,0,N,[],[],G⟩
def aK(s:Nat)(t:Int):Rp:=⟨(s:Int),0,t,N,[],[],G⟩
structure Sv where
  up : Bool
  tape : V2
  commits : List XC
  synced : Nat
  begun : Nat -> Bool
  waits : Nat -> Bool
  txns : Nat -> Tx
  queue : List Nat
  out : List Rp
def U6{α:Type}(f:Nat->α)(i:Nat)(x:α):Nat->α:=fun j=>if j=i then x else f j
theorem Xf{α:Type}(f:Nat->α)(i:Nat)(x:α):U6 f i x i=x:=by
 simp[U6]
theorem Zj{α:Type}(f:Nat->α){i j:Nat}(x:α)(h:j≠i):U6 f i x j=f j:=by
 simp[U6,h]
def V4(up:Bool)(t:V2)(cs:List XC)(o:List Rp):Sv:=⟨up,t,cs,cs.length,fun _=>N,fun _=>N,fun _=>Fh,[],o⟩
def xC:Sv:=V4 M V6 [] []
def ZZ(v:Sv)(r:Rp):Sv:={v with out:=v.out++[r]}
def QH(v:Sv)(n:Nat):FL:=G2 [] (v.commits.take n)
def Vd(v:Sv)(s:Nat)(x:Rd)(o:Rp):Sv:=if Xl (v.txns s) x=0then ZZ {v with txns:=U6 v.txns s (X5 (v.txns s) x)} o else ZZ v (Gz s (Xl (v.txns s) x))
def VX(v:Sv)(s:Nat)(w:Ze):Sv:=ZZ (if Xg (v.txns s) w=0then{v with txns:=U6 v.txns s (Yd (v.txns s) w)}else v) (Gz s (Xg (v.txns s) w))
def MR(v:Sv)(s:Nat)(r:Rq):Sv:=if VG (QH v (v.txns s).start.toNat) (v.txns s) r.name r.key=M then ZZ v ⟨(s:Int),0,(v.txns s).start,U5 (QH v (v.txns s).start.toNat) (v.txns s) r.name r.key,UQ (QH v (v.txns s).start.toNat) (v.txns s) r.name r.key,[],G⟩else Vd v s (Zs r) ⟨(s:Int),0,(v.txns s).start,U5 (QH v (v.txns s).start.toNat) (v.txns s) r.name r.key,UQ (QH v (v.txns s).start.toNat) (v.txns s) r.name r.key,[],G⟩
def P6(v:Sv)(s:Nat)(r:Rq):Sv:=if Kv (QH v (v.txns s).start.toNat) (v.txns s) r.name r.key r.last=0then Vd v s (Zs r) ⟨(s:Int),0,(v.txns s).start,N,[],VU (QH v (v.txns s).start.toNat) (v.txns s) r.name r.key r.last,G⟩else ZZ v (Gz s (Kv (QH v (v.txns s).start.toNat) (v.txns s) r.name r.key r.last))
def vB(v:Sv)(s:Nat)(r:Rq):Sv:=if r.kind=4∨r.kind=5then VX v s (Xh r)else if r.kind=2then MR v s r else P6 v s r
def Jl(v:Sv)(s:Nat):XC:=⟨((v.commits.length+1:Nat):Int),(v.txns s).writes⟩
def XH(v:Sv)(s:Nat):Sv:={v with begun:=U6 v.begun s N}
def Ka(D:List UInt8->List UInt8)(v:Sv)(s:Nat):Sv:=if(v.txns s).writes.length=0then ZZ (XH v s) (aK s (v.txns s).start)else if v.queue.length=6∨v.commits.length=300then ZZ v (Gz s 11)else if Uy (v.txns s) v.commits=M then ZZ (XH v s) (Gz s 9)else if QZ (QH v v.commits.length) (v.txns s).writes≠0then ZZ (XH v s) (Gz s (QZ (QH v v.commits.length) (v.txns s).writes))else if Vr D v.tape (Jl v s)≠0then ZZ (XH v s) (Gz s (Vr D v.tape (Jl v s)))else{XH v s with tape:=zH D v.tape (Jl v s),commits:=v.commits++[Jl v s],queue:=v.queue++[s],waits:=U6 v.waits s M}
def DM(v:Sv)(s:Nat)(r:Rq):Sv:=ZZ v ⟨(s:Int),0,(v.synced:Int),U3 (QH v v.synced) r.name r.key,U4 (QH v v.synced) r.name r.key,[],I (QH v v.synced,r.name,r.key)⟩
def QM(v:Sv)(s:Nat)(r:Rq):Bool:=v.waits s||(if r.kind=1then v.begun s else !v.begun s)
def JT(D:List UInt8->List UInt8)(v:Sv)(s:Nat)(r:Rq):Sv:=if r.kind=8then DM v s r else if QM v s r=M then ZZ v (Gz s 6)else if r.kind=1then ZZ {v with begun:=U6 v.begun s M,txns:=U6 v.txns s ⟨(v.synced:Int),[],[]⟩} (aK s (v.synced:Int))else if r.kind=7then ZZ (XH v s) (Gz s 0)else if ZH (v.synced:Int) (v.txns s).start=N then ZZ (XH v s) (Gz s 10)else if r.kind=6then Ka D v s else vB v s r
def Xi(D:List UInt8->List UInt8)(v:Sv)(s:Nat)(data:List UInt8):Sv:=if v.up=N then ZZ v (Gz s 13)else if QK data=0then JT D v s (Qu data)else ZZ v (Gz s (QK data))
def J4:Nat->List Nat->List Rp|_,[]=>[]|n,s::q=>aK s ((n+1:Nat):Int)::J4 (n+1) q
def U8(f:Nat->Bool)(q:List Nat):Nat->Bool:=fun j=>if j∈q then N else f j
def Vx(v:Sv):Sv:={v with tape:=Kn v.tape,synced:=v.synced+v.queue.length,waits:=U8 v.waits v.queue,queue:=[],out:=v.out++J4 v.synced v.queue}
def Up(D:List UInt8->List UInt8)(v:Sv)(k:Int):Sv:=V4 N (zQ D (Xq v.tape k)) (xX D (Xq v.tape k)) v.out
def Ja(D:List UInt8->List UInt8)(v:Sv)(a:Ac):Sv:=if a.kind=1then Xi D v a.sess.toNat a.data else if a.kind=2then(if v.up=M then Vx v else v)else if a.kind=3then(if v.up=M then Up D v a.keep else v)else{v with up:=M}
def JL(D:List UInt8->List UInt8)(l:List Ac):Sv:=l.foldl (Ja D) xC
theorem yD(D:List UInt8->List UInt8)(l:List Ac)(a:Ac):JL D (l++[a])=Ja D (JL D l) a:=by
 simp[JL]
def G0(l:List Ac):Int:=Gb l
structure Oc where
  up : Bool
  turn : Int
  pending : Int
  forest : FL
  replies : List Rp
def Fp(v:Sv):Oc:=⟨v.up,(v.synced:Int),(v.queue.length:Int),QH v v.synced,v.out⟩
def Wa:Oc:=⟨N,0,0,[],[]⟩
def xH(D:List UInt8->List UInt8)(l:List Ac):Oc:=if G0 l=0then Fp (JL D l)else Wa
section
theorem Er:∀{cs:List XC}{f:FL}{i:Nat},uU f i cs->qQ (i+1) cs|[],_,_,_=>trivial|_::_,_,_,h=>⟨by rw[h.2.1],h.1,Er h.2.2.2⟩
theorem EP:∀{cs:List XC}{f:FL}{i:Nat}{c:XC},uU f i cs->Q9 c=0->c.turn=((i+cs.length+1:Nat):Int)->QZ (G2 f cs) c.writes=0->uU f i (cs++[c])|[],_,_,_,_,h1,h2,h3=>⟨h1,by rw[h2];rfl,h3,trivial⟩|d::cs,f,i,c,h,h1,h2,h3=>⟨h.1,h.2.1,h.2.2.1,EP h.2.2.2 h1 (by rw[h2,sJ];congr 1;omega) h3⟩
structure Zf (D : List UInt8 -> List UInt8) (v : Sv) : Prop where
  goes : uU [] 0 v.commits
  many : v.commits.length <= 300
  data : v.tape.data = Q5 D v.commits
  mark : v.tape.synced = ((Q5 D (v.commits.take v.synced)).length : Int)
  room : v.tape.data.length <= 200000
  turn : v.synced + v.queue.length = v.commits.length
  few : v.queue.length <= 6
  wait : ∀ s, v.waits s = M ↔ s ∈ v.queue
  once : v.queue.Nodup
  tx : ∀ s, v.begun s = M -> G9 (v.txns s) ∧ (v.txns s).start <= (v.synced : Int)
  idle : ∀ s, v.waits s = M -> v.begun s = N
  down : v.up = N -> v.queue = [] ∧ ∀ s, v.begun s = N
variable{D:List UInt8->List UInt8}{v:Sv}
theorem Zf.tell(h:Zf D v)(r:Rp):Zf D (ZZ v r):=⟨h.goes,h.many,h.data,h.mark,h.room,h.turn,h.few,h.wait,h.once,h.tx,h.idle,h.down⟩
theorem El{f:Nat->Bool}{s j:Nat}(h:U6 f s N j=M):j≠s∧f j=M:=by
 by_cases e:j=s;·rw[e,Xf]at h;cases h
 ·exact⟨e,by rwa[Zj f _ e]at h⟩
theorem Zf.end(h:Zf D v)(s:Nat):Zf D (XH v s):=by
 refine⟨h.goes,h.many,h.data,h.mark,h.room,h.turn,h.few,h.wait,h.once,fun j hj=>h.tx j (El hj).2,fun j hj=>?_,fun hu=>⟨(h.down hu).1,fun j=>?_⟩⟩;·show U6 v.begun s N j=N;by_cases e:j=s;(·rw[e,Xf]);·rw[Zj _ _ e];exact h.idle j hj
 ·show U6 v.begun s N j=N;by_cases e:j=s;(·rw[e,Xf]);·rw[Zj _ _ e];exact(h.down hu).2 j
theorem Zf.txn(h:Zf D v){s:Nat}{t:Tx}(ht:G9 t)(hs:t.start<=(v.synced:Int)):Zf D {v with txns:=U6 v.txns s t}:=by
 refine⟨h.goes,h.many,h.data,h.mark,h.room,h.turn,h.few,h.wait,h.once,fun j hj=>?_,h.idle,h.down⟩;show G9 (U6 v.txns s t j)∧(U6 v.txns s t j).start<=_;by_cases e:j=s;·rw[e,Xf];exact⟨ht,hs⟩
 ·rw[Zj _ _ e];exact h.tx j hj
theorem Zf.may(h:Zf D v):Gs v.tape=M:=by
 refine(Ky _).2 ⟨h.room,?_⟩;rw[h.mark,h.data];have:=UN D v.commits v.synced v.commits.length (by have:=h.turn;omega);rw[sK]at this;omega
theorem kH{t:Tx}{r:Rd}(h:Xl t r=0):(X5 t r).start=t.start:=by
 rw[X5,if_pos h];split<;>rfl
theorem DR{t:Tx}{w:Ze}(h:Xg t w=0):(Yd t w).start=t.start:=by
 rw[Yd,if_pos h]
theorem Zf.note(h:Zf D v){s:Nat}(hb:v.begun s=M){x:Rd}(hx:XA x=0)(o:Rp):Zf D (Vd v s x o):=by
 obtain⟨h1,h2⟩:=h.tx s hb;unfold Vd;by_cases e:Xl (v.txns s) x=0;·rw[if_pos e];exact(h.txn (bY h1 hx e) (by rw[kH e];exact h2)).tell _
 ·rw[if_neg e];exact h.tell _
theorem Zf.write(h:Zf D v){s:Nat}(hb:v.begun s=M){w:Ze}(hw:QC w=0):Zf D (VX v s w):=by
 obtain⟨h1,h2⟩:=h.tx s hb;unfold VX;by_cases e:Xg (v.txns s) w=0;·rw[if_pos e];exact(h.txn (aA h1 hw e) (by rw[DR e];exact h2)).tell _
 ·rw[if_neg e];exact h.tell _
theorem kN{r:Rq}(h:Jd r)(hk:r.kind=2∨r.kind=3):XA (Zs r)=0:=Ow (by
 rw[(Ep h).1,if_pos hk])
theorem LW{r:Rq}(h:Jd r)(hk:r.kind=4∨r.kind=5):QC (Xh r)=0:=vS (by
 rw[(Ep h).2,if_pos hk])
theorem Zf.work(h:Zf D v){s:Nat}(hb:v.begun s=M){r:Rq}(hr:Jd r)(hk:2<=r.kind∧r.kind<=5):Zf D (vB v s r):=by
 unfold vB;by_cases h1:r.kind=4∨r.kind=5;·rw[if_pos h1];exact h.write hb (LW hr h1)
 ·rw[if_neg h1];by_cases h2:r.kind=2;(·rw[if_pos h2];unfold MR;split;(·exact h.tell _);·exact h.note hb (kN hr (.inl h2)) _);·rw[if_neg h2];unfold P6;split;(·exact h.note hb (kN hr (.inr (by omega))) _);·exact h.tell _
theorem DJ{t:Tx}(ht:G9 t)(hw:¬t.writes.length=0)(n:Nat)(hn:n<=300):Q9 ⟨((n+1:Nat):Int),t.writes⟩=0:=(KP _).2 ⟨by
 show(1:Int)<=((n+1:Nat):Int)∧((n+1:Nat):Int)<=1048576;omega,⟨by
 show 1<=t.writes.length;omega,ht.writes⟩,ht.wrs⟩
theorem Cl(h:Zf D v){s:Nat}(hb:v.begun s=M)(h1:¬(v.txns s).writes.length=0)(h2:¬(v.queue.length=6∨v.commits.length=300))(h4:QZ (QH v v.commits.length) (v.txns s).writes=0)(h5:Vr D v.tape (Jl v s)=0):Zf D {XH v s with tape:=zH D v.tape (Jl v s),commits:=v.commits++[Jl v s],queue:=v.queue++[s],waits:=U6 v.waits s M}:=by
 obtain⟨ht,hst⟩:=h.tx s hb;have hm:=h.many;have hc:Q9 (Jl v s)=0:=DJ ht h1 _ hm;have hmay:=h.may;have hroom:v.tape.data.length+(ZC D (Jl v s)).length<=200000:=by rw[Vr,if_pos hmay,if_pos hc]at h5;by_cases e:200000<v.tape.data.length+(ZC D (Jl v s)).length;(·rw[if_pos e]at h5;exact absurd h5 (by decide));·omega
 have hT:zH D v.tape (Jl v s)=⟨v.tape.data++ZC D (Jl v s),v.tape.synced⟩:=by rw[zH,if_pos h5]
 have hnw:v.waits s≠M:=fun e=>by have:=h.idle s e;rw[hb]at this;cases this
 have hnq:s∉v.queue:=fun e=>hnw ((h.wait s).2 e);have hup:v.up=M:=by cases hu:v.up with|true=>rfl|false=>have:=(h.down hu).2 s;rw[hb]at this;cases this
 have htn:=h.turn;rw[hT];refine⟨?_,?_,?_,?_,?_,?_,?_,?_,?_,?_,?_,?_⟩;·refine EP h.goes hc (by show((v.commits.length+1:Nat):Int)=_;congr 1;omega) ?_;rw[QH,sK]at h4;exact h4
 ·show(v.commits++[Jl v s]).length<=300;rw[tA,sB];omega
 ·show v.tape.data++ZC D (Jl v s)=Q5 D (v.commits++[Jl v s]);rw[Vt,Pb,h.data]
 ·show v.tape.synced=((Q5 D ((v.commits++[Jl v s]).take v.synced)).length:Int);rw[List.take_append_of_le_length (by omega)];exact h.mark
 ·show(v.tape.data++ZC D (Jl v s)).length<=200000;rw[tA];exact hroom
 ·show v.synced+(v.queue++[s]).length=(v.commits++[Jl v s]).length;rw[tA,tA,sB,sB];omega
 ·show(v.queue++[s]).length<=6;have:=h.few;rw[tA,sB];omega
 ·intro j;show U6 v.waits s M j=M↔j∈v.queue++[s];by_cases e:j=s;(·rw[e,Xf];simp);·rw[Zj _ _ e,h.wait j];simp[e]
 ·show(v.queue++[s]).Nodup;rw[pQ];exact⟨h.once,by simp,fun a ha b hb e=>hnq (by simp at hb;rw[<-hb,<-e];exact ha)⟩
 ·intro j hj;exact h.tx j (El hj).2
 ·intro j hj;show U6 v.begun s N j=N;by_cases e:j=s;(·rw[e,Xf]);·rw[Zj _ _ e];exact h.idle j (by have:U6 v.waits s M j=M:=hj;rwa[Zj _ _ e]at this)
 ·intro hu;have:v.up=N:=hu;rw[hup]at this;cases this
theorem Zf.commit(h:Zf D v){s:Nat}(hb:v.begun s=M):Zf D (Ka D v s):=by
 unfold Ka;by_cases h1:(v.txns s).writes.length=0;·rw[if_pos h1];exact(h.end s).tell _
 ·rw[if_neg h1];by_cases h2:v.queue.length=6∨v.commits.length=300;(·rw[if_pos h2];exact h.tell _);·rw[if_neg h2];by_cases h3:Uy (v.txns s) v.commits=M;(·rw[if_pos h3];exact(h.end s).tell _);·rw[if_neg h3];by_cases h4:QZ (QH v v.commits.length) (v.txns s).writes≠0;(·rw[if_pos h4];exact(h.end s).tell _);·rw[if_neg h4];by_cases h5:Vr D v.tape (Jl v s)≠0;(·rw[if_pos h5];exact(h.end s).tell _);·rw[if_neg h5];exact Cl h hb h1 h2 (sW h4) (sW h5)
theorem Zf.req(h:Zf D v)(hup:v.up=M)(s:Nat){r:Rq}(hr:Jd r):Zf D (JT D v s r):=by
 unfold JT;by_cases h1:r.kind=8;·rw[if_pos h1];exact h.tell _
 ·rw[if_neg h1];by_cases h2:QM v s r=M;(·rw[if_pos h2];exact h.tell _);·rw[if_neg h2];(have h2':v.waits s=N∧(if r.kind=1then v.begun s else !v.begun s)=N:=by unfold QM at h2;cases hw:v.waits s;(·rw[hw]at h2;exact⟨rfl,by simpa using h2⟩);·rw[hw]at h2;exact absurd rfl h2);by_cases h3:r.kind=1;(·rw[if_pos h3];refine Zf.tell ?_ _;have hm:=h.many;have htn:=h.turn;refine⟨h.goes,h.many,h.data,h.mark,h.room,h.turn,h.few,h.wait,h.once,fun j hj=>?_,fun j hj=>?_,fun hu=>?_⟩;(·show G9 (U6 v.txns s _ j)∧(U6 v.txns s _ j).start<=_;by_cases e:j=s;(·rw[e,Xf];exact⟨⟨by show(0:Int)<=(v.synced:Int)∧(v.synced:Int)<=1048576;omega,by simp,by simp,by simp,by simp,by simp,by simp[EU]⟩,Int.le_refl _⟩);·rw[Zj _ _ e];exact h.tx j (by have:U6 v.begun s M j=M:=hj;rwa[Zj _ _ e]at this));(·show U6 v.begun s M j=N;have hj':v.waits j=M:=hj;by_cases e:j=s;(·rw[e,h2'.1]at hj';cases hj');·rw[Zj _ _ e];exact h.idle j hj');·have:v.up=N:=hu;rw[hup]at this;cases this);·rw[if_neg h3];(have hb:v.begun s=M:=by have:=h2'.2;rw[if_neg h3]at this;simpa using this);by_cases h4:r.kind=7;(·rw[if_pos h4];exact(h.end s).tell _);·rw[if_neg h4];by_cases h5:ZH (v.synced:Int) (v.txns s).start=N;(·rw[if_pos h5];exact(h.end s).tell _);·rw[if_neg h5];by_cases h6:r.kind=6;(·rw[if_pos h6];exact h.commit hb);·rw[if_neg h6];have hk:=hr.kind;exact h.work hb hr (by omega)
theorem Zf.ask(h:Zf D v)(s:Nat)(d:List UInt8):Zf D (Xi D v s d):=by
 unfold Xi;by_cases h1:v.up=N;·rw[if_pos h1];exact h.tell _
 ·rw[if_neg h1];by_cases h2:QK d=0;(·rw[if_pos h2];exact h.req (by simpa using h1) s ((YE _).1 (Yn h2).1));·rw[if_neg h2];exact h.tell _
theorem Zf.sync(h:Zf D v):Zf D (Vx v):=by
 have hm:=h.may;have htn:=h.turn;refine⟨h.goes,h.many,?_,?_,?_,?_,by simp[Vx],?_,by simp[Vx],?_,?_,?_⟩;·show(Kn v.tape).data=_;rw[Kn,if_pos hm];exact h.data
 ·show(Kn v.tape).synced=((Q5 D (v.commits.take (v.synced+v.queue.length))).length:Int);rw[Kn,if_pos hm,htn,sK,<-h.data]
 ·show(Kn v.tape).data.length<=_;rw[Kn,if_pos hm];exact h.room
 ·show v.synced+v.queue.length+([]:List Nat).length=v.commits.length;simpa using htn
 ·intro j;show U8 v.waits v.queue j=M↔j∈([]:List Nat);rw[U8];constructor;(·intro e;split at e;(·cases e);·rename_i hq;exact absurd ((h.wait j).1 e) hq);·intro e;simp at e
 ·intro j hj;obtain⟨h1,h2⟩:=h.tx j hj;exact⟨h1,by show _<=((v.synced+v.queue.length:Nat):Int);have:(v.txns j).start<=(v.synced:Int):=h2;show(v.txns j).start<=_;omega⟩
 ·intro j hj;have:U8 v.waits v.queue j=M:=hj;rw[U8]at this;split at this;(·cases this);·exact h.idle j this
 ·intro hu;exact⟨rfl,(h.down hu).2⟩
theorem S7{up:Bool}{t:V2}{cs:List XC}{o:List Rp}(hg:uU [] 0 cs)(hm:cs.length<=300)(hd:t=⟨Q5 D cs,((Q5 D cs).length:Int)⟩)(hr:(Q5 D cs).length<=200000):Zf D (V4 up t cs o):=by
 subst hd;refine⟨hg,hm,rfl,?_,hr,rfl,by simp[V4],fun s=>by simp[V4],by simp[V4],fun s hs=>by simp[V4]at hs,fun s hs=>by simp[V4]at hs,fun _=>⟨rfl,fun _=>rfl⟩⟩;show((Q5 D cs).length:Int)=((Q5 D (cs.take cs.length)).length:Int);rw[sK]
theorem Te(D:List UInt8->List UInt8):Zf D xC:=S7 trivial (by
 simp) rfl (by
 simp[Q5])
theorem Vn(hD:∀x,(D x).length=4)(h:Zf D v){k:Int}(hk:0<=k):∃j,v.synced<=j∧j<=v.commits.length∧Up D v k=V4 N ⟨Q5 D (v.commits.take j),((Q5 D (v.commits.take j)).length:Int)⟩ (v.commits.take j) v.out∧(k=0->j=v.synced):=by
 have hm:=h.may;obtain⟨m1,m2,m3⟩:=(Ky _).1 hm;have hit:qQ 1 v.commits:=Er h.goes;have htn:=h.turn;have hce:Uk v.tape k=0:=by rw[Uk,if_pos hm,if_neg (by omega)]
 have hcn:Xu v.tape k<=v.tape.data.length∧v.tape.synced<=(Xu v.tape k:Int):=by rw[Xu];split<;>omega
 have hcT:Xq v.tape k=⟨(Q5 D v.commits).take (Xu v.tape k),(Xu v.tape k:Int)⟩:=by rw[Xq,if_pos hce,h.data]
 have hrl:(Q5 D v.commits).length<=200000:=by rw[<-h.data];exact h.room
 obtain⟨j,h1,h2,h3,_,h5,h6⟩:=I0 hD hit (Xu v.tape k) (Xu v.tape k:Int) (by rw[<-h.data];exact hcn.1) (by omega) hrl;have hsj:v.synced<=j:=by refine T9 (D:=D) (cs:=v.commits) (k:=Xu v.tape k) (by omega) h3 ?_;have:=h.mark;omega
 have e:(if(Xu v.tape k:Int)>((Q5 D (v.commits.take j)).length:Int)then((Q5 D (v.commits.take j)).length:Int)else(Xu v.tape k:Int))=((Q5 D (v.commits.take j)).length:Int):=by split<;>omega
 refine⟨j,hsj,h1,?_,?_⟩;·rw[Up,hcT,h5,h6,e]
 ·intro hk0;by_cases hj:j=v.synced;(·exact hj);·exfalso;(have hn:(Xu v.tape k:Int)=v.tape.synced:=by rw[Xu,hk0];split<;>omega);have g1:=UN D v.commits (v.synced+1) j (by omega);have g2:=C6 D v.commits v.synced (by omega);have hc:=(h.goes.at v.synced (by omega)).1;have g3:=(Cr hD hc).1;have hmk:=h.mark;rw[g2,tA]at g1;omega
theorem Zf.crash(hD:∀x,(D x).length=4)(h:Zf D v){k:Int}(hk:0<=k):Zf D (Up D v k):=by
 obtain⟨j,h1,h2,h3,_⟩:=Vn hD h hk;have hm:=h.many;have hle:=UN D v.commits j v.commits.length h2;rw[sK,<-h.data]at hle;have hr:=h.room;rw[h3];exact S7 (h.goes.take j) (by rw[rF];omega) rfl (by omega)
theorem Zf.start(h:Zf D v):Zf D {v with up:=M}:=⟨h.goes,h.many,h.data,h.mark,h.room,h.turn,h.few,h.wait,h.once,h.tx,h.idle,fun hu=>by
 cases hu⟩
theorem Zf.act(hD:∀x,(D x).length=4)(h:Zf D v){a:Ac}(ha:Yt a):Zf D (Ja D v a):=by
 unfold Ja;by_cases h1:a.kind=1;·rw[if_pos h1];exact h.ask _ _
 ·rw[if_neg h1];by_cases h2:a.kind=2;(·rw[if_pos h2];split;(·exact h.sync);·exact h);·rw[if_neg h2];by_cases h3:a.kind=3;(·rw[if_pos h3];split;(·exact h.crash hD (ha.keep h3).1);·exact h);·rw[if_neg h3];exact h.start
theorem Ej(hD:∀x,(D x).length=4):∀(l:List Ac)(v:Sv),Zf D v->(∀a∈l,Yt a)->Zf D (l.foldl (Ja D) v)|[],_,h,_=>h|a::l,v,h,ha=>Ej hD l _ (h.act hD (ha a (by simp))) (fun x hx=>ha x (by simp[hx]))
theorem Da(hD:∀x,(D x).length=4)(l:List Ac)(h:∀a∈l,Yt a):Zf D (JL D l):=Ej hD l xC (Te D) h
end
structure gY (v u : Sv) : Prop where
  up : u.up = v.up
  tape : u.tape = v.tape
  commits : u.commits = v.commits
  synced : u.synced = v.synced
  waits : u.waits = v.waits
  queue : u.queue = v.queue
structure cR (s : Nat) (v u : Sv) : Prop extends gY v u where
  out : ∃ r, u.out = v.out ++ [r] ∧ r.sess = (s : Int)
  begun : ∀ j, j ≠ s -> u.begun j = v.begun j
  txns : ∀ j, j ≠ s -> u.txns j = v.txns j
theorem Ua(v:Sv)(s:Nat)(r:Rp)(h:r.sess=(s:Int)):cR s v (ZZ v r):=⟨⟨rfl,rfl,rfl,rfl,rfl,rfl⟩,⟨r,rfl,h⟩,fun _ _=>rfl,fun _ _=>rfl⟩
theorem yG(v:Sv)(s:Nat)(r:Rp)(h:r.sess=(s:Int)):cR s v (ZZ (XH v s) r):=⟨⟨rfl,rfl,rfl,rfl,rfl,rfl⟩,⟨r,rfl,h⟩,fun _ hj=>Zj _ _ hj,fun _ _=>rfl⟩
theorem SP(v:Sv)(s:Nat)(t:Tx)(r:Rp)(h:r.sess=(s:Int)):cR s v (ZZ {v with txns:=U6 v.txns s t} r):=⟨⟨rfl,rfl,rfl,rfl,rfl,rfl⟩,⟨r,rfl,h⟩,fun _ _=>rfl,fun _ hj=>Zj _ _ hj⟩
theorem Db(v:Sv)(s:Nat)(x:Rd)(o:Rp)(h:o.sess=(s:Int)):cR s v (Vd v s x o):=by
 unfold Vd;split;·exact SP v s _ _ h
 ·exact Ua v s _ rfl
theorem Ht(v:Sv)(s:Nat)(w:Ze):cR s v (VX v s w):=by
 unfold VX;split;·exact SP v s _ _ rfl
 ·exact Ua v s _ rfl
theorem Iq(v:Sv)(s:Nat)(r:Rq):cR s v (vB v s r):=by
 unfold vB;split;·exact Ht v s _
 ·split;(·unfold MR;split;(·exact Ua v s _ rfl);·exact Db v s _ _ rfl);·unfold P6;split;(·exact Db v s _ _ rfl);·exact Ua v s _ rfl
structure IQ (D : List UInt8 -> List UInt8) (s : Nat) (v u : Sv) : Prop where
  up : u.up = v.up
  tape : u.tape = zH D v.tape (Jl v s)
  commits : u.commits = v.commits ++ [Jl v s]
  synced : u.synced = v.synced
  waits : u.waits = U6 v.waits s M
  queue : u.queue = v.queue ++ [s]
  out : u.out = v.out
  begun : u.begun = U6 v.begun s N
  txns : u.txns = v.txns
  full : (v.txns s).writes.length ≠ 0
  room : v.queue.length ≠ 6 ∧ v.commits.length ≠ 300
  clash : Uy (v.txns s) v.commits = N
  fits : QZ (QH v v.commits.length) (v.txns s).writes = 0
  app : Vr D v.tape (Jl v s) = 0
theorem WL(D:List UInt8->List UInt8)(v:Sv)(s:Nat):cR s v (Ka D v s)∨IQ D s v (Ka D v s):=by
 unfold Ka;by_cases h1:(v.txns s).writes.length=0;·rw[if_pos h1];exact .inl (yG v s _ rfl)
 ·rw[if_neg h1];by_cases h2:v.queue.length=6∨v.commits.length=300;(·rw[if_pos h2];exact .inl (Ua v s _ rfl));·rw[if_neg h2];by_cases h3:Uy (v.txns s) v.commits=M;(·rw[if_pos h3];exact .inl (yG v s _ rfl));·rw[if_neg h3];by_cases h4:QZ (QH v v.commits.length) (v.txns s).writes≠0;(·rw[if_pos h4];exact .inl (yG v s _ rfl));·rw[if_neg h4];by_cases h5:Vr D v.tape (Jl v s)≠0;(·rw[if_pos h5];exact .inl (yG v s _ rfl));·rw[if_neg h5];exact .inr ⟨rfl,rfl,rfl,rfl,rfl,rfl,rfl,rfl,rfl,h1,⟨fun e=>h2 (.inl e),fun e=>h2 (.inr e)⟩,by simpa using h3,sW h4,sW h5⟩
theorem eH(D:List UInt8->List UInt8)(v:Sv)(s:Nat)(r:Rq):cR s v (JT D v s r)∨(r.kind=6∧QM v s r=N∧IQ D s v (JT D v s r)):=by
 unfold JT;by_cases h1:r.kind=8;·rw[if_pos h1];exact .inl (Ua v s _ rfl)
 ·rw[if_neg h1];by_cases h2:QM v s r=M;(·rw[if_pos h2];exact .inl (Ua v s _ rfl));·rw[if_neg h2];by_cases h3:r.kind=1;(·rw[if_pos h3];exact .inl ⟨⟨rfl,rfl,rfl,rfl,rfl,rfl⟩,⟨_,rfl,rfl⟩,fun _ hj=>Zj _ _ hj,fun _ hj=>Zj _ _ hj⟩);·rw[if_neg h3];by_cases h4:r.kind=7;(·rw[if_pos h4];exact .inl (yG v s _ rfl));·rw[if_neg h4];by_cases h5:ZH (v.synced:Int) (v.txns s).start=N;(·rw[if_pos h5];exact .inl (yG v s _ rfl));·rw[if_neg h5];by_cases h6:r.kind=6;(·rw[if_pos h6];rcases WL D v s with h|h;(·exact .inl h);·exact .inr ⟨h6,by simpa using h2,h⟩);·rw[if_neg h6];exact .inl (Iq v s r)
theorem C8(D:List UInt8->List UInt8)(v:Sv)(s:Nat)(d:List UInt8):cR s v (Xi D v s d)∨(v.up=M∧QK d=0∧(Qu d).kind=6∧v.waits s=N∧v.begun s=M∧IQ D s v (Xi D v s d)):=by
 unfold Xi;by_cases h1:v.up=N;·rw[if_pos h1];exact .inl (Ua v s _ rfl)
 ·rw[if_neg h1];by_cases h2:QK d=0;(·rw[if_pos h2];rcases eH D v s (Qu d)with h|⟨h3,h4,h5⟩;(·exact .inl h);·right;unfold QM at h4;rw[if_neg (by omega)]at h4;simp only[sX,Bool.not_eq_false']at h4;exact⟨by simpa using h1,h2,h3,h4.1,h4.2,h5⟩);·rw[if_neg h2];exact .inl (Ua v s _ rfl)
theorem bX(D:List UInt8->List UInt8)(v:Sv)(a:Ac):∃rs,(Ja D v a).out=v.out++rs:=by
 unfold Ja;split;·rcases C8 D v a.sess.toNat a.data with h|h;(·obtain⟨r,h1,_⟩:=h.out;exact⟨[r],h1⟩);·exact⟨[],by rw[tU];exact h.2.2.2.2.2.out⟩
 ·split;(·split;(·exact⟨J4 v.synced v.queue,rfl⟩);·exact⟨[],by rw[tU]⟩);·split;(·split;(·exact⟨[],by rw[tU];rfl⟩);·exact⟨[],by rw[tU]⟩);·exact⟨[],by rw[tU]⟩
theorem Px:∀(q:List Nat)(n:Nat),(J4 n q).length=q.length|[],_=>rfl|_::q,n=>by rw[J4,sJ,sJ,Px q]
theorem Cx{D:List UInt8->List UInt8}(hD:∀x,(D x).length=4){v:Sv}(h:Zf D v){a:Ac}(ha:Yt a):v.synced<=(Ja D v a).synced∧(Ja D v a).synced<=v.synced+v.queue.length∧(v.synced<(Ja D v a).synced->a.kind=2∨a.kind=3):=by
 unfold Ja;by_cases h1:a.kind=1;·rw[if_pos h1];(have e:(Xi D v a.sess.toNat a.data).synced=v.synced:=by rcases C8 D v a.sess.toNat a.data with h|h;(·exact h.synced);·exact h.2.2.2.2.2.synced);rw[e];exact⟨by omega,by omega,fun h=>by omega⟩
 ·rw[if_neg h1];by_cases h2:a.kind=2;(·rw[if_pos h2];split;(·exact⟨by show v.synced<=v.synced+v.queue.length;omega,tX _,fun _=>.inl h2⟩);·exact⟨by omega,by omega,fun _=>.inl h2⟩);·rw[if_neg h2];by_cases h3:a.kind=3;(·rw[if_pos h3];split;(·obtain⟨j,j1,j2,j3,_⟩:=Vn hD h (ha.keep h3).1;(have e:(Up D v a.keep).synced=j:=by rw[j3];show(v.commits.take j).length=j;rw[rF];omega);have:=h.turn;rw[e];exact⟨j1,by omega,fun _=>.inr h3⟩);·exact⟨by omega,by omega,fun _=>.inr h3⟩);·rw[if_neg h3];exact⟨tX _,by show v.synced<=_;omega,fun h=>absurd h (Nat.lt_irrefl _)⟩
def J0(r:Rq):List UInt8:=if Yo r=0then Vl r else[]
def I8:Prop:=∀(w:F)(v:H)(r:Rq),UT w->XD w v r->xY r->rC S 29 #[v] w fun e w'=>∃x,e=tK (sV #[x,Y tE (Yo r)])∧Qj 0 w' x (J0 r)∧L w w' G
structure Gr where
  kind : Int
  sess : Int
  name : Int
  key : Int
  value : Int
def kC:Gr:=⟨0,0,0,0,0⟩
def YZ(n:Int)(many:Nat):Nat:=if n<0then((-(n+1))%(many:Int)).toNat else(n%(many:Int)).toNat
theorem VK(n:Int){many:Nat}(h:0<many):YZ n many<many:=by
 unfold YZ;split;·have b0:=oC (-(n+1)) (show(many:Int)≠0 by omega);have b1:=pR (-(n+1)) (show(0:Int)<many by omega);omega
 ·have b0:=oC n (show(many:Int)≠0 by omega);have b1:=pR n (show(0:Int)<many by omega);omega
def gH(n:Int):List UInt8:=[sF (97+YZ n 3)]
def gF(n:Int):List UInt8:=[sF (107+YZ n 5)]
def gZ(n:Int):List UInt8:=[sF (YZ n 50)]
def GD(k:Nat)(a b c d:List UInt8):Rq:=if k<4then⟨1,[],[],[],[]⟩else if k<7then⟨2,a,b,[],[]⟩else if k=7then⟨3,a,b,c,[]⟩else if k<12then⟨4,a,b,[],d⟩else if k=12then⟨5,a,b,[],[]⟩else if k<17then⟨6,[],[],[],[]⟩else if k=17then⟨7,[],[],[],[]⟩else⟨8,a,b,[],[]⟩
def RI(g:Gr):Rq:=GD (YZ g.kind 20) (gH g.name) (gF g.key) (gF g.value) (gZ g.value)
theorem cM(k:Nat){a b c d:List UInt8}(ha:a.length=1)(hb:b.length=1)(hc:c.length=1)(hd:d.length=1):Jd (GD k a b c d):=by
 unfold GD;repeat' split
 all_goals(refine⟨⟨?_,?_⟩,?_,?_,?_,?_,?_,?_,?_,?_⟩<;>simp[QY, *])
theorem S9(g:Gr):Jd (RI g):=cM _ rfl rfl rfl rfl
def RG(g:Gr):Ac:=if YZ g.kind 26=20∨YZ g.kind 26=21∨YZ g.kind 26=22then⟨2,0,0,[]⟩else if YZ g.kind 26=23then⟨3,0,(YZ g.value 80:Int),[]⟩else if YZ g.kind 26=24then⟨4,0,0,[]⟩else if YZ g.kind 26=25then⟨1,(YZ g.sess 8:Int),0,[sF (rS.wrap g.value).toNat,sF (rS.wrap g.key).toNat]⟩else⟨1,(YZ g.sess 8:Int),0,J0 (RI g)⟩
def YF(l:List Gr)(n:Nat):List Ac:=(l.take n).map RG
theorem dH{r:Rq}(h:Jd r):J0 r=Vl r:=by
 rw[J0,if_pos ((YE r).2 h)]
theorem aD{r:Rq}(h:Jd r):(J0 r).length<=78:=by
 rw[dH h];exact(MP h).1
theorem Io{s:Int}{d:List UInt8}(h0:0<=s)(h1:s<=7)(hd:d.length<=4000):Yt ⟨1,s,0,d⟩:=by
 refine⟨⟨by simp,by simp⟩,fun _=>⟨h0,h1⟩,fun h=>by simp at h,hd,fun h=>by simp at h,fun _=>rfl,fun h=>by simp at h⟩
theorem cP:Yt ⟨2,0,0,[]⟩:=⟨⟨by
 simp,by
 simp⟩,fun h=>by
 simp at h,fun h=>by
 simp at h,by
 simp,fun _=>rfl,fun _=>rfl,fun _=>rfl⟩
theorem OF:Yt ⟨4,0,0,[]⟩:=⟨⟨by
 simp,by
 simp⟩,fun h=>by
 simp at h,fun h=>by
 simp at h,by
 simp,fun _=>rfl,fun _=>rfl,fun _=>rfl⟩
theorem Ik{k:Int}(h0:0<=k)(h1:k<=200000):Yt ⟨3,0,k,[]⟩:=⟨⟨by
 simp,by
 simp⟩,fun h=>by
 simp at h,fun _=>⟨h0,h1⟩,by
 simp,fun _=>rfl,fun h=>by
 simp at h,fun _=>rfl⟩
theorem dF(g:Gr):Yt (RG g):=by
 have h8:=VK g.sess (many:=8) (by decide);have h80:=VK g.value (many:=80) (by decide);have hr:=aD (S9 g);unfold RG;split;·exact cP
 ·split;(·exact Ik (by omega) (by omega));·split;(·exact OF);·split;(·exact Io (by omega) (by omega) (by simp));·exact Io (by omega) (by omega) (by omega)
theorem Af(l:List Gr)(n:Nat):∀a∈YF l n,Yt a:=fun a ha=>by
 obtain⟨g,_,rfl⟩:=List.mem_map.1 ha;exact dF g
structure F4(g:Gr):Prop where kind:-9223372036854775808<=g.kind∧g.kind<=9223372036854775807sess:-9223372036854775808<=g.sess∧g.sess<=9223372036854775807name:-9223372036854775808<=g.name∧g.name<=9223372036854775807key:-9223372036854775808<=g.key∧g.key<=9223372036854775807value:-9223372036854775808<=g.value∧g.value<=9223372036854775807
def aI(w:F)(b o:Nat)(g:Gr):Prop:=w.cell? ⟨b,o,G⟩=I (Y tE g.kind)∧w.cell? ⟨b,o+1,G⟩=I (Y tE g.sess)∧w.cell? ⟨b,o+2,G⟩=I (Y tE g.name)∧w.cell? ⟨b,o+3,G⟩=I (Y tE g.key)∧w.cell? ⟨b,o+4,G⟩=I (Y tE g.value)
theorem aI.grown{w w':F}{b o:Nat}{g:Gr}(h:aI w b o g)(hg:L w w' G):aI w' b o g:=⟨hg.cell h.1 (by
 simp),hg.cell h.2.1 (by
 simp),hg.cell h.2.2.1 (by
 simp),hg.cell h.2.2.2.1 (by
 simp),hg.cell h.2.2.2.2 (by
 simp)⟩
def UL(w:F)(v:H)(l:List Gr):Prop:=∃a cap,v=J a l.length cap∧l.length<=cap∧(l=[]∨∃b o,a=I ⟨b,o,G⟩∧∀i,i<l.length->aI w b (o+i*5) (l.getD i kC))
theorem UL.shape{w:F}{v:H}{l:List Gr}(h:UL w v l):∃a cap,v=J a l.length cap:=by
 obtain⟨a,cap,rfl,_⟩:=h;exact⟨a,cap,rfl⟩
theorem UL.grown{w w':F}{v:H}{l:List Gr}(h:UL w v l)(hg:L w w' G):UL w' v l:=by
 obtain⟨a,cap,rfl,hc,h⟩:=h;refine⟨a,cap,rfl,hc,?_⟩;rcases h with h|⟨b,o,rfl,h⟩;·exact .inl h
 ·exact .inr ⟨b,o,rfl,fun i hi=>(h i hi).grown hg⟩
theorem UL.at{w:F}{a:Option rU}{n cap:Nat}{l:List Gr}(h:UL w (J a n cap) l)(i:Nat)(hi:i<l.length):∃b o,a=I ⟨b,o,G⟩∧aI w b (o+i*5) (l.getD i kC):=by
 obtain⟨a',cap',e,_,h⟩:=h;simp only[tL]at e;obtain⟨rfl,_,_⟩:=e;rcases h with rfl|⟨b,o,rfl,h⟩;·simp at hi
 ·exact⟨b,o,rfl,h i hi⟩
def S5(l:List Gr):Prop:=∀g∈l,F4 g
theorem Mt{l:List Gr}{m:Nat}(h:m<l.length):YF l (m+1)=YF l m++[RG (l.getD m kC)]:=by
 unfold YF;rw[List.take_add_one,List.map_append];simp[h]
theorem Cq(l:List Gr)(m:Nat):(YF l m).length=min m l.length:=by
 simp[YF]
def Ee:Prop:=∀(w:F)(v:H)(l:List Gr)(most:Nat),UL w v l->S5 l->UT w->most<=1000->rC S 7 #[v,Y tE (most:Int)] w fun e w'=>∃x,e=tK x∧Vb w.heap.size w' x (YF l most)∧L w w' G
def Oi:Prop:=∀(w:F)(n t:Int),-9223372036854775808<=n->n<=9223372036854775807->-9223372036854775808<=t->t<=9223372036854775807->rC S 108 #[Y tE n,Y tE t] w fun e w'=>e=tK (tN (ZH n t))∧L w w' G
def jT{α:Type}(p:α->Bool):List α->Option Nat|[]=>G|a::l=>if p a=M then I 0 else(jT p l).map (·+1)
def ZK{α:Type}(p:α->Bool)(l:List α):Int:=match jT p l with|I i=>(i:Int)|none=>-1
theorem FS{α:Type}(p:α->Bool)(d:α):∀(l:List α)(m:Nat),m<l.length->(l.take m).any p=N->p (l.getD m d)=M->jT p l=I m|[],_,h,_,_=>by simp at h|a::l,0,_,_,h=>by have h':p a=M:=h;rw[jT,if_pos h']|a::l,m+1,h0,h1,h2=>by rw[sS,rB,sX]at h1;rw[jT,if_neg (by rw[h1.1];decide),FS p d l m (by simpa using h0) h1.2 (by simpa using h2)];rfl
theorem PQ{α:Type}(p:α->Bool):∀(l:List α),l.any p=N->jT p l=G|[],_=>rfl|a::l,h=>by rw[rB,sX]at h;rw[jT,if_neg (by rw[h.1];decide),PQ p l h.2];rfl
theorem qK{α:Type}(p:α->Bool)(d:α)(l:List α)(m:Nat)(h:m<l.length)(h1:(l.take m).any p=N)(h2:p (l.getD m d)=M):ZK p l=(m:Int):=by
 rw[ZK,FS p d l m h h1 h2]
theorem KU{α:Type}(p:α->Bool)(l:List α)(h:l.any p=N):ZK p l=-1:=by
 rw[ZK,PQ p l h]
theorem UZ{α:Type}(p:α->Bool)(d:α):∀(l:List α),l.any p=M->∃m,m<l.length∧(l.take m).any p=N∧p (l.getD m d)=M∧ZK p l=(m:Int)|[],h=>by simp at h|a::l,h=>by by_cases ha:p a=M;(·exact⟨0,by simp,by simp,ha,qK p d (a::l) 0 (by simp) (by simp) ha⟩);·(have hf:p a=N:=by simpa using ha);rw[rB,hf,oE]at h;obtain⟨m,h1,h2,h3,_⟩:=UZ p d l h;(have e1:m+1<(a::l).length:=by simp;omega);(have e2:((a::l).take (m+1)).any p=N:=by rw[sS,rB,hf,h2];rfl);(have e3:p ((a::l).getD (m+1) d)=M:=by simpa using h3);exact⟨m+1,e1,e2,e3,qK p d _ _ e1 e2 e3⟩
theorem kG{α:Type}(p:α->Bool)(l:List α):(ZK p l==-1)=!(l.any p):=by
 cases h:l.any p with|false=>rw[KU p l h];rfl|true=>cases l with|nil=>simp at h|cons a l=>obtain⟨m,_,_,_,e⟩:=UZ p a (a::l) h;rw[e];(have:((m:Int)==-1)=N:=by simp);rw[this];rfl
theorem Tj{α:Type}(p:α->Bool)(l:List α):tD (0<=ZK p l)=l.any p:=by
 cases h:l.any p with|false=>rw[KU p l h];rfl|true=>cases l with|nil=>simp at h|cons a l=>obtain⟨m,_,_,_,e⟩:=UZ p a (a::l) h;rw[e];simp
def Yr(w:F)(v:H)(r:Rd):Prop:=∃vn vk vl,v=sH #[vn,vk,tN r.wide,vl]∧Qe w vn r.name∧Qe w vk r.key∧Qe w vl r.last
theorem Yr.grown{w w':F}{v:H}{r:Rd}(h:Yr w v r)(hg:L w w' G):Yr w' v r:=by
 obtain⟨vn,vk,vl,rfl,h1,h2,h3⟩:=h;exact⟨vn,vk,vl,rfl,h1.grown hg,h2.grown hg,h3.grown hg⟩
theorem Yr.agg{w:F}{v:H}{r:Rd}(h:Yr w v r):∃na nc ka kc la lc,v=sH #[J na r.name.length nc,J ka r.key.length kc,tN r.wide,J la r.last.length lc]:=by
 obtain⟨vn,vk,vl,rfl,h1,h2,h3⟩:=h;obtain⟨na,nc,rfl⟩:=h1.shape;obtain⟨ka,kc,rfl⟩:=h2.shape;obtain⟨la,lc,rfl⟩:=h3.shape;exact⟨na,nc,ka,kc,la,lc,rfl⟩
theorem Yr.parts{w:F}{r:Rd}{x y g z:H}(h:Yr w (sH #[x,y,g,z]) r):Qe w x r.name∧Qe w y r.key∧g=tN r.wide∧Qe w z r.last:=by
 obtain⟨vn,vk,vl,e,h1,h2,h3⟩:=h;simp only[pE,pI,rY,and_true]at e;obtain⟨rfl,rfl,rfl,rfl⟩:=e;exact⟨h1,h2,rfl,h3⟩
structure Pt(r:Rd):Prop where name:r.name.length<=140737488355328key:r.key.length<=140737488355328last:r.last.length<=140737488355328
def TY(w:F)(b o:Nat)(r:Rd):Prop:=∃vn vk vl,w.cell? ⟨b,o,G⟩=I vn∧w.cell? ⟨b,o+1,G⟩=I vk∧w.cell? ⟨b,o+2,G⟩=I (tN r.wide)∧w.cell? ⟨b,o+3,G⟩=I vl∧Qe w vn r.name∧Qe w vk r.key∧Qe w vl r.last
theorem TY.grown{w w':F}{b o:Nat}{r:Rd}(h:TY w b o r)(hg:L w w' G):TY w' b o r:=by
 obtain⟨vn,vk,vl,c1,c2,c3,c4,h1,h2,h3⟩:=h;exact⟨vn,vk,vl,hg.cell c1 (by simp),hg.cell c2 (by simp),hg.cell c3 (by simp),hg.cell c4 (by simp),h1.grown hg,h2.grown hg,h3.grown hg⟩
def Z8(w:F)(v:H)(l:List Rd):Prop:=∃a cap,v=J a l.length cap∧l.length<=cap∧((l=[]∧(a=G->cap=0))∨∃b o,a=I ⟨b,o,G⟩∧∀i,i<l.length->TY w b (o+i*4) (l.getD i Zd))
theorem Cj(w:F):Z8 w (J G 0 0) []:=⟨G,0,rfl,tX _,.inl ⟨rfl,fun _=>rfl⟩⟩
theorem Z8.shape{w:F}{v:H}{l:List Rd}(h:Z8 w v l):∃a cap,v=J a l.length cap:=by
 obtain⟨a,cap,rfl,_⟩:=h;exact⟨a,cap,rfl⟩
theorem Z8.grown{w w':F}{v:H}{l:List Rd}(h:Z8 w v l)(hg:L w w' G):Z8 w' v l:=by
 obtain⟨a,cap,rfl,hc,h⟩:=h;refine⟨a,cap,rfl,hc,?_⟩;rcases h with h|⟨b,o,rfl,h⟩;·exact .inl h
 ·exact .inr ⟨b,o,rfl,fun i hi=>(h i hi).grown hg⟩
theorem Z8.at{w:F}{a:Option rU}{n cap:Nat}{l:List Rd}(h:Z8 w (J a n cap) l)(i:Nat)(hi:i<l.length):∃b o,a=I ⟨b,o,G⟩∧TY w b (o+i*4) (l.getD i Zd):=by
 obtain⟨a',cap',e,hc,h⟩:=h;simp only[tL]at e;obtain⟨rfl,rfl,rfl⟩:=e;rcases h with⟨rfl,_⟩|⟨b,o,rfl,h⟩;·simp at hi
 ·exact⟨b,o,rfl,h i hi⟩
structure gC (l : List Rd) : Prop where
  many : l.length * 80 <= 140737488355328
  each : ∀ i, i < l.length -> Pt (l.getD i Zd)
structure zY (t : Tx) : Prop where
  start : -9223372036854775808 <= t.start ∧ t.start <= 9223372036854775807
  reads : gC t.reads
  writes : kS t.writes
def GN(w:F)(v:H)(t:Tx):Prop:=∃vr vw,v=sH #[Y tE t.start,vr,vw]∧Z8 w vr t.reads∧QQ w vw t.writes
theorem GN.grown{w w':F}{v:H}{t:Tx}(h:GN w v t)(hg:L w w' G):GN w' v t:=by
 obtain⟨vr,vw,rfl,h1,h2⟩:=h;exact⟨vr,vw,rfl,h1.grown hg,h2.grown hg⟩
theorem GN.agg{w:F}{v:H}{t:Tx}(h:GN w v t):∃ra rc wa wc,v=sH #[Y tE t.start,J ra t.reads.length rc,J wa t.writes.length wc]:=by
 obtain⟨vr,vw,rfl,h1,h2⟩:=h;obtain⟨ra,rc,rfl⟩:=h1.shape;obtain⟨wa,wc,rfl⟩:=h2.shape;exact⟨ra,rc,wa,wc,rfl⟩
theorem GN.parts{w:F}{t:Tx}{x y z:H}(h:GN w (sH #[x,y,z]) t):x=Y tE t.start∧Z8 w y t.reads∧QQ w z t.writes:=by
 obtain⟨vr,vw,e,h1,h2⟩:=h;simp only[pE,pI,rY,and_true]at e;obtain⟨rfl,rfl,rfl⟩:=e;exact⟨rfl,h1,h2⟩
theorem Pe{r:Rd}(h:XA r=0):Pt r:=by
 obtain⟨h1,h2,h3⟩:=(R9 r).1 h;refine⟨by omega,by omega,?_⟩;split at h3;·omega
 ·rw[h3];simp
abbrev RV:=Rd×H×H×H
def C5:RV:=(Zd,sM,sM,sM)
def Gl(us:List RV):List H:=us.flatMap fun x=>[x.2.1,x.2.2.1,tN x.1.wide,x.2.2.2]
theorem Np(a b:List RV):Gl (a++b)=Gl a++Gl b:=by
 simp[Gl]
theorem EF:∀(us:List RV)(i:Nat),i<us.length->(Gl us)[i*4]?=I (us.getD i C5).2.1∧(Gl us)[i*4+1]?=I (us.getD i C5).2.2.1∧(Gl us)[i*4+2]?=I (tN (us.getD i C5).1.wide)∧(Gl us)[i*4+3]?=I (us.getD i C5).2.2.2|[],i,h=>by simp at h|x::us,0,_=>⟨rfl,rfl,rfl,rfl⟩|x::us,i+1,h=>by have:=EF us i (by simpa using h);rw[show(i+1)*4=i*4+4by omega];exact this
theorem fK:(157:Nat)≠5:=by
 decide
theorem fW:(157:Nat)≠97:=by
 decide
def ZJ(rb pb:Nat)(w:F)(v:H)(l:List Rd):Prop:=∃us:List RV,us.map (·.1)=l∧w.ownsRow rb 157 4 v l.length (Gl us)∧∀x∈us,Qj pb w x.2.1 x.1.name∧Qj pb w x.2.2.1 x.1.key∧Qj pb w x.2.2.2 x.1.last
theorem Uj(rb pb:Nat)(w:F):ZJ rb pb w (J G 0 0) []:=⟨[],rfl,sP _ _ _ _,fun x hx=>by
 simp at hx⟩
theorem ZJ.row{rb pb:Nat}{w:F}{v:H}{l:List Rd}(h:ZJ rb pb w v l):v.ownBlock=G∨∃g cur fz,v.ownBlock=I g∧rb<=g∧w.heap[g]?=I (O cur 157 fz):=by
 obtain⟨us,_,h,_⟩:=h;rcases h.2with⟨rfl,_⟩|⟨g,cap,cur,rfl,hb,hg,_⟩;·exact .inl rfl
 ·exact .inr ⟨g,cur,_,rfl,hb,hg⟩
theorem ZJ.lt{rb pb:Nat}{w:F}{v:H}{l:List Rd}(h:ZJ rb pb w v l):∀k,v.ownBlock=I k->rb<=k∧k<w.heap.size:=by
 obtain⟨us,_,h,_⟩:=h;exact sG h
theorem ZJ.ne{rb pb:Nat}{w:F}{v:H}{l:List Rd}(h:ZJ rb pb w v l){b:Nat}{cs:Array H}{t:tV}{fz:Nat×Nat}(hb:w.heap[b]?=I (O cs t fz))(ht:t≠157):v.ownBlock≠I b:=by
 intro e;rcases h.row with h0|⟨g,cur,fz2,h1,_,h2⟩;·rw[h0]at e;cases e
 ·rw[h1]at e;cases e;rw[hb]at h2;simp only[tB,sA]at h2;exact ht h2.2.1
theorem ZJ.kept{rb pb:Nat}{w w':F}{v:H}{l:List Rd}(h:ZJ rb pb w v l){row:Option Nat}(hg:L w w' row)(hne:v.ownBlock=G∨v.ownBlock≠row)(hrow:row=G∨∃g cur t fz,row=I g∧pb<=g∧w.heap[g]?=I (O cur t fz)∧t≠5):ZJ rb pb w' v l:=by
 obtain⟨us,h1,h2,h3⟩:=h;exact⟨us,h1,tZ h2 hg hne,fun x hx=>⟨(h3 x hx).1.keptT hg hrow,(h3 x hx).2.1.keptT hg hrow,(h3 x hx).2.2.keptT hg hrow⟩⟩
theorem ZJ.grownNone{rb pb:Nat}{w w':F}{v:H}{l:List Rd}(h:ZJ rb pb w v l)(hg:L w w' G):ZJ rb pb w' v l:=h.kept hg (by
 cases hv:v.ownBlock with|none=>exact .inl rfl|some k=>exact .inr (by simp)) (.inl rfl)
theorem ZJ.setOther{rb pb:Nat}{w:F}{v:H}{l:List Rd}(h:ZJ rb pb w v l){b i:Nat}{cs:Array H}{t:tV}{fz:Nat×Nat}(hb:w.heap[b]?=I (O cs t fz))(ht:t≠5)(ht2:t≠157)(hbb:pb<=b)(u:H):ZJ rb pb (tC w ⟨b,i,G⟩ u) v l:=h.kept (YK w b i u) (.inr (h.ne hb ht2)) (.inr ⟨b,cs,t,fz,rfl,hbb,hb,ht⟩)
theorem ZJ.down{rb pb:Nat}{w:F}{v:H}{l:List Rd}(h:ZJ rb pb w v l)(rb':Nat)(hb:rb'<=rb):ZJ rb' pb w v l:=by
 obtain⟨us,h1,h2,h3⟩:=h;refine⟨us,h1,⟨h2.1,?_⟩,h3⟩;rcases h2.2with h|⟨g,cap,cur,e,hb2,rest⟩;·exact .inl h
 ·exact .inr ⟨g,cap,cur,e,tP hb hb2,rest⟩
theorem ZJ.shape{rb pb:Nat}{w:F}{v:H}{l:List Rd}(h:ZJ rb pb w v l):∃a cap,v=J a l.length cap:=by
 obtain⟨us,_,h,_⟩:=h;rcases h.2with⟨rfl,h0⟩|⟨g,cap,cur,rfl,_⟩;·exact⟨G,0,by rw[h0]⟩
 ·exact⟨_,cap,rfl⟩
theorem Wm{us:List RV}{l:List Rd}(h:us.map (·.1)=l)(i:Nat)(hi:i<l.length):(us.getD i C5).1=l.getD i Zd∧us.getD i C5∈us:=by
 subst h;have hi':i<us.length:=by simpa using hi
 refine⟨by simp[hi'],?_⟩;rw[show us.getD i C5=us[i]by simp[hi']];exact sU hi'
theorem ZJ.list{rb pb:Nat}{w:F}{v:H}{l:List Rd}(h:ZJ rb pb w v l):Z8 w v l:=by
 obtain⟨us,hl,hr,h3⟩:=h;rcases hr.2with⟨rfl,h0⟩|⟨g,cap,cur,rfl,hb,hg,hn,hm,hs,ht⟩;·have:l=[]:=tG h0;rw[this];exact Cj w
 ·(have hcell:∀j u,(Gl us)[j]?=I u->w.cell? ⟨g,j,G⟩=I u:=by intro j u hj;(have hlt:j<l.length*4:=by have:=(sI.1 hj).1;rw[hr.1]at this;exact this);(have e2:(cur.toList.take (l.length*4))[j]?=(Gl us)[j]?:=by rw[ht]);rw[sC,if_pos hlt,hj]at e2;simp[tW,hg];simpa using e2);refine⟨_,cap,rfl,hn,.inr ⟨g,0,rfl,fun i hi=>?_⟩⟩;obtain⟨e1,e2⟩:=Wm hl i hi;(have hlen:us.length=l.length:=by rw[<-hl];simp);obtain⟨c1,c2,c3,c4⟩:=EF us i (by omega);have hp:=h3 _ e2;rw[e1]at c3 hp;rw[sR];exact⟨_,_,_,hcell _ _ c1,hcell _ _ c2,hcell _ _ c3,hcell _ _ c4,hp.1.1,hp.2.1.1,hp.2.2.1⟩
theorem Th{rb pb:Nat}{w W w1:F}{v:H}{l:List Rd}(h:L w W G)(ho:ZJ rb pb W v l)(hb:w.heap.size<=rb)(hg:L W w1 v.ownBlock):L w w1 G:=⟨hg.os.trans h.os,hg.tape.trans h.tape,hg.output.trans h.output,tP h.size hg.size,fun i hi hn=>(hg.block i (tI hi h.size) (fun e=>by
 have:=(ho.lt i e.symm).1;omega)).trans (h.block i hi hn)⟩
theorem fH:(S.info? 157).map (fun i=>(i.zero,i.size,i.bytes))=I (I (sH #[J G 0 0,J G 0 0,tN N,J G 0 0]),4,80):=by
 kernel_rfl
def GI(w:F)(v:H)(t:Tx):Prop:=∃vr vw,v=sH #[Y tE t.start,vr,vw]∧ZJ 0 0 w vr t.reads∧Q4 0 0 w vw t.writes
theorem GI.is{w:F}{v:H}{t:Tx}(h:GI w v t):GN w v t:=by
 obtain⟨vr,vw,rfl,h1,h2⟩:=h;exact⟨vr,vw,rfl,h1.list,h2.list⟩
theorem zW(w:F):GI w (sH #[Y tE 0,J G 0 0,J G 0 0]) Fh:=⟨_,_,rfl,Uj 0 0 w,Xv 0 0 w⟩
def vV(t:tV):Prop:=t=118∨t=60∨t=208∨t=25∨t=3
def Sz(B:Nat)(w:F)(i:Nat):Prop:=i<B∨∀cs t fz,w.heap[i]?=I (O cs t fz)->(¬vV t∨∃q,cs[0]?=I (Y rS q))
structure Kp (B : Nat) (w w' : F) : Prop where
  os : w'.os = w.os
  tape : w'.tape = w.tape
  output : w'.output = w.output
  size : w.heap.size <= w'.heap.size
  keep : ∀ i, i < w.heap.size -> Sz B w i -> w'.heap[i]? = w.heap[i]?
theorem Kp.refl(B:Nat)(w:F):Kp B w w:=⟨rfl,rfl,rfl,tX _,fun _ _ _=>rfl⟩
theorem Sz.same{B:Nat}{w w':F}{i:Nat}(h:Sz B w i)(e:w'.heap[i]?=w.heap[i]?):Sz B w' i:=by
 rcases h with h|h;·exact .inl h
 ·exact .inr fun cs t fz hc=>h cs t fz (by rw[<-e];exact hc)
theorem Kp.trans{B:Nat}{w w1 w2:F}(h:Kp B w w1)(k:Kp B w1 w2):Kp B w w2:=⟨k.os.trans h.os,k.tape.trans h.tape,k.output.trans h.output,tP h.size k.size,fun i hi hs=>by
 have e:=h.keep i hi hs;exact(k.keep i (tI hi h.size) (hs.same e)).trans e⟩
theorem Kp.grown{B:Nat}{w w':F}(h:L w w' G):Kp B w w':=⟨h.os,h.tape,h.output,h.size,fun i hi _=>h.block i hi (by
 simp)⟩
theorem Kp.turn{B:Nat}{w w':F}{g:Nat}{cs:Array H}{t:tV}{fz:Nat×Nat}(h:L w w' (I g))(hB:B<=g)(hb:w.heap[g]?=I (O cs t fz))(ht:vV t)(h0:∀q,cs[0]?≠I (Y rS q)):Kp B w w':=⟨h.os,h.tape,h.output,h.size,fun i hi hs=>by
 refine h.block i hi fun e=>?_;cases e;rcases hs with hs|hs;·omega
 ·rcases hs cs t fz hb with h1|⟨q,h1⟩;(·exact h1 ht);·exact h0 q h1⟩
theorem Kp.low{B:Nat}{w w':F}(h:Kp B w w')(w0:F)(hg:L w0 w G)(hB:w0.heap.size<=B):L w0 w' G:=⟨h.os.trans hg.os,h.tape.trans hg.tape,h.output.trans hg.output,tP hg.size h.size,fun i hi hn=>(h.keep i (tI hi hg.size) (.inl (by
 omega))).trans (hg.block i hi hn)⟩
def VQ(t:tV):Prop:=t=5∨t=56∨t=131∨t=97∨t=157∨t=232
def zG(t:tV):Prop:=¬VQ t
theorem vV.two{t:tV}(h:vV t):zG t:=by
 rcases h with rfl|rfl|rfl|rfl|rfl<;>simp[zG,VQ]
def Mm(B:Nat)(w:F)(i:Nat):Prop:=i<B∨∀cs t fz,w.heap[i]?=I (O cs t fz)->(¬zG t∨∃q,cs[0]?=I (Y rS q))
structure C4 (B : Nat) (w w' : F) : Prop where
  os : w'.os = w.os
  tape : w'.tape = w.tape
  output : w'.output = w.output
  size : w.heap.size <= w'.heap.size
  keep : ∀ i, i < w.heap.size -> Mm B w i -> w'.heap[i]? = w.heap[i]?
theorem Kp.two{B C:Nat}{w w':F}(h:Kp B w w')(hC:C<=B):C4 C w w':=⟨h.os,h.tape,h.output,h.size,fun i hi hs=>h.keep i hi (by
 rcases hs with hs|hs;·exact .inl (tI hs hC)
 ·exact .inr fun cs t fz hc=>(hs cs t fz hc).imp (fun h1 h2=>h1 h2.two) id)⟩
theorem C4.refl(B:Nat)(w:F):C4 B w w:=⟨rfl,rfl,rfl,tX _,fun _ _ _=>rfl⟩
theorem Mm.same{B:Nat}{w w':F}{i:Nat}(h:Mm B w i)(e:w'.heap[i]?=w.heap[i]?):Mm B w' i:=by
 rcases h with h|h;·exact .inl h
 ·exact .inr fun cs t fz hc=>h cs t fz (by rw[<-e];exact hc)
theorem C4.trans{B:Nat}{w w1 w2:F}(h:C4 B w w1)(k:C4 B w1 w2):C4 B w w2:=⟨k.os.trans h.os,k.tape.trans h.tape,k.output.trans h.output,tP h.size k.size,fun i hi hs=>by
 have e:=h.keep i hi hs;exact(k.keep i (tI hi h.size) (hs.same e)).trans e⟩
theorem C4.grown{B:Nat}{w w':F}(h:L w w' G):C4 B w w':=⟨h.os,h.tape,h.output,h.size,fun i hi _=>h.block i hi (by
 simp)⟩
def SZ(w:F)(i:Nat):Prop:=∀cs t fz,w.heap[i]?=I (O cs t fz)->(VQ t∨t=60∨∃q,cs[0]?=I (Y rS q))
structure KL (w w' : F) : Prop where
  os : w'.os = w.os
  tape : w'.tape = w.tape
  output : w'.output = w.output
  size : w.heap.size <= w'.heap.size
  keep : ∀ i, i < w.heap.size -> SZ w i -> w'.heap[i]? = w.heap[i]?
theorem KL.two{w w':F}(h:KL w w'):C4 0 w w':=⟨h.os,h.tape,h.output,h.size,fun i hi hs=>h.keep i hi fun cs t fz hc=>by
 rcases hs with hs|hs;·omega
 ·rcases hs cs t fz hc with h1|h1;(·exact .inl (sW h1));·exact .inr (.inr h1)⟩
theorem KL.refl(w:F):KL w w:=⟨rfl,rfl,rfl,tX _,fun _ _ _=>rfl⟩
theorem SZ.same{w w':F}{i:Nat}(h:SZ w i)(e:w'.heap[i]?=w.heap[i]?):SZ w' i:=fun cs t fz hc=>h cs t fz (by
 rw[<-e];exact hc)
theorem KL.trans{w w1 w2:F}(h:KL w w1)(k:KL w1 w2):KL w w2:=⟨k.os.trans h.os,k.tape.trans h.tape,k.output.trans h.output,tP h.size k.size,fun i hi hs=>by
 have e:=h.keep i hi hs;exact(k.keep i (tI hi h.size) (hs.same e)).trans e⟩
theorem KL.grown{w w':F}(h:L w w' G):KL w w':=⟨h.os,h.tape,h.output,h.size,fun i hi _=>h.block i hi (by
 simp)⟩
theorem KL.turn{w w':F}{row:Option Nat}(h:L w w' row)(hr:∀g,row=I g->∃cs t fz,w.heap[g]?=I (O cs t fz)∧¬VQ t∧t≠60∧∀q,cs[0]?≠I (Y rS q)):KL w w':=⟨h.os,h.tape,h.output,h.size,fun i hi hs=>by
 refine h.block i hi fun e=>?_;obtain⟨cs,t,fz,hb,h1,h2,h3⟩:=hr i e.symm;rcases hs cs t fz hb with h4|h4|⟨q,h4⟩;·exact h1 h4
 ·exact h2 h4
 ·exact h3 q h4⟩
def Yz(w:F)(P:F->Prop):Prop:=∀w',KL w w'->P w'
theorem Yz.now{w:F}{P:F->Prop}(h:Yz w P):P w:=h w (KL.refl w)
theorem Yz.later{w w':F}{P:F->Prop}(h:Yz w P)(k:KL w w'):Yz w' P:=fun w2 k2=>h w2 (k.trans k2)
theorem Yz.grown{w w':F}{P:F->Prop}(h:Yz w P)(k:L w w' G):Yz w' P:=h.later (KL.grown k)
def Y9(w:F)(P:F->Prop):Prop:=∀w',L w w' G->P w'
theorem Y9.now{w:F}{P:F->Prop}(h:Y9 w P):P w:=h w (Qb w G)
theorem Y9.grown{w w':F}{P:F->Prop}(h:Y9 w P)(k:L w w' G):Y9 w' P:=fun w2 k2=>h w2 (Qa k k2)
def Zb(B:Nat)(w:F)(P:F->Prop):Prop:=∀w',C4 B w w'->P w'
theorem Zb.now{B:Nat}{w:F}{P:F->Prop}(h:Zb B w P):P w:=h w (C4.refl B w)
theorem Zb.later{B C:Nat}{w w':F}{P:F->Prop}(h:Zb C w P)(k:Kp B w w')(hC:C<=B:=by
 first|exact Nat.zero_le _|exact Nat.le_refl _):Zb C w' P:=fun w2 k2=>h w2 ((k.two hC).trans k2)
theorem Zb.later2{C:Nat}{w w':F}{P:F->Prop}(h:Zb C w P)(k:C4 C w w'):Zb C w' P:=fun w2 k2=>h w2 (k.trans k2)
theorem Zb.grown{C:Nat}{w w':F}{P:F->Prop}(h:Zb C w P)(k:L w w' G):Zb C w' P:=h.later2 (C4.grown k)
theorem Zb.mono{B:Nat}{w:F}{P Q:F->Prop}(h:Zb B w P)(k:∀w',P w'->Q w'):Zb B w Q:=fun w' h'=>k w' (h w' h')
theorem Vm{w w':F}{v:H}{bs:List UInt8}(h:Qe w v bs)(hb:bs=[]∨∃b,v.ownBlock=I b∧w'.heap[b]?=w.heap[b]?):Qe w' v bs:=by
 obtain⟨a,cap,rfl,hc,h⟩:=h;refine⟨a,cap,rfl,hc,?_⟩;rcases h with h|⟨b,o,rfl,h⟩;·exact .inl h
 ·refine .inr ⟨b,o,rfl,fun i hi=>?_⟩;rcases hb with rfl|⟨b',e,hb⟩;(·simp at hi);·simp[pK]at e;subst e;rw[sO hb];exact h i hi
theorem f7:¬zG 5:=by
 simp[zG,VQ]
theorem ZW{B:Nat}{w:F}{v:H}{bs:List UInt8}(h:Qj 0 w v bs):Zb B w (fun w=>Qj 0 w v bs):=fun w' k=>by
 obtain⟨h1,h2⟩:=h;rcases h2 with h2|⟨b,e,hl,h2⟩;·exact⟨Vm h1 (.inl h2),.inl h2⟩
 ·(obtain⟨cur,fz,h2⟩:∃cur fz,w.heap[b]?=I (O cur 5 fz):=by rcases h2 with h2|h2;(·omega);·exact h2);have hs:w'.heap[b]?=w.heap[b]?:=k.keep b hl (.inr fun cs t f hc=>.inl (by rw[h2]at hc;simp only[tB,sA]at hc;rw[<-hc.2.1];exact f7));exact⟨Vm h1 (.inr ⟨b,e,hs⟩),.inr ⟨b,e,tI hl k.size,.inr ⟨cur,fz,by rw[hs];exact h2⟩⟩⟩
theorem Gm{B:Nat}{w:F}{v:H}{bs:List UInt8}(h:XU w v bs):Zb B w (fun w=>XU w v bs):=fun w' k=>by
 obtain⟨h1,h2⟩:=h;rcases h2 with h2|⟨b,e,hl,cur,t,fz,h2,h3⟩;·exact⟨Vm h1 (.inl h2),.inl h2⟩
 ·have hs:w'.heap[b]?=w.heap[b]?:=k.keep b hl (.inr fun cs t' f hc=>by rw[h2]at hc;simp only[tB,sA]at hc;obtain⟨rfl,rfl,_⟩:=hc;rcases h3 with rfl|h3;(·exact .inl f7);·exact .inr h3);exact⟨Vm h1 (.inr ⟨b,e,hs⟩),.inr ⟨b,e,tI hl k.size,cur,t,fz,by rw[hs];exact h2,h3⟩⟩
theorem UG{B base:Nat}{w:F}{t:tV}{n m:Nat}{v:H}{xs:List H}(h:w.ownsRow base t n v m xs)(ht:¬zG t):Zb B w (fun w=>w.ownsRow base t n v m xs):=fun w' k=>by
 refine⟨h.1,?_⟩;rcases h.2with h|⟨g,cap,cur,e,hb,hg,rest⟩;·exact .inl h
 ·refine .inr ⟨g,cap,cur,e,hb,?_,rest⟩;rw[k.keep g (tH.1 hg).1 (.inr fun cs t' f hc=>.inl (by rw[hg]at hc;simp only[tB,sA]at hc;rw[<-hc.2.1];exact ht))];exact hg
theorem Ah{B rb:Nat}{w:F}{v:H}{l:List Rd}(h:ZJ rb 0 w v l):Zb B w (fun w=>ZJ rb 0 w v l):=fun w' k=>by
 obtain⟨us,h1,h2,h3⟩:=h;exact⟨us,h1,UG h2 (by simp[zG,VQ]) w' k,fun x hx=>⟨ZW (h3 x hx).1 w' k,ZW (h3 x hx).2.1 w' k,ZW (h3 x hx).2.2 w' k⟩⟩
theorem Bn{B rb:Nat}{w:F}{v:H}{l:List Ze}(h:Q4 rb 0 w v l):Zb B w (fun w=>Q4 rb 0 w v l):=fun w' k=>by
 obtain⟨us,h1,h2,h3⟩:=h;exact⟨us,h1,UG h2 (by simp[zG,VQ]) w' k,fun x hx=>⟨ZW (h3 x hx).1 w' k,ZW (h3 x hx).2.1 w' k,ZW (h3 x hx).2.2 w' k⟩⟩
theorem Vq{B:Nat}{w:F}{v:H}{l:PL}(h:QN 0 w v l):Zb B w (fun w=>QN 0 w v l):=fun w' k=>by
 obtain⟨a,cap,rfl,hc,h⟩:=h;refine⟨a,cap,rfl,hc,?_⟩;rcases h with h|⟨b,o,rfl,hb,h⟩;·exact .inl h
 ·(obtain⟨cur,fz,hb⟩:∃cur fz,w.heap[b]?=I (O cur 56 fz):=by rcases hb with hb|hb;(·omega);·exact hb);have hs:w'.heap[b]?=w.heap[b]?:=k.keep b (tH.1 hb).1 (.inr fun cs t f hc=>.inl (by rw[hb]at hc;simp only[tB,sA]at hc;rw[<-hc.2.1];simp[zG,VQ]));refine .inr ⟨b,o,rfl,.inr ⟨cur,fz,by rw[hs];exact hb⟩,fun i hi=>?_⟩;obtain⟨vk,vv,c1,c2,h1,h2⟩:=h i hi;exact⟨vk,vv,by rw[sO hs];exact c1,by rw[sO hs];exact c2,ZW h1 w' k,ZW h2 w' k⟩
theorem Bw{B rb:Nat}{w:F}{v:H}{l:FL}(h:Zx rb w v l):Zb B w (fun w=>Zx rb w v l):=fun w' k=>by
 obtain⟨vs,h1,h2,h3⟩:=h;exact⟨vs,h1,UG h2 (by simp[zG,VQ]) w' k,fun i hi=>⟨ZW (h3 i hi).1 w' k,Vq (h3 i hi).2 w' k⟩⟩
theorem Ru{B:Nat}{w:F}{v:H}{l:List Ze}(h:Xn 0 w v l):Zb B w (fun w=>Xn 0 w v l):=fun w' k=>by
 obtain⟨a,cap,rfl,hc,h⟩:=h;refine⟨a,cap,rfl,hc,?_⟩;rcases h with h|⟨b,o,rfl,hb,h⟩;·exact .inl h
 ·(obtain⟨cur,fz,hb⟩:∃cur fz,w.heap[b]?=I (O cur 97 fz):=by rcases hb with hb|hb;(·omega);·exact hb);have hs:w'.heap[b]?=w.heap[b]?:=k.keep b (tH.1 hb).1 (.inr fun cs t f hc=>.inl (by rw[hb]at hc;simp only[tB,sA]at hc;rw[<-hc.2.1];simp[zG,VQ]));refine .inr ⟨b,o,rfl,.inr ⟨cur,fz,by rw[hs];exact hb⟩,fun i hi=>?_⟩;obtain⟨vn,vk,vv,c1,c2,c3,c4,h1,h2,h3⟩:=h i hi;exact⟨vn,vk,vv,by rw[sO hs];exact c1,by rw[sO hs];exact c2,by rw[sO hs];exact c3,by rw[sO hs];exact c4,ZW h1 w' k,ZW h2 w' k,ZW h3 w' k⟩
theorem yI{B:Nat}{w:F}{v:H}{t:Tx}(h:GI w v t):Zb B w (fun w=>GI w v t):=fun w' k=>by
 obtain⟨vr,vw,rfl,h1,h2⟩:=h;exact⟨vr,vw,rfl,Ah h1 w' k,Bn h2 w' k⟩
theorem AO{B base:Nat}{w:F}{v:H}{l:List kM}(h:JI base w v l):Zb B w (fun w=>JI base w v l):=fun w' k=>by
 obtain⟨us,h1,h2,h3,h4⟩:=h;exact⟨us,h1,UG h2 (by simp[zG,VQ]) w' k,fun x hx=>Gm (h3 x hx) w' k,h4⟩
theorem xT{B n:Nat}{w:F}{v:H}{p:Ds}(h:Zv n w v p):Zb B w (fun w=>UI w v p):=fun w' k=>by
 obtain⟨base,vs,vk,vv,rfl,_,_,h1,h2,h3⟩:=h;exact⟨vs,vk,vv,rfl,(AO h1 w' k).list,(Gm h2 w' k).1,(Gm h3 w' k).1⟩
section
section
variable{α:Type}{T:tV}{k:Nat}{P:F->List H->α->Prop}{B:Nat}{w w':F}{v:H}{l:List α}
def JA(T:tV)(k:Nat)(P:F->List H->α->Prop)(B:Nat)(w:F)(v:H)(l:List α):Prop:=∃us:List (List H×α),us.map (·.2)=l∧w.ownsRow B T k v l.length (us.flatMap (·.1))∧(l=[]->v=J G 0 0)∧∀x∈us,x.1.length=k∧(∀u∈x.1,u.oneCell'=M)∧(∀q,x.1[0]?≠I (Y rS q))∧Zb 0 w (fun w=>P w x.1 x.2)
theorem uZ(T:tV)(k:Nat)(P:F->List H->α->Prop)(B:Nat)(w:F):JA T k P B w (J G 0 0) []:=⟨[],rfl,sP _ _ _ _,fun _=>rfl,fun x hx=>by
 simp at hx⟩
theorem JA.kept(h:JA T k P B w v l)(hk:Kp B w w')(hs:∀g,v.ownBlock=I g->w'.heap[g]?=w.heap[g]?):JA T k P B w' v l:=by
 obtain⟨us,h1,h2,h3,h4⟩:=h;refine⟨us,h1,⟨h2.1,?_⟩,h3,fun x hx=>⟨(h4 x hx).1,(h4 x hx).2.1,(h4 x hx).2.2.1,(h4 x hx).2.2.2.later hk⟩⟩;rcases h2.2with h|⟨g,cap,cur,rfl,hb,hg,rest⟩;·exact .inl h
 ·exact .inr ⟨g,cap,cur,rfl,hb,by rw[hs g rfl];exact hg,rest⟩
theorem JA.kept2(h:JA T k P B w v l)(hk:C4 0 w w')(hs:∀g,v.ownBlock=I g->w'.heap[g]?=w.heap[g]?):JA T k P B w' v l:=by
 obtain⟨us,h1,h2,h3,h4⟩:=h;refine⟨us,h1,⟨h2.1,?_⟩,h3,fun x hx=>⟨(h4 x hx).1,(h4 x hx).2.1,(h4 x hx).2.2.1,(h4 x hx).2.2.2.later2 hk⟩⟩;rcases h2.2with h|⟨g,cap,cur,rfl,hb,hg,rest⟩;·exact .inl h
 ·exact .inr ⟨g,cap,cur,rfl,hb,by rw[hs g rfl];exact hg,rest⟩
theorem JA.lt(h:JA T k P B w v l):∀g,v.ownBlock=I g->B<=g∧g<w.heap.size:=by
 obtain⟨us,h1,h2,h3,h4⟩:=h;exact sG h2
theorem JA.grown(h:JA T k P B w v l)(hg:L w w' G):JA T k P B w' v l:=h.kept (Kp.grown hg) fun g e=>hg.block g (h.lt g e).2 (by
 simp)
theorem JA.shape(h:JA T k P B w v l):∃a cap,v=J a l.length cap:=by
 obtain⟨us,_,h,_⟩:=h;rcases h.2with⟨rfl,h0⟩|⟨g,cap,cur,rfl,_⟩;·exact⟨G,0,by rw[h0]⟩
 ·exact⟨_,cap,rfl⟩
theorem SS{k:Nat}:∀(us:List (List H×α))(_:∀x∈us,x.1.length=k)(i:Nat)(hi:i<us.length)(j:Nat),j<k->(us.flatMap (·.1))[i*k+j]?=us[i].1[j]?|[],_,i,hi,_,_=>by simp at hi|x::us,hk,0,_,j,hj=>by have:=hk x (by simp);simp[pM (show j<x.1.length by omega)]|x::us,hk,i+1,hi,j,hj=>by have hx:=hk x (by simp);have:=SS us (fun y hy=>hk y (by simp[hy])) i (by simpa using hi) j hj;rw[tR,List.getElem?_append_right (by rw[hx,r8];omega),hx,show(i+1)*k+j-k=i*k+j by rw[r8];omega,this];simp
theorem JA.blk(hk0:0<k)(h:JA T k P B w v l):v.ownBlock=G∨∃g cs,v.ownBlock=I g∧B<=g∧w.heap[g]?=I (O cs T (0,0))∧∀q,cs[0]?≠I (Y rS q):=by
 obtain⟨us,h1,h2,h3,h4⟩:=h;rcases h2.2with⟨rfl,_⟩|⟨g,cap,cur,rfl,hb,hg,hn,_,hcs,ht⟩;·exact .inl rfl
 ·refine .inr ⟨g,cur,rfl,hb,hg,fun q hq=>?_⟩;cases us with|nil=>subst h1;have:=h3 rfl;cases this|cons x us=>(have hl:l.length=us.length+1:=by rw[<-h1];simp);(have e:(cur.toList.take (l.length*k))[0]?=((x::us).flatMap (·.1))[0]?:=by rw[ht]);have hx:=(h4 x (by simp)).1;rw[sC,if_pos (by rw[hl,r8];omega),tR,pM (by omega),pA,hq]at e;exact(h4 x (by simp)).2.2.1 q e.symm
theorem JA.turn(hk0:0<k)(hT:vV T)(h:JA T k P B w v l)(hg:L w w' v.ownBlock):Kp B w w':=by
 rcases h.blk hk0 with e|⟨g,cs,e,hb,hc,h0⟩;·rw[e]at hg;exact Kp.grown hg
 ·rw[e]at hg;exact Kp.turn hg hb hc hT h0
theorem JA.other(hk0:0<k)(h:JA T k P B w v l){row:Option Nat}(hk:Kp B w w')(hg:L w w' row)(hr:row=G∨∃g cs t fz,row=I g∧w.heap[g]?=I (O cs t fz)∧t≠T):JA T k P B w' v l:=by
 refine h.kept hk fun g e=>?_;refine hg.block g (h.lt g e).2 fun e2=>?_;rcases hr with rfl|⟨g',cs,t,fz,rfl,hc,ht⟩;·cases e2
 ·cases e2;rcases h.blk hk0 with e3|⟨g2,cs2,e3,_,hc2,_⟩;(·rw[e3]at e;cases e);·rw[e3]at e;cases e;rw[hc]at hc2;simp only[tB,sA]at hc2;exact ht hc2.2.1
theorem JA.at(h:JA T k P B w v l)(d:α)(i:Nat)(hi:i<l.length):∃g cap cs,v=J (I ⟨g,0,G⟩) l.length cap∧cs.length=k∧l.length<=cap∧(∀j,j<k->w.cell? ⟨g,i*k+j,G⟩=cs[j]?)∧Zb 0 w (fun w=>P w cs (l.getD i d)):=by
 obtain⟨us,h1,h2,h3,h4⟩:=h;have hul:us.length=l.length:=by rw[<-h1];simp
 rcases h2.2with⟨rfl,h0⟩|⟨g,cap,cur,rfl,hb,hg,hn,_,hcs,ht⟩;·omega
 ·have hx:=h4 us[i] (sU (by omega));refine⟨g,cap,us[i].1,rfl,hx.1,hn,fun j hj=>?_,?_⟩;(·(have e:(cur.toList.take (l.length*k))[i*k+j]?=(us.flatMap (·.1))[i*k+j]?:=by rw[ht]);(have hlt:i*k+j<l.length*k:=by have:(i+1)*k<=l.length*k:=pC k hi;rw[r8]at this;omega);rw[SS us (fun x hx=>(h4 x hx).1) i (by omega) j hj,sC,if_pos hlt,pA]at e;simp[tW,hg,e]);·(have e:l.getD i d=us[i].2:=by subst h1;simp[List.getD,show i<us.length by omega]);rw[e];exact hx.2.2.2
theorem xS{o:rJ}{a:Act}{K:Act->F->Prop}{Q:Exit->Act->F->Prop}(s x:rH)(t:tV)(ho:o.op=.call {callee:=.builtin .append,args:=#[s,x],argTypes:=#[t,t]})(i:TypeInfo)(z:H)(bytes:Nat)(ht:S.underlying t=I (.slice T))(hi:S.info? T=I i)(hz:i.zero=I z)(hsize:i.size=k)(hby:i.bytes=bytes)(hzs:z.cells.size=k)(hsz:0<k)(hT:vV T)(hs:a.eval s=v)(hown:JA T k P B w v l)(nb:Nat)(cs:List H)(y:α)(hx:a.eval x=J (I ⟨nb,0,G⟩) 1 1)(hcl:cs.length=k)(hc:∀j u,cs[j]?=I u->w.cell? ⟨nb,j,G⟩=I u)(h1:∀u∈cs,u.oneCell'=M)(h0:∀q,cs[0]?≠I (Y rS q))(hP:Zb 0 w (fun w=>P w cs y))(h63:l.length+1<=pG)(hbytes:(l.length+1)*bytes<=140737488355328)(hbase:B<=w.heap.size)(h:∀v' w',JA T k P B w' v' (l++[y])->Kp B w w'->L w w' v.ownBlock->K (a.put o.dst v') w'):o.wp S a w K Q:=by
 have hown0:=hown;obtain⟨us,e1,h2,h3,h4⟩:=hown;refine wp_append_lies w s x t ho B T i z k bytes ht hi hz hsize hby hzs hsz v l.length (us.flatMap (·.1)) hs h2 ⟨nb,0,G⟩ 1 1 cs hx (by omega) (fun j u hj=>by rw[Z4,sR];exact hc j u hj) h1 (by omega) h63 hbytes hbase _ rfl ?_;intro g cap w' hr hg hgg hlt;have hk:=hown0.turn hsz hT hg;refine h _ w' ⟨us++[(cs,y)],by simp[e1],?_,fun e=>by simp at e,fun x hx=>?_⟩ hk hg;·simpa[List.flatMap_append]using hr
 ·rcases tY.1 hx with hx|hx;(·exact⟨(h4 x hx).1,(h4 x hx).2.1,(h4 x hx).2.2.1,(h4 x hx).2.2.2.later hk⟩);·(obtain rfl:x=(cs,y):=by simpa using hx);exact⟨hcl,h1,h0,hP.later hk⟩
theorem JA.take(h:JA T k P B w v l){a:Option rU}{n cap:Nat}(hv:v=J a n cap)(m:Nat)(hm:m<=l.length)(h0:0<m):JA T k P B w (J a m cap) (l.take m):=by
 subst hv;obtain⟨us,h1,h2,h3,h4⟩:=h;have hul:us.length=l.length:=by rw[<-h1];simp
 have hlm:(l.take m).length=m:=by simp;omega
 rcases h2.2with⟨e,h0'⟩|⟨g,cp,cur,e,hb,hg,hn,hmx,hcs,ht⟩;·omega
 ·simp only[tL]at e;obtain⟨rfl,rfl,rfl⟩:=e;(have hfl:(us.take m).flatMap (·.1)=(us.flatMap (·.1)).take (m*k):=by(have hk:∀(vs:List (List H×α)),(∀x∈vs,x.1.length=k)->∀m,(vs.take m).flatMap (·.1)=(vs.flatMap (·.1)).take (m*k):=by intro vs;induction vs with|nil=>intro _ m;simp|cons x vs ih=>intro hx m;cases m with|zero=>simp|succ m=>have:=hx x (by simp);rw[sS,tR,tR,ih (fun y hy=>hx y (by simp[hy])) m,List.take_append,this,r8,show m*k+k-k=m*k by omega,List.take_of_length_le (l:=x.1) (by omega)]);exact hk us (fun x hx=>(h4 x hx).1) m);refine⟨us.take m,by rw[<-h1,List.map_take],⟨?_,.inr ⟨g,cap,cur,by rw[hlm],hb,hg,by omega,hmx,hcs,?_⟩⟩,fun e=>?_,fun x hx=>h4 x (List.mem_of_mem_take hx)⟩;(·rw[hfl,rF,h2.1,hlm];have:m*k<=l.length*k:=pC k hm;omega);(·rw[hlm,hfl,<-ht,pY];have:m*k<=l.length*k:=pC k hm;rw[pZ this]);·rw[e]at hlm;simp at hlm;omega
end
end
def Wp:Prop:=∀(w:F)(v u:H)(t:Tx)(r:Rd),GN w v t->zY t->Yr w u r->Pt r->rC S 120 #[v,u] w fun e w'=>∃x,e=tK (sV #[x,Y tE (Xl t r)])∧GI w' x (X5 t r)∧L w w' G
theorem Qg(w:F)(o:Obj):∃W:F,Hid (W=w.alloc o)∧L w W G∧Hid (W.heap[w.heap.size]?=I o):=⟨w.alloc o,rfl,sQ _ _ _,oH w o⟩
theorem ZX{x y:Int}(h:x=y):tK (Y tE y)=tK (Y tE x):=by
 rw[h]
theorem YL{x y:Bool}(h:x=y):tK (tN y)=tK (tN x):=by
 rw[h]
theorem Xy{W w:F}{b:Nat}{x y z:H}{t:tV}(hg:L W w G)(h:W.heap[b]?=I (O #[x,y,z] t)):w.cell? ⟨b,0,G⟩=I x∧w.cell? ⟨b,1,G⟩=I y∧w.cell? ⟨b,2,G⟩=I z:=by
 have hb:w.heap[b]?=I (O #[x,y,z] t):=by rw[hg.block b (tH.1 h).1 (by simp)];exact h
 refine⟨?_,?_,?_⟩<;>simp[tW,hb]
def NJ(p:List Rd)(r:Rd):Int:=if XA r=0then(if p.any (fun q=>XE q r)=M then 3 else 0)else XA r
def MB(p:List Ze)(w:Ze):Int:=if QC w=0then(if p.any (fun q=>ZM q w)=M then 3 else 0)else QC w
theorem OS(l:List Rd)(m:Nat)(h:m<l.length):GM (l.take m) (l.drop m)=if NJ (l.take m) (l.getD m Zd)=0then GM (l.take (m+1)) (l.drop (m+1))else NJ (l.take m) (l.getD m Zd):=by
 rw[sL h,GM,sY h,show l[m]=l.getD m Zd by simp[h]];unfold NJ;by_cases h1:XA (l.getD m Zd)=0;·rw[if_pos h1,if_pos h1];by_cases h2:(l.take m).any (fun q=>XE q (l.getD m Zd))=M;(·rw[if_pos h2,if_pos h2,if_neg (by omega)]);·rw[if_neg h2,if_neg h2,if_pos rfl]
 ·rw[if_neg h1,if_neg h1,if_neg h1]
theorem aB(l:List Ze)(m:Nat)(h:m<l.length):xJ (l.take m) (l.drop m)=if MB (l.take m) (l.getD m Qr)=0then xJ (l.take (m+1)) (l.drop (m+1))else MB (l.take m) (l.getD m Qr):=by
 rw[sL h,xJ,sY h,show l[m]=l.getD m Qr by simp[h]];unfold MB;by_cases h1:QC (l.getD m Qr)=0;·rw[if_pos h1,if_pos h1];by_cases h2:(l.take m).any (fun q=>ZM q (l.getD m Qr))=M;(·rw[if_pos h2,if_pos h2,if_neg (by omega)]);·rw[if_neg h2,if_neg h2,if_pos rfl]
 ·rw[if_neg h1,if_neg h1,if_neg h1]
theorem Ps{α:Type}(d:α)(f:α->Bool)(l:List α)(k:Nat)(h:k<l.length):(l.take (k+1)).any f=((l.take k).any f||f (l.getD k d)):=by
 rw[sY h,List.any_append,show l[k]=l.getD k d by simp[h]];simp
theorem Eg{α:Type}(d:α)(f:α->Bool)(l:List α)(k m:Nat)(hk:k<m)(hm:m<=l.length)(h:f (l.getD k d)=M):(l.take m).any f=M:=by
 rw[rG];refine⟨l.getD k d,?_,h⟩;rw[show l.getD k d=(l.take m)[k]'(by rw[rF];omega)by rw[List.getElem_take];simp[show k<l.length by omega]];exact sU _
theorem zM{w:F}{a:Option rU}{n cap:Nat}{l:List Rd}(h:Z8 w (J a n cap) l)(i:Nat)(hi:i<l.length):∃b o,a=I ⟨b,o,G⟩∧∃u1 u2 u3 u4 u5 u6,(w.cell? ⟨b,o+i*4,G⟩=I (J u1 (l.getD i Zd).name.length u2)∧w.cell? ⟨b,o+i*4+1,G⟩=I (J u3 (l.getD i Zd).key.length u4)∧w.cell? ⟨b,o+i*4+2,G⟩=I (tN (l.getD i Zd).wide)∧w.cell? ⟨b,o+i*4+3,G⟩=I (J u5 (l.getD i Zd).last.length u6))∧Yr w (sH #[J u1 (l.getD i Zd).name.length u2,J u3 (l.getD i Zd).key.length u4,tN (l.getD i Zd).wide,J u5 (l.getD i Zd).last.length u6]) (l.getD i Zd):=by
 obtain⟨b,o,rfl,hat⟩:=h.at i hi;obtain⟨vn,vk,vl,c1,c2,c3,c4,s1,s2,s3⟩:=hat;obtain⟨u1,u2,rfl⟩:=s1.shape;obtain⟨u3,u4,rfl⟩:=s2.shape;obtain⟨u5,u6,rfl⟩:=s3.shape;exact⟨b,o,rfl,u1,u2,u3,u4,u5,u6,⟨c1,c2,c3,c4⟩,⟨_,_,_,rfl,s1,s2,s3⟩⟩
theorem Yb{w:F}{a:Option rU}{n cap:Nat}{l:List Ze}(h:QQ w (J a n cap) l)(i:Nat)(hi:i<l.length):∃b o,a=I ⟨b,o,G⟩∧∃u1 u2 u3 u4 u5 u6,(w.cell? ⟨b,o+i*4,G⟩=I (J u1 (l.getD i Qr).name.length u2)∧w.cell? ⟨b,o+i*4+1,G⟩=I (J u3 (l.getD i Qr).key.length u4)∧w.cell? ⟨b,o+i*4+2,G⟩=I (tN (l.getD i Qr).gone)∧w.cell? ⟨b,o+i*4+3,G⟩=I (J u5 (l.getD i Qr).value.length u6))∧Z9 w (sH #[J u1 (l.getD i Qr).name.length u2,J u3 (l.getD i Qr).key.length u4,tN (l.getD i Qr).gone,J u5 (l.getD i Qr).value.length u6]) (l.getD i Qr):=by
 obtain⟨b,o,rfl,hat⟩:=h.at i hi;obtain⟨vn,vk,vl,c1,c2,c3,c4,s1,s2,s3⟩:=hat;obtain⟨u1,u2,rfl⟩:=s1.shape;obtain⟨u3,u4,rfl⟩:=s2.shape;obtain⟨u5,u6,rfl⟩:=s3.shape;exact⟨b,o,rfl,u1,u2,u3,u4,u5,u6,⟨c1,c2,c3,c4⟩,⟨_,_,_,rfl,s1,s2,s3⟩⟩
theorem Rn{x y:Bool}{a b:Int}(h:x=y)(k:a=b):tK (sV #[tN y,Y tE b])=tK (sV #[tN x,Y tE a]):=by
 rw[h,k]
theorem II{α:Type}(f:α->Bool)(l:List α)(d:α)(i:Nat)(hi:i<l.length)(h:f (l.getD i d)=M):l.any f=M:=by
 have:=Eg d f l i l.length hi (tX _) h;rw[sK]at this;exact this
theorem qV:(93:Nat)≠5:=by
 decide
theorem jN:(93:Nat)≠157:=by
 decide
theorem GQ:(93:Nat)≠97:=by
 decide
theorem ZJ.block{rb pb:Nat}{W w':F}{v:H}{l:List Rd}(ho:ZJ rb pb W v l)(hg:L W w' v.ownBlock){b:Nat}{cs:Array H}{t:tV}{fz:Nat×Nat}(h:W.heap[b]?=I (O cs t fz))(ht:t≠157):w'.heap[b]?=I (O cs t fz):=by
 rw[hg.block b (tH.1 h).1 (fun e=>ho.ne h ht e.symm)];exact h
theorem Q4.block{rb pb:Nat}{W w':F}{v:H}{l:List Ze}(ho:Q4 rb pb W v l)(hg:L W w' v.ownBlock){b:Nat}{cs:Array H}{t:tV}{fz:Nat×Nat}(h:W.heap[b]?=I (O cs t fz))(ht:t≠97):w'.heap[b]?=I (O cs t fz):=by
 rw[hg.block b (tH.1 h).1 (fun e=>ho.ne h ht e.symm)];exact h
theorem ZJ.keptV{rb rb':Nat}{W w':F}{v u:H}{l:List Rd}{k:List Ze}(hR:ZJ rb 0 W v l)(hV:Q4 rb' 0 W u k)(hg:L W w' u.ownBlock):ZJ rb 0 w' v l:=by
 refine hR.kept hg ?_ ?_;·rcases hR.row with h|⟨g,cur,fz,e,_,h⟩;(·exact .inl h);·refine .inr ?_;rw[e];exact fun e2=>hV.ne h (fun e=>fW e) e2.symm
 ·rcases hV.row with h|⟨g,cur,fz,e,_,h⟩;(·exact .inl h);·exact .inr ⟨g,cur,_,fz,e,tQ _,h,kO⟩
theorem QI{w:F}{b:Nat}{x y z:H}{t:tV}(h:w.heap[b]?=I (O #[x,y,z] t)):(w.cell? ⟨b,0,G⟩=I x∧w.cell? ⟨b,1,G⟩=I y∧w.cell? ⟨b,2,G⟩=I z)∧w.frozen? ⟨b,0,G⟩=N∧w.frozen? ⟨b,1,G⟩=N∧w.frozen? ⟨b,2,G⟩=N:=by
 refine⟨⟨?_,?_,?_⟩,?_,?_,?_⟩<;>simp[tW,rN,h]
theorem UK{rb:Nat}{w wr:F}{RB:Nat}{x y z:H}{st:Int}{va ua:Option rU}{n m vc uc:Nat}{R:List Rd}{V:List Ze}(h:wr.heap[RB]?=I (O #[x,y,z] 93))(hR:ZJ rb 0 wr (J va n vc) R)(hV:Q4 rb 0 wr (J ua m uc) V)(hg:L w wr G)(hw:w.heap.size<=RB):((((tC wr ⟨RB,0,G⟩ (Y tE st)).setCell ⟨RB,1,G⟩ (J va n vc)).setCell ⟨RB,2,G⟩ (J ua m uc)).cell? ⟨RB,0,G⟩=I (Y tE st)∧(((tC wr ⟨RB,0,G⟩ (Y tE st)).setCell ⟨RB,1,G⟩ (J va n vc)).setCell ⟨RB,2,G⟩ (J ua m uc)).cell? ⟨RB,1,G⟩=I (J va n vc)∧(((tC wr ⟨RB,0,G⟩ (Y tE st)).setCell ⟨RB,1,G⟩ (J va n vc)).setCell ⟨RB,2,G⟩ (J ua m uc)).cell? ⟨RB,2,G⟩=I (J ua m uc))∧ZJ rb 0 (((tC wr ⟨RB,0,G⟩ (Y tE st)).setCell ⟨RB,1,G⟩ (J va n vc)).setCell ⟨RB,2,G⟩ (J ua m uc)) (J va n vc) R∧Q4 rb 0 (((tC wr ⟨RB,0,G⟩ (Y tE st)).setCell ⟨RB,1,G⟩ (J va n vc)).setCell ⟨RB,2,G⟩ (J ua m uc)) (J ua m uc) V∧L w (((tC wr ⟨RB,0,G⟩ (Y tE st)).setCell ⟨RB,1,G⟩ (J va n vc)).setCell ⟨RB,2,G⟩ (J ua m uc)) G:=by
 have b1:=Qk (i:=0) (u:=Y tE st) h;have b2:=Qk (i:=1) (u:=J va n vc) b1;have b3:=Qk (i:=2) (u:=J ua m uc) b2;exact⟨(QI (x:=Y tE st) (y:=J va n vc) (z:=J ua m uc) b3).1,((hR.setOther h qV jN (tQ _) _).setOther b1 qV jN (tQ _) _).setOther b2 qV jN (tQ _) _,((hV.setOther h qV GQ (tQ _) _).setOther b1 qV GQ (tQ _) _).setOther b2 qV GQ (tQ _) _,Qd (Qd (Qd hg _ hw _ _) _ hw _ _) _ hw _ _⟩
theorem Q4.keptR{rb rb':Nat}{W w':F}{v u:H}{l:List Ze}{k:List Rd}(hV:Q4 rb 0 W v l)(hR:ZJ rb' 0 W u k)(hg:L W w' u.ownBlock):Q4 rb 0 w' v l:=by
 refine hV.kept hg ?_ ?_;·rcases hV.row with h|⟨g,cur,fz,e,_,h⟩;(·exact .inl h);·refine .inr ?_;rw[e];exact fun e2=>hR.ne h (fun e=>fW e.symm) e2.symm
 ·rcases hR.row with h|⟨g,cur,fz,e,_,h⟩;(·exact .inl h);·exact .inr ⟨g,cur,_,fz,e,tQ _,h,fK⟩
theorem Gx{w:F}{v1 v2:H}{st:Int}{R:List Rd}{V:List Ze}{rb:Nat}{t:Tx}(e:t=⟨st,R,V⟩)(h1:ZJ rb 0 w v1 R)(h2:Q4 rb 0 w v2 V):GI w (sH #[Y tE st,v1,v2]) t:=by
 subst e;exact⟨_,_,rfl,h1.down 0 (tQ _),h2.down 0 (tQ _)⟩
theorem UH{v:H}{a b:Int}(h:a=b):tK (sV #[v,Y tE b])=tK (sV #[v,Y tE a]):=by
 rw[h]
theorem S4:∀(l:List Ze)(w:Ze)(m:Nat),m<l.length->(l.take m).any (fun q=>ZM q w)=N->ZM (l.getD m Qr) w=M->zP l w=l.set m w|[],_,_,h,_,_=>by simp at h|a::l,w,0,_,_,h=>by have h':ZM a w=M:=h;rw[zP,if_pos h'];rfl|a::l,w,m+1,h0,h1,h2=>by rw[sS,rB,sX]at h1;rw[zP,if_neg (by rw[h1.1];decide),pP,S4 l w m (by simpa using h0) h1.2 (by simpa using h2)]
theorem MU:∀(l:List Ze)(w:Ze),l.any (fun q=>ZM q w)=N->zP l w=l++[w]|[],_,_=>rfl|a::l,w,h=>by rw[rB,sX]at h;rw[zP,if_neg (by rw[h.1];decide),MU l w h.2];rfl
theorem Q4.zero{rb:Nat}{w:F}{b o n cap:Nat}{l:List Ze}(h:Q4 rb 0 w (J (I ⟨b,o,G⟩) n cap) l):o=0:=by
 obtain⟨us,hl,hr,h3⟩:=h;rcases hr.2with⟨e,_⟩|⟨g',cap',cur,e,_⟩;·cases e
 ·simp only[tL,tB,rM]at e;exact e.1.2.1
theorem Q4.frozenT{rb:Nat}{w:F}{g n cap:Nat}{l:List Ze}(h:Q4 rb 0 w (J (I ⟨g,0,G⟩) n cap) l)(j:Nat):w.frozen? ⟨g,j,G⟩=N:=by
 obtain⟨us,hl,hr,h3⟩:=h;rcases hr.2with⟨e,_⟩|⟨g',cap',cur,e,hb,hg,_⟩;·cases e
 ·simp only[tL,tB,rM]at e;obtain⟨⟨rfl,_⟩,_⟩:=e;simp[rN,hg]
theorem Rr:∀(us:List WV)(i:Nat)(x:WV),Y0 (us.set i x)=((((Y0 us).set (i*4) x.2.1).set (i*4+1) x.2.2.1).set (i*4+2) (tN x.1.gone)).set (i*4+3) x.2.2.2|[],i,x=>by simp[Y0]|y::us,0,x=>by simp[Y0]|y::us,i+1,x=>by have ih:=Rr us i x;(have e:∀us:List WV,Y0 (y::us)=y.2.1::y.2.2.1::tN y.1.gone::y.2.2.2::Y0 us:=fun us=>by simp[Y0]);rw[pP,e,e,ih,show(i+1)*4=i*4+4by omega];rfl
theorem Q4.setT{rb:Nat}{w:F}{g n cap:Nat}{l:List Ze}(h:Q4 rb 0 w (J (I ⟨g,0,G⟩) n cap) l)(i:Nat)(vn vk vv:H)(p:Ze)(h1:Qj 0 w vn p.name)(h2:Qj 0 w vk p.key)(h3:Qj 0 w vv p.value):Q4 rb 0 ((((tC w ⟨g,i*4,G⟩ vn).setCell ⟨g,i*4+1,G⟩ vk).setCell ⟨g,i*4+2,G⟩ (tN p.gone)).setCell ⟨g,i*4+3,G⟩ vv) (J (I ⟨g,0,G⟩) n cap) (l.set i p):=by
 obtain⟨us,hul,hr,hp⟩:=h;have hgr:L w ((((tC w ⟨g,i*4,G⟩ vn).setCell ⟨g,i*4+1,G⟩ vk).setCell ⟨g,i*4+2,G⟩ (tN p.gone)).setCell ⟨g,i*4+3,G⟩ vv) (I g):=Qh (Qh (Qh (Qh (Qb _ _) _ _) _ _) _ _) _ _;rcases hr.2with⟨e,_⟩|⟨g',cap',cur,e,hb,hg,hn,hm,hs,ht⟩;·cases e
 ·simp only[tL,tB,rM]at e;obtain⟨⟨rfl,_⟩,rfl,rfl⟩:=e;have hrow:(I g:Option Nat)=G∨∃g' cur t fz,(I g:Option Nat)=I g'∧0<=g'∧w.heap[g']?=I (O cur t fz)∧t≠5:=.inr ⟨g,cur,_,_,rfl,tQ _,hg,kO⟩;(have hus:us.length=l.length:=by rw[<-hul];simp);refine⟨us.set i (p,vn,vk,vv),by rw[List.map_set,hul],⟨by rw[LZ,rT,rT,hus],.inr ⟨g,cap,_,by rw[rT],hb,Qk (Qk (Qk (Qk hg))),by rw[rT];exact hn,hm,by simpa using hs,?_⟩⟩,?_⟩;(·rw[Rr,rT];simp only[Array.toList_setIfInBounds];rw[pD,pD,pD,pD,ht]);·intro x hx;rcases List.mem_or_eq_of_mem_set hx with hx|rfl;(·exact⟨(hp x hx).1.keptT hgr hrow,(hp x hx).2.1.keptT hgr hrow,(hp x hx).2.2.keptT hgr hrow⟩);·exact⟨h1.keptT hgr hrow,h2.keptT hgr hrow,h3.keptT hgr hrow⟩
def K8(n k:List UInt8)(q:Ze):Bool:=tD (q.name=n)&&tD (q.key=k)
theorem Cy{α:Type}(p:α->Bool)(d:α):∀(l:List α)(m:Nat),m<l.length->(l.take m).any p=N->p (l.getD m d)=M->l.find? p=I (l.getD m d)|[],_,h,_,_=>by simp at h|a::l,0,_,_,h=>by have h':p a=M:=h;rw[List.find?_cons_of_pos h'];rfl|a::l,m+1,h0,h1,h2=>by rw[sS,rB,sX]at h1;rw[List.find?_cons_of_neg (by rw[h1.1];decide),Cy p d l m (by simpa using h0) h1.2 (by simpa using h2)];simp
theorem Lf{α:Type}(p:α->Bool)(l:List α)(h:l.any p=N):l.find? p=G:=by
 rw[List.find?_eq_none];intro x hx hp;rw[List.any_eq_false]at h;exact h x hx hp
theorem eO{l:List Ze}{n k:List UInt8}{m:Nat}(h:m<l.length)(h1:(l.take m).any (K8 n k)=N)(h2:K8 n k (l.getD m Qr)=M):fM l n k=I (l.getD m Qr):=Cy (K8 n k) Qr l m h h1 h2
theorem bC{l:List Ze}{n k:List UInt8}(h:l.any (K8 n k)=N):fM l n k=G:=Lf (K8 n k) l h
theorem Is{l:FL}{t:Tx}{n k:List UInt8}(h:Kt l t n k≠0):VG l t n k=N∧U5 l t n k=N∧UQ l t n k=[]:=by
 rw[VG,U5,UQ,if_neg h,if_neg h,if_neg h];exact⟨rfl,rfl,rfl⟩
theorem bZ{l:FL}{t:Tx}{n k:List UInt8}(h:zL l t≠0):Kt l t n k=zL l t:=by
 rw[Kt,if_neg h]
theorem M3{l:FL}{t:Tx}(h:zL l t=0):Xo l∧G9 t:=by
 unfold zL at h;by_cases hf:Q7 l=0;·rw[if_pos hf]at h;exact⟨(XY l).1 hf,(kK t).1 h⟩
 ·rw[if_neg hf]at h;exact absurd h hf
theorem OO{l:FL}{t:Tx}{n k:List UInt8}(h:zL l t=0){m:Nat}(hm:m<t.writes.length)(h1:(t.writes.take m).any (K8 n k)=N)(h2:K8 n k (t.writes.getD m Qr)=M):Kt l t n k=0∧VG l t n k=M∧U5 l t n k=!(t.writes.getD m Qr).gone∧UQ l t n k=(t.writes.getD m Qr).value:=by
 obtain⟨hf,ht⟩:=M3 h;have ha:=eO hm h1 h2;have hs:=IF ha;have hw:=(XJ _).1 (ht.wrs _ hs.1);rw[hs.2.1,hs.2.2]at hw;have h0:=Sj hf ht hw.1 hw.2.1;refine⟨h0,?_,?_,?_⟩;·rw[VG,if_pos h0,ha];rfl
 ·rw[U5,if_pos h0,ha]
 ·rw[UQ,if_pos h0,ha]
theorem OK{l:FL}{t:Tx}{n k:List UInt8}(h:zL l t=0)(h1:t.writes.any (K8 n k)=N):Kt l t n k=VC l n k∧VG l t n k=N∧U5 l t n k=U3 l n k∧UQ l t n k=U4 l n k:=by
 obtain⟨hf,ht⟩:=M3 h;have ha:=bC h1;have hfo:=(XY l).2 hf;have hE:Kt l t n k=VC l n k:=by rw[Kt,if_pos h,VC,G6,if_pos hfo];by_cases hn:Qt n.length=0;(·rw[if_pos hn,if_pos hn,Xa,if_pos ((YN _).2 (Ub hf n))]);·rw[if_neg hn,if_neg hn]
 refine⟨hE,?_,?_,?_⟩;·rw[VG,ha];by_cases h0:Kt l t n k=0;(·rw[if_pos h0];rfl);·rw[if_neg h0]
 ·rw[U5,ha];by_cases h0:Kt l t n k=0;(·rw[if_pos h0]);·rw[if_neg h0];rw[hE]at h0;rw[U3];by_cases hn:G6 l n=0;(·rw[VC,if_pos hn]at h0;rw[if_pos hn,Rv];simp[h0]);·rw[if_neg hn]
 ·rw[UQ,ha];by_cases h0:Kt l t n k=0;(·rw[if_pos h0]);·rw[if_neg h0];rw[hE]at h0;rw[U4];by_cases hn:G6 l n=0;(·rw[VC,if_pos hn]at h0;rw[if_pos hn,Rx,if_neg h0]);·rw[if_neg hn]
theorem WQ{X:PL}(h:Zy X)(k:List UInt8):Zy (jU X k):=⟨tP (So X k) h.room,fun p hp=>h.pairs p (pX.1 hp).1,ET X k h.rises⟩
theorem MV{X:PL}(h:Zy X)(f u:List UInt8):Zy (U9 X f u):=⟨tP (Hw X f u) h.room,fun p hp=>h.pairs p (pX.1 hp).1,Co X f u h.rises⟩
theorem Lr{X:PL}(h:Zy X){p:Pr}(hp:(1<=p.1.length∧p.1.length<=16)∧p.2.length<=32)(hl:(Kc X p).length<=60):Zy (Kc X p):=⟨hl,En X p h.pairs hp,vT X p h.rises⟩
theorem jO(n a b:List UInt8)(w:Ze):XP ⟨n,a,M,b⟩ w=M↔w.name=n∧fY a b w.key=M:=by
 show(tD (n=w.name)&&fY a b w.key)=M↔_;rw[rO,decide_eq_true_iff];exact⟨fun h=>⟨h.1.symm,h.2⟩,fun h=>⟨h.1.symm,h.2⟩⟩
theorem Ih{n a b:List UInt8}{w:Ze}(h:XP ⟨n,a,M,b⟩ w=N)(X:PL):KT n a b X w=X:=by
 rw[KT,if_neg];intro e;rw[(jO n a b w).2 e]at h;cases h
theorem Ol{n a b:List UInt8}{w:Ze}(h:XP ⟨n,a,M,b⟩ w=M)(hg:w.gone=M){X:PL}(hX:Zy X)(hw:QC w=0):Xa X w.key=0∧zK X w.key=KT n a b X w∧Zy (KT n a b X w):=by
 have hk:=((XJ w).1 hw).2.1;have h0:=vL hX hk;have e:KT n a b X w=jU X w.key:=by rw[KT,if_pos ((jO n a b w).1 h),if_pos hg]
 refine⟨h0,by rw[e,zK,if_pos h0],by rw[e];exact WQ hX _⟩
theorem OI{n a b:List UInt8}{w:Ze}(h:XP ⟨n,a,M,b⟩ w=M)(hg:w.gone=N){X:PL}(hX:Zy X)(hw:QC w=0):KT n a b X w=Kc X (w.key,w.value)∧(60<(KT n a b X w).length->Ki X (w.key,w.value)=11)∧(¬60<(KT n a b X w).length->Ki X (w.key,w.value)=0∧Vi X (w.key,w.value)=KT n a b X w∧Zy (KT n a b X w)):=by
 have hk:=(XJ w).1 hw;have hv:w.value.length<=32:=by have:=hk.2.2;rw[hg,if_neg (by decide)]at this;exact this
 have e:KT n a b X w=Kc X (w.key,w.value):=by rw[KT,if_pos ((jO n a b w).1 h),hg,if_neg (by decide)]
 have h0:VV X (w.key,w.value)=0:=by rw[VV,if_pos ((YN X).2 hX)];exact(Jz _).2 ⟨hk.2.1,hv⟩
 refine⟨e,fun hl=>?_,fun hl=>?_⟩;·rw[e]at hl;rw[Ki,if_pos h0,if_pos hl]
 ·rw[e]at hl;(have h1:Ki X (w.key,w.value)=0:=by rw[Ki,if_pos h0,if_neg hl]);refine⟨h1,by rw[e,Vi,if_pos h1],?_⟩;rw[e];exact Lr hX ⟨hk.2.1,hv⟩ (by omega)
def JC(n a b:List UInt8)(X:PL)(ws:List Ze):Int×PL:=(kI n a b X ws,if kI n a b X ws=0then AM n a b X ws else[])
theorem Sa(n a b:List UInt8)(X:PL):JC n a b X []=(0,X):=rfl
theorem Pa{n a b:List UInt8}{X:PL}{ws:List Ze}{m:Nat}(hm:m<ws.length)(h:¬60<(KT n a b X (ws.getD m Qr)).length):JC n a b X (ws.drop m)=JC n a b (KT n a b X (ws.getD m Qr)) (ws.drop (m+1)):=by
 rw[sL hm,show ws[m]=ws.getD m Qr by simp[hm]];rw[JC,JC,kI,if_neg h];rfl
theorem Dz{n a b:List UInt8}{X:PL}{ws:List Ze}{m:Nat}(hm:m<ws.length)(h:60<(KT n a b X (ws.getD m Qr)).length):JC n a b X (ws.drop m)=(11,[]):=by
 rw[sL hm,show ws[m]=ws.getD m Qr by simp[hm]];rw[JC,kI,if_pos h,if_neg (by decide)]
theorem aY{l:FL}{t:Tx}{n a b:List UInt8}(h:zL l t≠0):Kv l t n a b=zL l t∧VU l t n a b=[]:=by
 have e:Kv l t n a b=zL l t:=by rw[Kv,if_neg h]
 exact⟨e,by rw[VU,e,if_neg h]⟩
theorem Ax{l:FL}{t:Tx}{n a b:List UInt8}(h:zL l t=0)(h1:YD l n a b≠0):Kv l t n a b=YD l n a b∧VU l t n a b=[]:=by
 obtain⟨hf,ht⟩:=M3 h;have hfo:=(XY l).2 hf;have e:Kv l t n a b=YD l n a b:=by(have hE:YD l n a b=if Qt n.length=0then(if Qp a.length=0then Qp b.length else Qp a.length)else Qt n.length:=by rw[YD,G6,if_pos hfo];by_cases hn:Qt n.length=0;(·rw[if_pos hn,if_pos hn,Yy,Xa,if_pos ((YN _).2 (Ub hf n))]);·rw[if_neg hn,if_neg hn]);rw[Kv,if_pos h,hE];by_cases hn:Qt n.length=0;(·rw[if_pos hn,if_pos hn];by_cases ha:Qp a.length=0;(·rw[if_pos ha,if_pos ha];by_cases hb:Qp b.length=0;(·rw[hE,if_pos hn,if_pos ha]at h1;exact absurd hb h1);·rw[if_neg hb]);·rw[if_neg ha,if_neg ha]);·rw[if_neg hn,if_neg hn]
 exact⟨e,by rw[VU,e,if_neg h1]⟩
theorem Bv{l:FL}{t:Tx}{n a b:List UInt8}(h:zL l t=0)(h1:YD l n a b=0):JC n a b (Kk l n a b) t.writes=(Kv l t n a b,VU l t n a b)∧Zy (Kk l n a b):=by
 obtain⟨hf,ht⟩:=M3 h;have hfo:=(XY l).2 hf;have hn:G6 l n=0:=by by_cases hn:G6 l n=0;(·exact hn);·rw[YD,if_neg hn]at h1;exact absurd h1 hn
 have hr:Yy (Jf l n) a b=0:=by rw[YD,if_pos hn]at h1;exact h1
 have hg:=Ba hr;have hb:Qp b.length=0:=by rw[Yy,if_pos hg]at hr;exact hr
 have ha:Qp a.length=0:=(Zu _).2 (IV hg);have hnn:Qt n.length=0:=(Zw _).2 (qN hn).2;have e:Kk l n a b=U9 (Jf l n) a b:=by rw[Kk,if_pos hn,KM,if_pos hr]
 have eE:Kv l t n a b=kI n a b (U9 (Jf l n) a b) t.writes:=by rw[Kv,if_pos h,if_pos hnn,if_pos ha,if_pos hb]
 refine⟨?_,by rw[e];exact MV (Ub hf n) a b⟩;rw[e,JC,VU,eE]
def Hv:Prop:=∀(w:F)(v:H)(t:Tx),GN w v t->zY t->rC S 43 #[v] w fun e w'=>e=tK (Y tE (Gd t))∧L w w' G
theorem qR(w:F)(b i:Nat)(u:H):∃W:F,Hid (W=tC w ⟨b,i,G⟩ u)∧L w W (I b):=⟨_,rfl,YK w b i u⟩
theorem qZ{w:F}{ops:Array rJ}{o:rJ}{a:Act}{K:Act->F->Prop}{Q:Exit->Act->F->Prop}{E:Prop}(hgd:o.guard=G)(s x:rH)(ho:o.op=.call {callee:=.builtin .append,args:=#[s,x],argTypes:=#[41,41]})(rb:Nat)(v:H)(l:List Ze)(hs:a.eval s=v)(hown:Q4 rb 0 w v l)(vn vk vv:H)(p:Ze)(h1:Qj 0 w vn p.name)(h2:Qj 0 w vk p.key)(h3:Qj 0 w vv p.value)(nb:Nat)(hb:w.heap[nb]?=I (O #[vn,vk,tN p.gone,vv] 97))(hx:a.eval x=J (I ⟨nb,0,G⟩) 1 1)(hl:(l.length+1)*80<=140737488355328)(hbase:rb<=w.heap.size)(h:∀v' w',Q4 rb 0 w' v' (l++[p])->L w w' v.ownBlock->K (a.put o.dst v') w'):if sD o (pB ops a.tmps)=M then Oper.wp S o a w K Q else E:=by
 have hw:sD o (pB ops a.tmps)=M:=by simp[sD,hgd]
 rw[if_pos hw];obtain⟨i0,hi,hz0,hz1,hz2⟩:=rX O6;have hrow:v.ownBlock=G∨∃g cur t fz,v.ownBlock=I g∧0<=g∧w.heap[g]?=I (O cur t fz)∧t≠5:=by rcases hown.row with h|⟨g,cur,fz,e,_,h⟩;(·exact .inl h);·exact .inr ⟨g,cur,_,fz,e,tQ _,h,kO⟩
 obtain⟨us,hul,hr,hp⟩:=hown;refine wp_append_lies w s x 41 ho rb 97 i0 (sH #[J G 0 0,J G 0 0,tN N,J G 0 0]) 4 80 Tryz.underlying41 hi hz0 hz1 hz2 rfl (by decide) v l.length (Y0 us) hs hr ⟨nb,0,G⟩ 1 1 (Y0 [(p,vn,vk,vv)]) hx rfl (sZ (cs:=#[vn,vk,tN p.gone,vv]) hb) ?_ (by omega) (by unfold pG;omega) hl hbase _ rfl ?_;·intro u hu;simp only[Y0,tR,rD,tU,tJ,tM,or_false]at hu;rcases hu with rfl|rfl|rfl|rfl;(·exact ZD h1);(·exact ZD h2);(·rfl);·exact ZD h3
 ·intro g cap w' q1 q2 _ _;refine h _ w' ⟨us++[(p,vn,vk,vv)],by simp[hul],?_,?_⟩ q2;(·rw[uA,tA];exact q1);·intro y hy;rcases tY.1 hy with hy|hy;(·exact⟨(hp y hy).1.keptT q2 hrow,(hp y hy).2.1.keptT q2 hrow,(hp y hy).2.2.keptT q2 hrow⟩);·simp only[tJ,tM,or_false]at hy;subst hy;exact⟨h1.keptT q2 hrow,h2.keptT q2 hrow,h3.keptT q2 hrow⟩
theorem xK{w:F}{ops:Array rJ}{o:rJ}{a:Act}{K:Act->F->Prop}{Q:Exit->Act->F->Prop}{E:Prop}(hgd:o.guard=G)(s x:rH)(ho:o.op=.call {callee:=.builtin .append,args:=#[s,x],argTypes:=#[91,91]})(rb:Nat)(v:H)(l:List Rd)(hs:a.eval s=v)(hown:ZJ rb 0 w v l)(vn vk vv:H)(p:Rd)(h1:Qj 0 w vn p.name)(h2:Qj 0 w vk p.key)(h3:Qj 0 w vv p.last)(nb:Nat)(hb:w.heap[nb]?=I (O #[vn,vk,tN p.wide,vv] 157))(hx:a.eval x=J (I ⟨nb,0,G⟩) 1 1)(hl:(l.length+1)*80<=140737488355328)(hbase:rb<=w.heap.size)(h:∀v' w',ZJ rb 0 w' v' (l++[p])->L w w' v.ownBlock->K (a.put o.dst v') w'):if sD o (pB ops a.tmps)=M then Oper.wp S o a w K Q else E:=by
 have hw:sD o (pB ops a.tmps)=M:=by simp[sD,hgd]
 rw[if_pos hw];obtain⟨i0,hi,hz0,hz1,hz2⟩:=rX fH;have hrow:v.ownBlock=G∨∃g cur t fz,v.ownBlock=I g∧0<=g∧w.heap[g]?=I (O cur t fz)∧t≠5:=by rcases hown.row with h|⟨g,cur,fz,e,_,h⟩;(·exact .inl h);·exact .inr ⟨g,cur,_,fz,e,tQ _,h,fK⟩
 obtain⟨us,hul,hr,hp⟩:=hown;refine wp_append_lies w s x 91 ho rb 157 i0 (sH #[J G 0 0,J G 0 0,tN N,J G 0 0]) 4 80 Tryz.underlying91 hi hz0 hz1 hz2 rfl (by decide) v l.length (Gl us) hs hr ⟨nb,0,G⟩ 1 1 (Gl [(p,vn,vk,vv)]) hx rfl (sZ (cs:=#[vn,vk,tN p.wide,vv]) hb) ?_ (by omega) (by unfold pG;omega) hl hbase _ rfl ?_;·intro u hu;simp only[Gl,tR,rD,tU,tJ,tM,or_false]at hu;rcases hu with rfl|rfl|rfl|rfl;(·exact ZD h1);(·exact ZD h2);(·rfl);·exact ZD h3
 ·intro g cap w' q1 q2 _ _;refine h _ w' ⟨us++[(p,vn,vk,vv)],by simp[hul],?_,?_⟩ q2;(·rw[Np,tA];exact q1);·intro y hy;rcases tY.1 hy with hy|hy;(·exact⟨(hp y hy).1.keptT q2 hrow,(hp y hy).2.1.keptT q2 hrow,(hp y hy).2.2.keptT q2 hrow⟩);·simp only[tJ,tM,or_false]at hy;subst hy;exact⟨h1.keptT q2 hrow,h2.keptT q2 hrow,h3.keptT q2 hrow⟩
def Lh:Prop:=∀(w:F)(v:H)(r:Rq),UT w->XD w v r->xY r->rC S 33 #[v] w fun e w'=>e=tK (Y tE (Yo r))∧L w w' G
def ZU(K:Int)(n q l v:Nat):Nat->Bool|0=>N|1=>!QS K 0&&tD (0<n)|2=>(!QS K 0&&tD (0<n))||(!QS K 1&&tD (0<q))|3=>((!QS K 0&&tD (0<n))||(!QS K 1&&tD (0<q)))||(!QS K 2&&tD (0<l))|_=>(((!QS K 0&&tD (0<n))||(!QS K 1&&tD (0<q)))||(!QS K 2&&tD (0<l)))||(!QS K 3&&tD (0<v))
def gO(K:Int)(n q l v:Nat):Int:=if(tD (Qt n≠0)&&QS K 0)=M then Qt n else if(tD (Qp q≠0)&&QS K 1)=M then Qp q else if(tD (Qp l≠0)&&QS K 2)=M then Qp l else if 32<v then 1 else if ZU K n q l v 4=M then 4 else 0
theorem fG(r:Rq)(hk:1<=r.kind∧r.kind<=8):Yo r=gO r.kind r.name.length r.key.length r.last.length r.value.length:=by
 rw[Yo,if_pos hk];have hf:Rm r=if ZU r.kind r.name.length r.key.length r.last.length r.value.length 4=M then 4 else 0:=by unfold Rm;by_cases h1:QY r.kind=N∧0<r.name.length+r.key.length;(·rw[if_pos h1,if_pos];by_cases h2:0<r.name.length;(·simp[ZU,QS,h1.1,h2]);·(have h3:0<r.key.length:=by omega);simp[ZU,QS,h1.1,h3]);·rw[if_neg h1];by_cases h2:(r.kind≠3∧0<r.last.length)∨(r.kind≠4∧0<r.value.length);(·rw[if_pos h2,if_pos];rcases h2 with⟨h2,h3⟩|⟨h2,h3⟩;(·simp[ZU,QS,h2,h3]);·simp[ZU,QS,h2,h3]);·rw[if_neg h2,if_neg];intro hb;simp only[ZU,QS,Bool.or_eq_true,rO,Bool.not_eq_true',decide_eq_true_iff,decide_eq_false_iff_not]at hb;rcases hb with((hb|hb)|hb)|hb;(·exact h1 ⟨hb.1,by omega⟩);(·exact h1 ⟨hb.1,by omega⟩);(·exact h2 (.inl hb));·exact h2 (.inr hb)
 rw[hf];unfold yH gO;generalize ZU r.kind r.name.length r.key.length r.last.length r.value.length 4=B;show _=if(tD (Qt r.name.length≠0)&&QY r.kind)=M then _ else if(tD (Qp r.key.length≠0)&&QY r.kind)=M then _ else if(tD (Qp r.last.length≠0)&&tD (r.kind=3))=M then _ else _;have h3:r.kind=3->QY r.kind=M:=fun h=>by rw[h];decide
 generalize Qt r.name.length=A at*;generalize Qp r.key.length=C at*;generalize Qp r.last.length=D at*;cases hN:QY r.kind with|false=>(have h3':¬r.kind=3:=fun h=>by rw[h3 h]at hN;cases hN);simp[h3']|true=>by_cases hA:A=0;(·by_cases hC:C=0;(·by_cases h4:r.kind=3;(·by_cases hD:D=0;(·simp[hA,hC,h4,hD]);·simp[hA,hC,h4,hD]);·simp[hA,hC,h4]);·simp[hA,hC]);·simp[hA]
theorem eR(r:Rq)(hk:¬(1<=r.kind∧r.kind<=8)):Yo r=5:=by
 rw[Yo,if_neg hk]
def Lp:Prop:=∀(w:F)(v u a b:H)(l:FL)(t:Tx)(n k:List UInt8),ZN w v l->Ge l->GN w u t->zY t->Qe w a n->Qe w b k->n.length<=140737488355328->k.length<=140737488355328->rC S 109 #[v,u,a,b] w fun e w'=>∃x,e=tK (sV #[sH #[tN (U5 l t n k),x],tN (VG l t n k),Y tE (Kt l t n k)])∧Qj 0 w' x (UQ l t n k)∧L w w' G
section
variable{D:List UInt8->List UInt8}{v u:Sv}
theorem MH(hD:∀x,(D x).length=4)(h:Zf D v)(hs:v.synced=v.commits.length){k:Int}(hk:0<=k):Up D v k=V4 N v.tape v.commits v.out:=by
 obtain⟨j,h1,h2,h3,_⟩:=Vn hD h hk;obtain rfl:j=v.commits.length:=by omega
 rw[h3,sK];have hm:=h.mark;rw[hs,sK]at hm;have:(⟨Q5 D v.commits,((Q5 D v.commits).length:Int)⟩:V2)=v.tape:=by rw[<-hm,<-h.data]
 rw[this]
end
section
structure Se where
  begun : Bool
  start : Int
  writes : List Ze
structure Md where
  ses : Nat -> Se
  states : List FL
variable{D:List UInt8->List UInt8}{v:Sv}{m:Md}
theorem Gp(v:Sv)(n:Nat):Xo (QH v n):=uP _ _ qE
end
section
variable{D:List UInt8->List UInt8}{v:Sv}{m:Md}
theorem Dw{r:Rq}(hr:Jd r)(hk:r.kind=2∨r.kind=3):(1<=r.name.length∧r.name.length<=8)∧(1<=r.key.length∧r.key.length<=16):=by
 have:QY r.kind=M:=by rcases hk with e|e<;>rw[e]<;>decide
 exact⟨hr.name this,hr.key this⟩
end
def Hz:Prop:=∀(w:F)(v u:H)(t:Tx)(l:List XC),GN w v t->zY t->Y6 w u l->Bo l->rC S 123 #[v,u] w fun e w'=>e=tK (sV #[tN (Uy t l),Y tE (F7 t)])∧L w w' G
def cW:Prop:=∀(w:F)(v:H)(c:XC),JZ w v c->EW c->rC S 135 #[v] w fun e w'=>∃x,e=tK (sV #[x,Y tE (Q9 c)])∧Qe w' x (Tf c)∧L w w' G
def Wr:Prop:=∀(w:F)(v u a b c:H)(l:FL)(t:Tx)(n k m:List UInt8),ZN w v l->Ge l->GN w u t->zY t->Qe w a n->Qe w b k->Qe w c m->n.length<=140737488355328->k.length<=140737488355328->m.length<=140737488355328->rC S 111 #[v,u,a,b,c] w fun e w'=>∃x,e=tK (sV #[x,Y tE (Kv l t n k m)])∧QN 0 w' x (VU l t n k m)∧L w w' G
def AX:Prop:=∀(w:F)(v u:H)(t:Tx)(r:Ze),GN w v t->zY t->Z9 w u r->YP r->rC S 26 #[v,u] w fun e w'=>∃x,e=tK (sV #[x,Y tE (Xg t r)])∧GI w' x (Yd t r)∧L w w' G
def aX:Prop:=∀(w:F)(v:H)(b:List UInt8),UT w->Qe w v b->b.length<=140737488355328->rC S 19 #[v] w fun e w'=>∃x,e=tK (sV #[x,Y tE (QK b)])∧XD w' x (Qu b)∧L w w' G
def Xe(k:Int)(m:Nat)(p0 p1 p2 p3 r:List UInt8):Option (Rq×List UInt8):=match m with|0=>X9 k r|1=>Ve k p0 r|2=>Vg k p0 p1 r|3=>Vf k p0 p1 p2 r|_=>I (⟨k,p0,p1,p2,p3⟩,r)
theorem JY(r:List UInt8):Jh M r=Zt r:=rfl
theorem yJ(r:List UInt8)(h:r.length=0):Zt r=G:=by
 rw[tG h];rfl
theorem kV(r:List UInt8)(h:0<r.length):Zt r=if 1+(r.getD 0 0).toNat<=r.length then I ((r.take (1+(r.getD 0 0).toNat)).drop 1,r.drop (1+(r.getD 0 0).toNat))else G:=by
 have:=Wz r 0 h;rw[sR]at this;exact this
theorem G7(k:Int)(p0 p1 p2 p3 r:List UInt8):(QS k 0=N->Xe k 0 p0 p1 p2 p3 r=Xe k 1 [] p1 p2 p3 r)∧(QS k 1=N->Xe k 1 p0 p1 p2 p3 r=Xe k 2 p0 [] p2 p3 r)∧(QS k 2=N->Xe k 2 p0 p1 p2 p3 r=Xe k 3 p0 p1 [] p3 r)∧(QS k 3=N->Xe k 3 p0 p1 p2 p3 r=Xe k 4 p0 p1 p2 [] r):=by
 refine⟨fun h=>?_,fun h=>?_,fun h=>?_,fun h=>?_⟩;·show X9 k r=Ve k [] r;rw[X9,show QY k=N from h];rfl
 ·show Ve k p0 r=Vg k p0 [] r;rw[Ve,show QY k=N from h];rfl
 ·show Vg k p0 p1 r=Vf k p0 p1 [] r;rw[Vg,show tD (k=3)=N from h];rfl
 ·show Vf k p0 p1 p2 r=I (⟨k,p0,p1,p2,[]⟩,r);rw[Vf,show tD (k=4)=N from h];rfl
theorem V8(k:Int)(p0 p1 p2 p3 r:List UInt8)(h0:Zt r=G)(m:Nat)(hm:m<4)(h:QS k m=M):Xe k m p0 p1 p2 p3 r=G:=by
 match m,hm with|0,_=>show X9 k r=G;rw[X9,show QY k=M from h,JY,h0]|1,_=>show Ve k p0 r=G;rw[Ve,show QY k=M from h,JY,h0]|2,_=>show Vg k p0 p1 r=G;rw[Vg,show tD (k=3)=M from h,JY,h0]|3,_=>show Vf k p0 p1 p2 r=G;rw[Vf,show tD (k=4)=M from h,JY,h0]
theorem V9(k:Int)(p0 p1 p2 p3 r p r2:List UInt8)(h0:Zt r=I (p,r2)):(QS k 0=M->Xe k 0 p0 p1 p2 p3 r=Xe k 1 p p1 p2 p3 r2)∧(QS k 1=M->Xe k 1 p0 p1 p2 p3 r=Xe k 2 p0 p p2 p3 r2)∧(QS k 2=M->Xe k 2 p0 p1 p2 p3 r=Xe k 3 p0 p1 p p3 r2)∧(QS k 3=M->Xe k 3 p0 p1 p2 p3 r=Xe k 4 p0 p1 p2 p r2):=by
 refine⟨fun h=>?_,fun h=>?_,fun h=>?_,fun h=>?_⟩;·show X9 k r=Ve k p r2;rw[X9,show QY k=M from h,JY,h0]
 ·show Ve k p0 r=Vg k p0 p r2;rw[Ve,show QY k=M from h,JY,h0]
 ·show Vg k p0 p1 r=Vf k p0 p1 p r2;rw[Vg,show tD (k=3)=M from h,JY,h0]
 ·show Vf k p0 p1 p2 r=I (⟨k,p0,p1,p2,p⟩,r2);rw[Vf,show tD (k=4)=M from h,JY,h0]
def Hu(k:Int)(b:List UInt8):Int:=match X9 k b with|none=>14|I (_,x)=>if x.length=0then 0 else 4
def Tg(k:Int)(b:List UInt8):Rq:=match X9 k b with|none=>V3|I (r,x)=>if x.length=0then r else V3
theorem Ft{k:Int}{b:List UInt8}(h:X9 k b=G):Hu k b=14∧Tg k b=V3:=by
 unfold Hu Tg;rw[h];exact⟨rfl,rfl⟩
theorem Fx{k:Int}{b x:List UInt8}{r:Rq}(h:X9 k b=I (r,x))(hx:0<x.length):Hu k b=4∧Tg k b=V3:=by
 unfold Hu Tg;rw[h];exact⟨if_neg (by omega),if_neg (by omega)⟩
theorem Fs{k:Int}{b x:List UInt8}{r:Rq}(h:X9 k b=I (r,x))(hx:x.length=0):Hu k b=0∧Tg k b=r:=by
 unfold Hu Tg;rw[h];exact⟨if_pos hx,if_pos hx⟩
theorem bW{k:Int}{b:List UInt8}(h:Hu k b=0):(Tg k b).kind=k:=by
 match hD:X9 k b with|none=>rw[(Ft hD).1]at h;cases h|I (r,x)=>by_cases hx:x.length=0;(·rw[(Fs hD hx).2];exact(Td hD).2);·rw[(Fx hD (by omega)).1]at h;cases h
theorem bO{b:List UInt8}(h1:¬4000<b.length)(h2:¬b.length=0)(hk:1<=Un b∧Un b<=8):QK b=(if Hu (Un b) (b.drop 1)=0then Yo (Tg (Un b) (b.drop 1))else Hu (Un b) (b.drop 1))∧(QK b=0->Qu b=Tg (Un b) (b.drop 1)):=by
 match hD:X9 (Un b) (b.drop 1)with|none=>obtain⟨e1,e2⟩:=Ft hD;(have:QK b=14:=by rw[QK,if_neg h1,if_neg h2,if_pos hk,hD]);rw[e1,this];exact⟨rfl,fun h=>by cases h⟩|I (r,x)=>(have hw:QK b=if x.length=0then Yo r else 4:=by rw[QK,if_neg h1,if_neg h2,if_pos hk,hD]);by_cases hx:x.length=0;(·obtain⟨e1,e2⟩:=Fs hD hx;rw[if_pos hx]at hw;rw[e1,e2,if_pos rfl];exact⟨hw,fun h=>by rw[Qu,if_pos h,hD]⟩);·obtain⟨e1,e2⟩:=Fx hD (by omega);rw[if_neg hx]at hw;rw[e1,hw];exact⟨rfl,fun h=>by cases h⟩
theorem aW{k:Int}{b:List UInt8}(hb:b.length<=4000):(Tg k b).name.length<=4000∧(Tg k b).key.length<=4000∧(Tg k b).last.length<=4000∧(Tg k b).value.length<=4000:=by
 match hD:X9 k b with|none=>rw[(Ft hD).2];simp[V3]|I (r,x)=>by_cases hx:x.length=0;(·rw[(Fs hD hx).2];obtain⟨_,r1,r2,r3,h1,h2,h3,h4⟩:=kJ hD;(have key:∀{c:Bool}{r p r2:List UInt8},Jh c r=I (p,r2)->p.length<=r.length∧r2.length<=r.length:=by intro c r p r2 h;have hf:=VL h;cases c with|false=>have:=We h rfl;subst this;rw[hf];exact⟨tQ _,by simp[Xm]⟩|true=>rw[hf];simp[Xm,XK];omega);have a1:=key h1;have a2:=key h2;have a3:=key h3;have a4:=key h4;omega);·rw[(Fx hD (by omega)).2];simp[V3]
section
variable{D:List UInt8->List UInt8}{v:Sv}
theorem E0(hD:∀x,(D x).length=4):∀(l:List Ac)(v:Sv),Zf D v->(∀a∈l,Yt a)->v.synced<=(l.foldl (Ja D) v).synced|[],_,_,_=>tX _|a::l,v,h,ha=>by have h1:=(Cx hD h (ha a sN)).1;exact tP h1 (E0 hD l _ (h.act hD (ha a sN)) (fun x hx=>ha x (sE _ hx)))
def Z6(D:List UInt8->List UInt8):Sv->List Ac->List Int|_,[]=>[]|v,a::l=>(if a.kind=2then((Ja D v a).out.drop v.out.length).map (fun r=>r.turn)else[])++Z6 D (Ja D v a) l
theorem P7:∀(q:List Nat)(n:Nat),(∀t∈(J4 n q).map (fun r=>r.turn),(n:Int)<t∧t<=((n+q.length:Nat):Int))∧((J4 n q).map (fun r=>r.turn)).Pairwise (·<·)|[],n=>⟨fun t ht=>by simp[J4]at ht,by simp[J4]⟩|s::q,n=>by obtain⟨h1,h2⟩:=P7 q (n+1);rw[J4,oD];refine⟨fun t ht=>?_,rA.2 ⟨fun t ht=>?_,h2⟩⟩;(·rcases tJ.1 ht with e|e;(·rw[e];show(n:Int)<((n+1:Nat):Int)∧((n+1:Nat):Int)<=((n+(q.length+1):Nat):Int);omega);·have:=h1 t e;rw[sJ];omega);·show((n+1:Nat):Int)<t;exact(h1 t ht).1
theorem AT(v:Sv){a:Ac}(ha:a.kind=2):(∀t∈((Ja D v a).out.drop v.out.length).map (fun r=>r.turn),(v.synced:Int)<t∧t<=((Ja D v a).synced:Int))∧(((Ja D v a).out.drop v.out.length).map (fun r=>r.turn)).Pairwise (·<·):=by
 rw[Ja,if_neg (by omega),if_pos ha];split;·show(∀t∈((v.out++J4 v.synced v.queue).drop v.out.length).map _,_∧t<=((v.synced+v.queue.length:Nat):Int))∧(((v.out++J4 v.synced v.queue).drop v.out.length).map _).Pairwise _;rw[List.drop_left];exact P7 v.queue v.synced
 ·rw[List.drop_length];exact⟨fun t ht=>by simp at ht,by simp⟩
theorem Cg(hD:∀x,(D x).length=4):∀(l:List Ac)(v:Sv),Zf D v->(∀a∈l,Yt a)->(∀t∈Z6 D v l,(v.synced:Int)<t∧t<=((l.foldl (Ja D) v).synced:Int))∧(Z6 D v l).Pairwise (·<·)|[],v,_,_=>⟨fun t ht=>by simp[Z6]at ht,by simp[Z6]⟩|a::l,v,h,ha=>by have hA:=ha a sN;have hl:∀x∈l,Yt x:=fun x hx=>ha x (sE _ hx);have hg:=h.act hD hA;have ht:=(Cx hD h hA).1;have hr:=E0 hD l _ hg hl;obtain⟨h1,h2⟩:=Cg hD l _ hg hl;rw[Z6,List.foldl_cons];by_cases e:a.kind=2;(·rw[if_pos e];obtain⟨k1,k2⟩:=AT (D:=D) v e;refine⟨fun t hm=>?_,List.pairwise_append.2 ⟨k2,h2,fun x hx y hy=>?_⟩⟩;(·rcases tY.1 hm with hm|hm;(·have:=k1 t hm;omega);·have:=h1 t hm;omega);·have:=k1 x hx;have:=h1 y hy;omega);·rw[if_neg e,pJ];exact⟨fun t hm=>by have:=h1 t hm;omega,h2⟩
end
def WM:Prop:=∀(w:F)(v:H)(t:V2),KR w v t->xO t->rC S 83 #[v] w fun e w'=>∃x,e=tK (sV #[x,Y tE (TZ t)])∧Yv w' x (Kn t)∧L w w' G
def By:Prop:=∀(w:F)(v:H)(t:V2)(keep:Int),KR w v t->xO t->-9223372036854775808<=keep->keep<=9223372036854775807->rC S 103 #[v,Y tE keep] w fun e w'=>∃x,e=tK (sV #[x,Y tE (Uk t keep)])∧Yv w' x (Xq t keep)∧L w w' G
theorem Ed:(112:Nat)≠5:=by
 decide
theorem SU:(112:Nat)≠97:=by
 decide
theorem R7:(112:Nat)≠208:=by
 decide
def WG:Prop:=∀(w:F)(v:H)(a:Ac),LX w v a->Aj a->rC S 37 #[v] w fun e w'=>e=tK (Y tE (YW a))∧L w w' G
theorem Iy(s q:Int)(d:List UInt8):YW ⟨1,s,q,d⟩=if 0<=s∧s<=7then(if 4000<d.length then 1 else if q=0then 0 else 4)else 2:=by
 unfold YW;rw[if_pos (by show(1:Int)<=1∧(1:Int)<=4;omega)];by_cases h1:0<=s∧s<=7;·rw[if_pos h1,if_neg (by rintro(⟨_,h⟩|⟨h,_⟩);exact h h1;cases h)];by_cases h2:4000<d.length;(·rw[if_pos h2,if_pos h2]);·rw[if_neg h2,if_neg h2];by_cases h3:q=0;(·rw[if_pos h3,if_neg];rintro(⟨h,_⟩|⟨_,h⟩|⟨h,_⟩);(·exact h rfl);(·exact h h3);·exact h rfl);·rw[if_neg h3,if_pos (.inr (.inl ⟨by show(1:Int)≠3;decide,h3⟩))]
 ·rw[if_neg h1,if_pos (.inl ⟨rfl,h1⟩)]
theorem AI(s q:Int)(d:List UInt8):YW ⟨3,s,q,d⟩=if 0<=q∧q<=200000then(if 4000<d.length then 1 else if s=0then(if 0<d.length then 4 else 0)else 4)else 2:=by
 unfold YW;rw[if_pos (by show(1:Int)<=3∧(3:Int)<=4;omega)];by_cases h1:0<=q∧q<=200000;·rw[if_pos h1,if_neg (by rintro(⟨h,_⟩|⟨_,h⟩);cases h;exact h h1)];by_cases h2:4000<d.length;(·rw[if_pos h2,if_pos h2]);·rw[if_neg h2,if_neg h2];by_cases h3:s=0;(·rw[if_pos h3];by_cases h4:0<d.length;(·rw[if_pos h4,if_pos (.inr (.inr ⟨by show(3:Int)≠1;decide,h4⟩))]);·rw[if_neg h4,if_neg];rintro(⟨_,h⟩|⟨h,_⟩|⟨_,h⟩);(·exact h h3);(·exact h rfl);·exact h4 h);·rw[if_neg h3,if_pos (.inl ⟨by show(3:Int)≠1;decide,h3⟩)]
 ·rw[if_neg h1,if_pos (.inr ⟨rfl,h1⟩)]
theorem Cz(k s q:Int)(d:List UInt8)(hk:k=2∨k=4):YW ⟨k,s,q,d⟩=if 4000<d.length then 1 else if s=0then(if q=0then(if 0<d.length then 4 else 0)else 4)else 4:=by
 unfold YW;have k1:¬k=1:=by omega
 have k3:¬k=3:=by omega
 rw[if_pos (by show 1<=k∧k<=4;omega),if_neg (by rintro(⟨h,_⟩|⟨h,_⟩);exact k1 h;exact k3 h)];by_cases h2:4000<d.length;·rw[if_pos h2,if_pos h2]
 ·rw[if_neg h2,if_neg h2];by_cases h3:s=0;(·rw[if_pos h3];by_cases h5:q=0;(·rw[if_pos h5];by_cases h4:0<d.length;(·rw[if_pos h4,if_pos (.inr (.inr ⟨k1,h4⟩))]);·rw[if_neg h4,if_neg];rintro(⟨_,h⟩|⟨_,h⟩|⟨_,h⟩);(·exact h h3);(·exact h h5);·exact h4 h);·rw[if_neg h5,if_pos (.inr (.inl ⟨k3,h5⟩))]);·rw[if_neg h3,if_pos (.inl ⟨k1,h3⟩)]
def XQ(r:Rq):Nat->List UInt8|0=>[sF r.kind.toNat]|1=>[sF r.kind.toNat]++Xm (QS r.kind 0) r.name|2=>[sF r.kind.toNat]++Xm (QS r.kind 0) r.name++Xm (QS r.kind 1) r.key|3=>[sF r.kind.toNat]++Xm (QS r.kind 0) r.name++Xm (QS r.kind 1) r.key++Xm (QS r.kind 2) r.last|_=>[sF r.kind.toNat]++Xm (QS r.kind 0) r.name++Xm (QS r.kind 1) r.key++Xm (QS r.kind 2) r.last++Xm (QS r.kind 3) r.value
theorem Hp(r:Rq):XQ r 4=Vl r:=by
 show[sF r.kind.toNat]++Xm (QY r.kind) r.name++Xm (QY r.kind) r.key++Xm (tD (r.kind=3)) r.last++Xm (tD (r.kind=4)) r.value=_;rw[Vl,zD];simp[rK]
theorem LI{r:Rq}(h:Jd r)(m:Nat):(XQ r m).length<=200:=by
 have k1:r.name.length<=8:=by by_cases e:QY r.kind=M;(·exact(h.name e).2);·rw[h.noName (by simpa using e)];simp
 have k2:r.key.length<=16:=by by_cases e:QY r.kind=M;(·exact(h.key e).2);·rw[h.noKey (by simpa using e)];simp
 have k3:r.last.length<=16:=by by_cases e:r.kind=3;(·exact(h.last e).2);·rw[h.noLast e];simp
 have k4:=h.value;have l1:=KV (QS r.kind 0) r.name;have l2:=KV (QS r.kind 1) r.key;have l3:=KV (QS r.kind 2) r.last;have l4:=KV (QS r.kind 3) r.value;match m with|0=>simp[XQ]|1=>simp only[XQ,tA,sB];omega|2=>simp only[XQ,tA,sB];omega|3=>simp only[XQ,tA,sB];omega|m+4=>simp only[XQ,tA,sB];omega
end Go.Proofs.YtaljfgkjfogmeaaGreatDoor
