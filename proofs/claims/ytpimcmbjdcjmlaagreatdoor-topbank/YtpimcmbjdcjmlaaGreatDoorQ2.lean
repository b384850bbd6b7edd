/-
  Texts of this proof, joined, with few blanks: AcM0, PairM0, PairB, WrMem, CmtMem, TapeA, TapeB, TapeK, HistF, HistC, TxnF, TxnG, SrvF, SrvI, SrvO, TopF, TenMem, CmtSet, RdMem, StepMem, SvK, SvG, CmtTy, CmtRow, CmtRowD, TxNote, TxM, TxnL, TxCheck, TCCheck, PairStepQ, PairSlice, FCCheck, FCApply, TxMs, RqRd, WrCkF, TxLook, FindM, SrvS, SrvL, SrvM, SrvN, TxClash, TpEnc, TpCheck, BSlice, CmtFit, TxScan, TCRange, FCRange, BitC, PartC, TxWrite, RqWt, HsKept, RqDe, TapeH, WrDtF, SrvW, WrEnF, RdrF, RdrMem, FrameB, GearM, TpSync, TpCrash, TapTy, LnCk, LineH.
-/
import Derived.Deep.AppendLies
import Derived.Test.YtpimcmbjdcjmlaaGreatDoorQ1
import Derived.Maps.AppendAt
import Derived.Deep.RegionWith
import Derived.Handy
import Derived.ProofKit
import Derived.OpenShut
import Derived.ShutString
import Derived.ChangeOld
import Derived.Deep.DeepHandedRow
import Derived.SizedLaws
import Derived.Test.YtpimcmbjdcjmlaaGreatDoorRows
set_option maxRecDepth 100000
set_option maxHeartbeats 8000000
open Array renaming getElem?_eq_some_iff->tM,getElem?_modify->tZ,getElem?_toList->pB
open Bool renaming true->tA,false->tB,and_eq_true->rC,or_eq_false_iff->rS
open Classical renaming byContradiction->sV
open Decidable renaming decide->tT
open Go renaming World->L,Value->N,TypeId->sB,undef->sP,sliced->sU,Calls->rB,Addr->rD,Operand->rK,Oper->rP,info_parts->pD,yielded->pE,maxLen->pN,heap_alloc_new->oK
open Go.Addr.mk renaming injEq->rJ
open Go.Ending renaming returned->tJ
open Go.Instr renaming slice->rW
open Go.IntKind renaming i64->tH,u8->pQ
open Go.Obj renaming cells->tD
open Go.Obj.cells renaming injEq->sA
open Go.Proofs.Tryz renaming prog->tC
open Go.Region renaming wanted->sI
open Go.Result renaming andThen->rI
open Go.Value renaming slice->S,int->tE,bool->tQ,tuple->sK,agg->sW,ownBlock->pK
open Go.Value.slice renaming injEq->tL
open Go.World renaming grownBy->Y,setCell->tI,cell?->tY,cell?_of_block->sQ,ownsRow_nil->sX,grownBy_alloc->rA,news_of_block->rF,frozen?->r7,cell?_setCell_same'->pM
open Go.World.ownsRow renaming kept->tX,lt->sJ
open Int renaming toNat_natCast->sR,emod_lt_of_pos->pW,emod_nonneg->oH
open List renaming length_append->tG,eq_nil_of_length_eq_zero->tN,mem_cons->tP,flatMap_cons->tR,not_mem_nil->tU,mem_cons_of_mem->tW,mem_append->sD,length_singleton->sE,getElem?_take->sF,mem_cons_self->sG,take_length->sH,length_cons->sL,getElem_mem->sM,getElem?_eq_some_iff->sN,any_eq_true->sO,drop_eq_getElem_cons->sY,take_succ_eq_append_getElem->sZ,take_succ_cons->rG,pairwise_cons->rH,length_take->rM,flatMap_nil->rN,append_nil->rT,length_set->rU,length_pos_iff->rV,take_append_drop->pC,any_cons->pG,take_set->pH,length_drop->pJ,take_take->pL,getElem?_append_left->pO,take_of_length_le->pP,getElem?_append->pR,drop_succ_cons->pS,getElem_of_mem->pT,set_cons_succ->pU,nodup_append->pV,cons_append->pX,length_nil->oC,nil_append->oD,nodup_cons->oE,mem_filter->oF,foldl_cons->oG,drop_zero->oI
open Nat renaming lt_of_lt_of_le->tK,le_trans->tS,zero_le->tV,le_refl->sC,zero_add->sS,succ_mul->r8,min_eq_left->pA,mul_le_mul_right->pF,sub_zero->pI,le_of_lt_succ->pY,sub_self->oJ
open Option renaming none->M,some->O,map_some->rO
open Option.some renaming injEq->tF,inj->oL
open Prod.mk renaming injEq->rY
open UInt8 renaming ofNat->rX,toNat_inj->pZ
namespace Go.Proofs.YtpimcmbjdcjmlaaGreatDoor
open Go.RowKit
def Hk(w:L)(v:N)(a:Ac):Prop:=∃vd,v=sW #[tE tH a.kind,tE tH a.sess,tE tH a.keep,vd]∧Qe w vd a.data
theorem Hk.grown{w w':L}{v:N}{a:Ac}(h:Hk w v a)(hg:Y w w' M):Hk w' v a:=by
 obtain⟨c,rfl,b⟩:=h;exact⟨c,rfl,b.grown hg⟩
theorem Hk.agg{w:L}{v:N}{a:Ac}(h:Hk w v a):∃da dc,v=sW #[tE tH a.kind,tE tH a.sess,tE tH a.keep,S da a.data.length dc]∧Qe w (S da a.data.length dc) a.data:=by
 obtain⟨c,rfl,b⟩:=h;obtain⟨da,dc,rfl⟩:=b.shape;exact⟨da,dc,rfl,b⟩
def Cp(w:L)(b o:Nat)(a:Ac):Prop:=∃vd,w.cell? ⟨b,o,M⟩=O (tE tH a.kind)∧w.cell? ⟨b,o+1,M⟩=O (tE tH a.sess)∧w.cell? ⟨b,o+2,M⟩=O (tE tH a.keep)∧w.cell? ⟨b,o+3,M⟩=O vd∧Qe w vd a.data
theorem Cp.grown{w w':L}{b o:Nat}{a:Ac}(h:Cp w b o a)(hg:Y w w' M):Cp w' b o a:=by
 obtain⟨i,c,d,e,f,g⟩:=h;exact⟨i,hg.cell c (by simp),hg.cell d (by simp),hg.cell e (by simp),hg.cell f (by simp),g.grown hg⟩
def YZ(w:L)(v:N)(l:List Ac):Prop:=∃a cap,v=S a l.length cap∧l.length<=cap∧((l=[]∧(a=M->cap=0))∨∃b o,a=O ⟨b,o,M⟩∧∀i,i<l.length->Cp w b (o+i*4) (l.getD i UR))
theorem Ro(w:L):YZ w (S M 0 0) []:=⟨M,0,rfl,sC _,.inl ⟨rfl,fun _=>rfl⟩⟩
theorem YZ.shape{w:L}{v:N}{l:List Ac}(h:YZ w v l):∃a cap,v=S a l.length cap:=by
 obtain⟨a,cap,rfl,_⟩:=h;exact⟨a,cap,rfl⟩
theorem YZ.grown{w w':L}{v:N}{l:List Ac}(h:YZ w v l)(hg:Y w w' M):YZ w' v l:=by
 obtain⟨a,cap,rfl,c,h⟩:=h;refine⟨a,cap,rfl,c,?_⟩;rcases h with h|⟨b,o,rfl,h⟩;·exact .inl h
 ·exact .inr ⟨b,o,rfl,fun i d=>(h i d).grown hg⟩
theorem YZ.at{w:L}{a:Option rD}{n cap:Nat}{l:List Ac}(h:YZ w (S a n cap) l)(i:Nat)(hi:i<l.length):∃b o,a=O ⟨b,o,M⟩∧Cp w b (o+i*4) (l.getD i UR):=by
 obtain⟨d,c,e,f,h⟩:=h;simp only[tL]at e;obtain⟨rfl,rfl,rfl⟩:=e;rcases h with⟨rfl,_⟩|⟨b,o,rfl,h⟩;·simp at hi
 ·exact⟨b,o,rfl,h i hi⟩
structure At(a:Ac):Prop where kind:-9223372036854775808<=a.kind∧a.kind<=9223372036854775807sess:-9223372036854775808<=a.sess∧a.sess<=9223372036854775807keep:-9223372036854775808<=a.keep∧a.keep<=9223372036854775807data:a.data.length<=140737488355328
structure T5 (l : List Ac) : Prop where
  many : l.length * 48 <= 140737488355328
  each : ∀ i, i < l.length -> At (l.getD i UR)
theorem Lm{a:Ac}(h:XT a):At a:=by
 have b:=h.kind;have c:=h.data;have d:0<=a.sess∧a.sess<=7:=by by_cases e:a.kind=1;(·exact h.sess e);·rw[h.noSess e];omega
 have f:0<=a.keep∧a.keep<=200000:=by by_cases e:a.kind=3;(·exact h.keep e);·rw[h.noKeep e];omega
 exact⟨by omega,by omega,by omega,by omega⟩
abbrev AV:=Ac×N
def AL:AV:=(UR,sP)
def Jk(us:List AV):List N:=us.flatMap fun x=>[tE tH x.1.kind,tE tH x.1.sess,tE tH x.1.keep,x.2]
theorem yU(us:List AV):(Jk us).length=us.length*4:=by
 induction us with|nil=>rfl|cons x us ih=>rw[Jk,tR,tG,<-Jk,ih,sL];simp;omega
theorem Mp(a b:List AV):Jk (a++b)=Jk a++Jk b:=by
 simp[Jk]
theorem Np:∀(us:List AV)(i:Nat),i<us.length->(Jk us)[i*4]?=O (tE tH (us.getD i AL).1.kind)∧(Jk us)[i*4+1]?=O (tE tH (us.getD i AL).1.sess)∧(Jk us)[i*4+2]?=O (tE tH (us.getD i AL).1.keep)∧(Jk us)[i*4+3]?=O (us.getD i AL).2|[],i,h=>by simp at h|x::us,0,_=>⟨rfl,rfl,rfl,rfl⟩|x::us,i+1,h=>by have:=Np us i (by simpa using h);rw[show(i+1)*4=i*4+4by omega];exact this
theorem iO:(42:Nat)≠5:=by
 decide
def UQ(rb:Nat)(w:L)(v:N)(l:List Ac):Prop:=∃us:List AV,us.map (·.1)=l∧w.ownsRow rb 42 4 v l.length (Jk us)∧∀x∈us,Qg 0 w x.2 x.1.data
theorem UQ.row{rb:Nat}{w:L}{v:N}{l:List Ac}(h:UQ rb w v l):v.ownBlock=M∨∃g cur fz,v.ownBlock=O g∧rb<=g∧w.heap[g]?=O (tD cur 42 fz):=by
 obtain⟨c,_,h,_⟩:=h;rcases h.2with⟨rfl,_⟩|⟨g,cap,cur,rfl,a,b,_⟩;·exact .inl rfl
 ·exact .inr ⟨g,cur,_,rfl,a,b⟩
theorem UQ.lt{rb:Nat}{w:L}{v:N}{l:List Ac}(h:UQ rb w v l):∀k,v.ownBlock=O k->rb<=k∧k<w.heap.size:=by
 obtain⟨a,_,h,_⟩:=h;exact sJ h
theorem UQ.grownNone{rb:Nat}{w w':L}{v:N}{l:List Ac}(h:UQ rb w v l)(hg:Y w w' M):UQ rb w' v l:=by
 obtain⟨e,a,b,c⟩:=h;refine⟨e,a,tX b hg ?_,fun x d=>(c x d).keptT hg (.inl rfl)⟩;cases hv:v.ownBlock with|none=>exact .inl rfl|some k=>exact .inr (by simp)
theorem UQ.shape{rb:Nat}{w:L}{v:N}{l:List Ac}(h:UQ rb w v l):∃a cap,v=S a l.length cap:=by
 obtain⟨d,_,h,_⟩:=h;rcases h.2with⟨rfl,c⟩|⟨g,cap,b,rfl,_⟩;·exact⟨M,0,by rw[c]⟩
 ·exact⟨_,cap,rfl⟩
theorem Hu{us:List AV}{l:List Ac}(h:us.map (·.1)=l)(i:Nat)(hi:i<l.length):(us.getD i AL).1=l.getD i UR∧us.getD i AL∈us:=by
 subst h;have a:i<us.length:=by simpa using hi
 refine⟨by simp[a],?_⟩;rw[show us.getD i AL=us[i]by simp[a]];exact sM a
theorem UQ.list{rb:Nat}{w:L}{v:N}{l:List Ac}(h:UQ rb w v l):YZ w v l:=by
 obtain⟨c,o,r,y⟩:=h;rcases r.2with⟨rfl,x⟩|⟨g,cap,d,rfl,D,z,B,E,F,C⟩;·have:l=[]:=tN x;rw[this];exact Ro w
 ·(have a:∀j u,(Jk c)[j]?=O u->w.cell? ⟨g,j,M⟩=O u:=by intro j u n;(have e:j<l.length*4:=by have:=(sN.1 n).1;rw[r.1]at this;exact this);(have b:(d.toList.take (l.length*4))[j]?=(Jk c)[j]?:=by rw[C]);rw[sF,if_pos e,n]at b;simp[tY,z];simpa using b);refine⟨_,cap,rfl,B,.inr ⟨g,0,rfl,fun i A=>?_⟩⟩;obtain⟨t,b⟩:=Hu o i A;(have p:c.length=l.length:=by rw[<-o];simp);obtain⟨f,k,m,s⟩:=Np c i (by omega);have q:=y _ b;rw[t]at f k m q;rw[sS];exact⟨_,a _ _ f,a _ _ k,a _ _ m,a _ _ s,q.1⟩
theorem C8{rb:Nat}{w W w1:L}{v:N}{l:List Ac}(h:Y w W M)(ho:UQ rb W v l)(hb:w.heap.size<=rb)(hg:Y W w1 v.ownBlock):Y w w1 M:=⟨hg.os.trans h.os,hg.tape.trans h.tape,hg.output.trans h.output,tS h.size hg.size,fun i a b=>(hg.block i (tK a h.size) (fun e=>by
 have:=(ho.lt i e.symm).1;omega)).trans (h.block i a b)⟩
theorem Mx:(tC.info? 42).map (fun i=>(i.zero,i.size,i.bytes))=O (O (sW #[tE tH 0,tE tH 0,tE tH 0,S M 0 0]),4,48):=by
 kernel_rfl
def Mr(w:L)(v:N)(p:Pr):Prop:=∃vk vv,v=sW #[vk,vv]∧Qe w vk p.1∧Qe w vv p.2
theorem Mr.grown{w w':L}{v:N}{p:Pr}(h:Mr w v p)(hg:Y w w' M):Mr w' v p:=by
 obtain⟨c,d,rfl,a,b⟩:=h;exact⟨c,d,rfl,a.grown hg,b.grown hg⟩
def Px(w:L)(b o:Nat)(p:Pr):Prop:=∃vk vv,w.cell? ⟨b,o,M⟩=O vk∧w.cell? ⟨b,o+1,M⟩=O vv∧Qe w vk p.1∧Qe w vv p.2
theorem Px.grown{w w':L}{b o:Nat}{p:Pr}(h:Px w b o p)(hg:Y w w' M):Px w' b o p:=by
 obtain⟨f,g,a,c,d,e⟩:=h;exact⟨f,g,hg.cell a (by simp),hg.cell c (by simp),d.grown hg,e.grown hg⟩
def Qp(w:L)(v:N)(l:PL):Prop:=∃a cap,v=S a l.length cap∧l.length<=cap∧((l=[]∧(a=M->cap=0))∨∃b o,a=O ⟨b,o,M⟩∧∀i,i<l.length->Px w b (o+i*2) (l.getD i ([],[])))
theorem Yj(w:L):Qp w (S M 0 0) []:=⟨M,0,rfl,sC _,.inl ⟨rfl,fun _=>rfl⟩⟩
theorem Qp.grown{w w':L}{v:N}{l:PL}(h:Qp w v l)(hg:Y w w' M):Qp w' v l:=by
 obtain⟨a,cap,rfl,c,h⟩:=h;refine⟨a,cap,rfl,c,?_⟩;rcases h with h|⟨b,o,rfl,h⟩;·exact .inl h
 ·exact .inr ⟨b,o,rfl,fun i d=>(h i d).grown hg⟩
theorem Qp.shape{w:L}{v:N}{l:PL}(h:Qp w v l):∃a cap,v=S a l.length cap:=by
 obtain⟨a,cap,rfl,_⟩:=h;exact⟨a,cap,rfl⟩
theorem Qp.at{w:L}{a:Option rD}{n cap:Nat}{l:PL}(h:Qp w (S a n cap) l)(i:Nat)(hi:i<l.length):∃b o,a=O ⟨b,o,M⟩∧Px w b (o+i*2) (l.getD i ([],[])):=by
 obtain⟨d,c,e,f,h⟩:=h;simp only[tL]at e;obtain⟨rfl,rfl,rfl⟩:=e;rcases h with⟨rfl,_⟩|⟨b,o,rfl,h⟩;·simp at hi
 ·exact⟨b,o,rfl,h i hi⟩
theorem Qg.kept{base:Nat}{w w':L}{v:N}{bs:List UInt8}(h:Qg base w v bs){row:Option Nat}(hg:Y w w' row)(hrow:row=M∨∃g cur fz,row=O g∧base<=g∧w.heap[g]?=O (tD cur 35 fz)):Qg base w' v bs:=by
 obtain⟨q,u⟩:=h;rcases u with rfl|⟨b,l,j,c⟩;·obtain⟨a,cap,rfl,c,h⟩:=q;refine⟨⟨a,cap,rfl,c,?_⟩,.inl rfl⟩;rcases h with h|⟨b,o,rfl,h⟩;(·exact .inl h);·exact .inr ⟨b,o,rfl,fun i n=>by simp at n⟩
 ·(have k:O b≠row:=by intro e;rcases hrow with rfl|⟨g,cur,fz,rfl,t,f⟩;(·cases e);·cases e;rcases c with c|⟨p,s,c⟩;(·omega);·rw[c]at f;simp at f);have d:=hg.block b j k;refine⟨?_,.inr ⟨b,l,tK j hg.size,?_⟩⟩;(·obtain⟨a,cap,rfl,m,h⟩:=q;refine⟨a,cap,rfl,m,?_⟩;rcases h with h|⟨r,o,rfl,h⟩;(·exact .inl h);·refine .inr ⟨r,o,rfl,fun i n=>?_⟩;simp[pK]at l;subst l;exact hg.cell (h i n) (by simpa using k));·rcases c with c|⟨cur,fz,c⟩;(·exact .inl c);·exact .inr ⟨cur,fz,by rw[d];exact c⟩
def flat(vs:List (N×N)):List N:=vs.flatMap fun x=>[x.1,x.2]
theorem Kt(vs:List (N×N)):(flat vs).length=vs.length*2:=by
 induction vs with|nil=>rfl|cons x r ih=>simp only[flat,tR,tG,sL,oC]at ih⊢;omega
theorem JR(a b:List (N×N)):flat (a++b)=flat a++flat b:=by
 simp[flat]
theorem xT:∀(vs:List (N×N))(i:Nat),i<vs.length->(flat vs)[i*2]?=O (vs.getD i (sP,sP)).1∧(flat vs)[i*2+1]?=O (vs.getD i (sP,sP)).2|[],i,h=>by simp at h|x::r,0,_=>by simp[flat]|x::r,i+1,h=>by have:=xT r i (by simpa using h);rw[show(i+1)*2=i*2+2by omega,show i*2+2+1=(i*2+1)+2by omega];simpa[flat]using this
def Gy(base:Nat)(w:L)(v:N)(l:PL):Prop:=∃vs:List (N×N),vs.length=l.length∧w.ownsRow base 35 2 v l.length (flat vs)∧∀i,i<l.length->Qg base w (vs.getD i (sP,sP)).1 (l.getD i ([],[])).1∧Qg base w (vs.getD i (sP,sP)).2 (l.getD i ([],[])).2
theorem Gy.row{base:Nat}{w:L}{v:N}{l:PL}(h:Gy base w v l):v.ownBlock=M∨∃g cur fz,v.ownBlock=O g∧base<=g∧w.heap[g]?=O (tD cur 35 fz):=by
 obtain⟨c,_,h,_⟩:=h;rcases h.2with⟨rfl,_⟩|⟨g,cap,cur,rfl,a,b,_⟩;·exact .inl rfl
 ·exact .inr ⟨g,cur,_,rfl,a,b⟩
theorem Gy.lt{base:Nat}{w:L}{v:N}{l:PL}(h:Gy base w v l):∀k,v.ownBlock=O k->base<=k∧k<w.heap.size:=by
 obtain⟨a,_,h,_⟩:=h;exact sJ h
theorem Gy.grownNone{base:Nat}{w w':L}{v:N}{l:PL}(h:Gy base w v l)(hg:Y w w' M):Gy base w' v l:=by
 obtain⟨e,c,d,a⟩:=h;refine⟨e,c,tX d hg ?_,fun i b=>⟨((a i b).1).kept hg (.inl rfl),((a i b).2).kept hg (.inl rfl)⟩⟩;cases hv:v.ownBlock with|none=>exact .inl rfl|some k=>exact .inr (by simp)
theorem Gy.alloc{base:Nat}{w:L}{v:N}{l:PL}(h:Gy base w v l)(o:Obj):Gy base (w.alloc o) v l:=h.grownNone (rA _ _ _)
theorem Gy.shape{base:Nat}{w:L}{v:N}{l:PL}(h:Gy base w v l):∃a cap,v=S a l.length cap:=by
 obtain⟨d,_,h,_⟩:=h;rcases h.2with⟨rfl,c⟩|⟨g,cap,b,rfl,_⟩;·exact⟨M,0,by rw[c]⟩
 ·exact⟨_,cap,rfl⟩
theorem eU{base:Nat}{w W w1:L}{v:N}{l:PL}(h:Y w W M)(ho:Gy base W v l)(hb:w.heap.size<=base)(hg:Y W w1 v.ownBlock):Y w w1 M:=⟨hg.os.trans h.os,hg.tape.trans h.tape,hg.output.trans h.output,tS h.size hg.size,fun i a b=>(hg.block i (tK a h.size) (fun e=>by
 have:=(ho.lt i e.symm).1;omega)).trans (h.block i a b)⟩
theorem DY:(tC.info? 35).map (fun i=>(i.zero,i.size,i.bytes))=O (O (sW #[S M 0 0,S M 0 0]),2,48):=by
 kernel_rfl
theorem Ji{α:Type}(a b:List α)(i:Nat)(d:α):(a++b).getD i d=if i<a.length then a.getD i d else b.getD (i-a.length) d:=by
 by_cases h:i<a.length;·rw[if_pos h];simp[pR,h]
 ·rw[if_neg h];simp[pR,h]
theorem jE(vs:List (N×N))(k:Nat):flat (vs.take k)=(flat vs).take (k*2):=by
 induction vs generalizing k with|nil=>simp[flat]|cons x r ih=>cases k with|zero=>simp[flat]|succ k=>rw[rG,show(k+1)*2=k*2+2by omega];have:=ih k;simp only[flat,tR,pX,oD,rG]at this⊢;rw[this]
theorem Ew(vs:List (N×N))(k:Nat):flat (vs.drop k)=(flat vs).drop (k*2):=by
 induction vs generalizing k with|nil=>simp[flat]|cons x r ih=>cases k with|zero=>simp[flat]|succ k=>rw[pS,show(k+1)*2=k*2+2by omega];have:=ih k;simp only[flat,tR,pX,oD,pS]at this⊢;rw[this]
theorem Gy.cells{base:Nat}{w:L}{g n cap:Nat}{vs:List (N×N)}{l:PL}(hr:w.ownsRow base 35 2 (S (O ⟨g,0,M⟩) n cap) l.length (flat vs)):∀j u,(flat vs)[j]?=O u->w.cell? ⟨g,j,M⟩=O u:=by
 intro j u f;rcases hr.2with⟨e,_⟩|⟨k,c,a,e,m,h,p,o,q,i⟩;·cases e
 ·simp only[tL,tF,rJ]at e;obtain⟨⟨rfl,_⟩,_,_⟩:=e;(have b:j<l.length*2:=by have:=(sN.1 f).1;rw[hr.1]at this;exact this);(have d:(a.toList.take (l.length*2))[j]?=(flat vs)[j]?:=by rw[i]);rw[sF,if_pos b,f]at d;simp[tY,h];simpa using d
theorem Q7.setOther{base:Nat}{w:L}{v:N}{bs:List UInt8}(h:Q7 base w v bs)(c i:Nat)(x:N)(hc:c<base):Q7 base (tI w ⟨c,i,M⟩ x) v bs:=by
 refine h.grown (row:=O c) (Qf (Qb _ _) i x) ?_;cases hv:v.ownBlock with|none=>exact .inl rfl|some k=>have:=(h.lt k hv).1;exact .inr (by simp;omega)
theorem U3{W w:L}{b:Nat}{x y:N}{t:sB}(hg:Y W w M)(h:W.heap[b]?=O (tD #[x,y] t))(u v:N):(tI w ⟨b,0,M⟩ u).cell? ⟨b,0,M⟩=O u∧((tI w ⟨b,0,M⟩ u).setCell ⟨b,1,M⟩ v).cell? ⟨b,1,M⟩=O v:=by
 have a:w.heap[b]?=O (tD #[x,y] t):=by rw[hg.block b (tM.1 h).1 (by simp)];exact h
 have c:w.cell? ⟨b,0,M⟩=O x:=by simp[tY,a]
 have d:w.cell? ⟨b,1,M⟩=O y:=by simp[tY,a]
 refine⟨pM _ _ _ (by rw[c];rfl),pM _ _ _ ?_⟩;rw[World.cell?_setCell_other _ _ _ _ (by simp),d];rfl
theorem Gm{base:Nat}{W:L}{pb:Nat}{x y:N}(h:W.heap[pb]?=O (tD #[x,y] 35))(hb:base<=pb)(u v:N):((tI W ⟨pb,0,M⟩ u).setCell ⟨pb,1,M⟩ v).heap[pb]?=O (tD #[u,v] 35)∧(∀z bs,Qg base W z bs->Qg base ((tI W ⟨pb,0,M⟩ u).setCell ⟨pb,1,M⟩ v) z bs)∧∀w0:L,w0.heap.size<=pb->Y w0 W M->Y w0 ((tI W ⟨pb,0,M⟩ u).setCell ⟨pb,1,M⟩ v) M:=by
 refine⟨?_,fun z bs c=>?_,fun w0 a b=>Qc (Qc b _ a _ _) _ a _ _⟩;·simp only[tI,tZ,if_true,h,rO];first|rfl|simp
 ·exact c.kept (Qf (Qf (Qb _ _) _ _) _ _) (.inr ⟨pb,_,_,rfl,hb,h⟩)
def Kl(rb pb:Nat)(w:L)(v:N)(l:PL):Prop:=∃vs:List (N×N),vs.length=l.length∧w.ownsRow rb 35 2 v l.length (flat vs)∧∀i,i<l.length->Qg pb w (vs.getD i (sP,sP)).1 (l.getD i ([],[])).1∧Qg pb w (vs.getD i (sP,sP)).2 (l.getD i ([],[])).2
theorem CX(rb pb:Nat)(w:L):Kl rb pb w (S M 0 0) []:=⟨[],rfl,sX _ _ _ _,fun i hi=>by
 simp at hi⟩
theorem Kl.p{rb pb:Nat}{w:L}{v:N}{l:PL}(h:Kl rb pb w v l)(hb:pb<=rb):Gy pb w v l:=by
 obtain⟨e,c,a,d⟩:=h;refine⟨e,c,⟨a.1,?_⟩,d⟩;rcases a.2with h|⟨g,cap,b,c,a,d⟩;·exact .inl h
 ·exact .inr ⟨g,cap,b,c,tS hb a,d⟩
theorem Kl.row{rb base:Nat}{w:L}{v:N}{l:PL}(h:Kl rb base w v l)(hb:base<=rb):v.ownBlock=M∨∃g cur fz,v.ownBlock=O g∧base<=g∧w.heap[g]?=O (tD cur 35 fz):=(h.p hb).row
theorem Kl.lt{rb pb:Nat}{w:L}{v:N}{l:PL}(h:Kl rb pb w v l):∀k,v.ownBlock=O k->rb<=k∧k<w.heap.size:=by
 obtain⟨a,_,h,_⟩:=h;exact sJ h
theorem Kl.grownNone{rb pb:Nat}{w w':L}{v:N}{l:PL}(h:Kl rb pb w v l)(hg:Y w w' M):Kl rb pb w' v l:=by
 obtain⟨e,c,d,a⟩:=h;refine⟨e,c,tX d hg ?_,fun i b=>⟨((a i b).1).kept hg (.inl rfl),((a i b).2).kept hg (.inl rfl)⟩⟩;cases hv:v.ownBlock with|none=>exact .inl rfl|some k=>exact .inr (by simp)
theorem Kl.alloc{rb pb:Nat}{w:L}{v:N}{l:PL}(h:Kl rb pb w v l)(o:Obj):Kl rb pb (w.alloc o) v l:=h.grownNone (rA _ _ _)
theorem Kl.shape{rb pb:Nat}{w:L}{v:N}{l:PL}(h:Kl rb pb w v l):∃a cap,v=S a l.length cap:=by
 obtain⟨d,_,h,_⟩:=h;rcases h.2with⟨rfl,c⟩|⟨g,cap,b,rfl,_⟩;·exact⟨M,0,by rw[c]⟩
 ·exact⟨_,cap,rfl⟩
theorem T0{rb pb:Nat}{w W w1:L}{v:N}{l:PL}(h:Y w W M)(ho:Kl rb pb W v l)(hb:w.heap.size<=rb)(hg:Y W w1 v.ownBlock):Y w w1 M:=⟨hg.os.trans h.os,hg.tape.trans h.tape,hg.output.trans h.output,tS h.size hg.size,fun i a b=>(hg.block i (tK a h.size) (fun e=>by
 have:=(ho.lt i e.symm).1;omega)).trans (h.block i a b)⟩
def gG(base:Nat)(w:L)(b o:Nat)(p:Pr):Prop:=∃vk vv,w.cell? ⟨b,o,M⟩=O vk∧w.cell? ⟨b,o+1,M⟩=O vv∧Qg base w vk p.1∧Qg base w vv p.2
def QJ(base:Nat)(w:L)(v:N)(l:PL):Prop:=∃a cap,v=S a l.length cap∧l.length<=cap∧((l=[]∧(a=M->cap=0))∨∃b o,a=O ⟨b,o,M⟩∧(b<base∨∃cur fz,w.heap[b]?=O (tD cur 35 fz))∧∀i,i<l.length->gG base w b (o+i*2) (l.getD i ([],[])))
theorem QJ.list{base:Nat}{w:L}{v:N}{l:PL}(h:QJ base w v l):Qp w v l:=by
 obtain⟨a,cap,rfl,g,h⟩:=h;refine⟨a,cap,rfl,g,?_⟩;rcases h with h|⟨b,o,rfl,_,h⟩;·exact .inl h
 ·refine .inr ⟨b,o,rfl,fun i j=>?_⟩;obtain⟨k,m,c,d,e,f⟩:=h i j;exact⟨k,m,c,d,e.1,f.1⟩
theorem Qp.pairsB{w w':L}{v:N}{l:PL}(h:Qp w v l)(hg:Y w w' M)(base:Nat)(hb:w.heap.size<=base):QJ base w' v l:=by
 obtain⟨a,cap,rfl,n,h⟩:=h;refine⟨a,cap,rfl,n,?_⟩;rcases h with h|⟨b,o,rfl,h⟩;·exact .inl h
 ·by_cases d:l=[];(·exact .inl ⟨d,fun e=>by cases e⟩);·have q:0<l.length:=rV.2 d;refine .inr ⟨b,o,rfl,.inl ?_,fun i p=>?_⟩;(·obtain⟨f,g,c,_⟩:=h 0 q;exact tK (VC c) hb);·obtain⟨f,g,c,j,k,m⟩:=h i p;exact⟨f,g,hg.cell c (by simp),hg.cell j (by simp),k.part hg base hb,m.part hg base hb⟩
theorem Gy.pairsB{base:Nat}{w:L}{v:N}{l:PL}(h:Gy base w v l):QJ base w v l:=by
 obtain⟨c,p,j,d⟩:=h;have a:=j;rcases j.2with⟨rfl,k⟩|⟨g,cap,b,rfl,o,m,n,q,r,s⟩;·have:l=[]:=tN k;subst this;exact⟨M,0,rfl,sC _,.inl ⟨rfl,fun _=>rfl⟩⟩
 ·refine⟨_,cap,rfl,n,.inr ⟨g,0,rfl,.inr ⟨b,_,m⟩,fun i f=>?_⟩⟩;have e:=xT c i (by omega);refine⟨(c.getD i (sP,sP)).1,(c.getD i (sP,sP)).2,?_,?_,(d i f).1,(d i f).2⟩;(·have:=Gy.cells a _ _ e.1;rw[sS];exact this);·have:=Gy.cells a _ _ e.2;rw[sS];exact this
theorem QJ.kept{base:Nat}{w w':L}{v:N}{l:PL}(h:QJ base w v l){row:Option Nat}(hg:Y w w' row)(hrow:row=M∨∃g cur t fz,row=O g∧base<=g∧w.heap[g]?=O (tD cur t fz)∧t≠5∧t≠35):QJ base w' v l:=by
 obtain⟨a,cap,rfl,D,h⟩:=h;refine⟨a,cap,rfl,D,?_⟩;rcases h with h|⟨b,o,rfl,d,h⟩;·exact .inl h
 ·by_cases s:l=[];(·exact .inl ⟨s,fun e=>by cases e⟩);·have F:0<l.length:=rV.2 s;(have p:b<w.heap.size:=by obtain⟨u,x,k,_⟩:=h 0 F;exact VC k);(have j:O b≠row:=by intro e;rcases hrow with rfl|⟨g,cur,t,fz,rfl,C,f,G,q⟩;(·cases e);·cases e;rcases d with d|⟨r,z,d⟩;(·omega);·rw[d]at f;simp only[tF,sA]at f;exact q f.2.1.symm);(have c:row=M∨∃g cur t fz,row=O g∧base<=g∧w.heap[g]?=O (tD cur t fz)∧t≠5:=by rcases hrow with h|⟨g,cur,t,fz,m,n,A,B,_⟩;(·exact .inl h);·exact .inr ⟨g,cur,t,fz,m,n,A,B⟩);refine .inr ⟨b,o,rfl,?_,fun i E=>?_⟩;(·rcases d with d|⟨cur,fz,d⟩;(·exact .inl d);·exact .inr ⟨cur,fz,by rw[hg.block b p j];exact d⟩);·obtain⟨u,x,k,y,m,n⟩:=h i E;exact⟨u,x,hg.cell k (by simpa using j),hg.cell y (by simpa using j),m.keptT hg c,n.keptT hg c⟩
theorem QJ.grown{base:Nat}{w w':L}{v:N}{l:PL}(h:QJ base w v l)(hg:Y w w' M):QJ base w' v l:=h.kept hg (.inl rfl)
theorem yH{base:Nat}{w:L}{v:N}{l:PL}(h:QJ base w v l):v.oneCell'=tA:=by
 obtain⟨a,cap,rfl,_⟩:=h;rfl
theorem Yt(base:Nat)(w:L):QJ base w (S M 0 0) []:=⟨M,0,rfl,sC _,.inl ⟨rfl,fun _=>rfl⟩⟩
theorem QJ.shape{base:Nat}{w:L}{v:N}{l:PL}(h:QJ base w v l):∃a cap,v=S a l.length cap:=by
 obtain⟨a,cap,rfl,_⟩:=h;exact⟨a,cap,rfl⟩
theorem QJ.mono{base base':Nat}{w:L}{v:N}{l:PL}(h:QJ base w v l)(hb:base<=base'):QJ base' w v l:=by
 obtain⟨a,cap,rfl,g,h⟩:=h;refine⟨a,cap,rfl,g,?_⟩;rcases h with h|⟨b,o,rfl,c,f⟩;·exact .inl h
 ·refine .inr ⟨b,o,rfl,?_,fun i j=>?_⟩;(·rcases c with c|c;(·exact .inl (by omega));·exact .inr c);·obtain⟨n,p,d,e,k,m⟩:=f i j;exact⟨n,p,d,e,k.mono hb,m.mono hb⟩
theorem Kl.pairsB{rb:Nat}{w:L}{v:N}{l:PL}(h:Kl rb 0 w v l):QJ 0 w v l:=(h.p (tV _)).pairsB
theorem QJ.up{w:L}{v:N}{l:PL}(h:QJ 0 w v l)(base:Nat):QJ base w v l:=h.mono (tV _)
abbrev WV:=Q8×N×N×N
def Bg:WV:=(Qo,sP,sP,sP)
def Y8(us:List WV):List N:=us.flatMap fun x=>[x.2.1,x.2.2.1,tQ x.1.gone,x.2.2.2]
theorem Hm(us:List WV):(Y8 us).length=us.length*4:=by
 induction us with|nil=>rfl|cons x r ih=>simp only[Y8,tR,tG,sL,oC]at ih⊢;omega
theorem uM(a b:List WV):Y8 (a++b)=Y8 a++Y8 b:=by
 simp[Y8]
theorem Ns:∀(us:List WV)(i:Nat),i<us.length->(Y8 us)[i*4]?=O (us.getD i Bg).2.1∧(Y8 us)[i*4+1]?=O (us.getD i Bg).2.2.1∧(Y8 us)[i*4+2]?=O (tQ (us.getD i Bg).1.gone)∧(Y8 us)[i*4+3]?=O (us.getD i Bg).2.2.2|[],i,h=>by simp at h|x::r,0,_=>by simp[Y8]|x::r,i+1,h=>by have:=Ns r i (by simpa using h);rw[show(i+1)*4=i*4+4by omega,show i*4+4+1=(i*4+1)+4by omega,show i*4+4+2=(i*4+2)+4by omega,show i*4+4+3=(i*4+3)+4by omega];simpa[Y8]using this
theorem kZ:(118:Nat)≠5:=by
 decide
theorem Hl{us:List WV}{l:List Q8}(h:us.map (·.1)=l)(i:Nat)(hi:i<l.length):(us.getD i Bg).1=l.getD i Qo∧us.getD i Bg∈us:=by
 subst h;have a:i<us.length:=by simpa using hi
 refine⟨by simp[a],?_⟩;rw[show us.getD i Bg=us[i]by simp[a]];exact sM a
theorem aU:(tC.info? 118).map (fun i=>(i.zero,i.size,i.bytes))=O (O (sW #[S M 0 0,S M 0 0,tQ tB,S M 0 0]),4,80):=by
 kernel_rfl
theorem RG(w:L)(vn vk vv:N)(p:Q8)(h1:Qe w vn p.name)(h2:Qe w vk p.key)(h3:Qe w vv p.value)(t:sB):QO (w.alloc (tD #[vn,vk,tQ p.gone,vv] t)) (S (O ⟨w.heap.size,0,M⟩) 1 1) [p]:=by
 refine⟨_,1,rfl,by simp,.inr ⟨w.heap.size,0,rfl,fun i a=>?_⟩⟩;match i,a with|0,_=>exact⟨vn,vk,vv,by simp,by simp,by simp,by simp,h1.alloc _,h2.alloc _,h3.alloc _⟩
def Od(base:Nat)(w:L)(b o:Nat)(p:Q8):Prop:=∃vn vk vv,w.cell? ⟨b,o,M⟩=O vn∧w.cell? ⟨b,o+1,M⟩=O vk∧w.cell? ⟨b,o+2,M⟩=O (tQ p.gone)∧w.cell? ⟨b,o+3,M⟩=O vv∧Qg base w vn p.name∧Qg base w vk p.key∧Qg base w vv p.value
def Xm(base:Nat)(w:L)(v:N)(l:List Q8):Prop:=∃a cap,v=S a l.length cap∧l.length<=cap∧((l=[]∧(a=M->cap=0))∨∃b o,a=O ⟨b,o,M⟩∧(b<base∨∃cur fz,w.heap[b]?=O (tD cur 118 fz))∧∀i,i<l.length->Od base w b (o+i*4) (l.getD i Qo))
theorem Du(base:Nat)(w:L):Xm base w (S M 0 0) []:=⟨M,0,rfl,sC _,.inl ⟨rfl,fun _=>rfl⟩⟩
theorem Xm.shape{base:Nat}{w:L}{v:N}{l:List Q8}(h:Xm base w v l):∃a cap,v=S a l.length cap:=by
 obtain⟨a,cap,rfl,_⟩:=h;exact⟨a,cap,rfl⟩
theorem Xm.oneCell{base:Nat}{w:L}{v:N}{l:List Q8}(h:Xm base w v l):v.oneCell'=tA:=by
 obtain⟨a,cap,rfl,_⟩:=h;rfl
theorem Xm.list{base:Nat}{w:L}{v:N}{l:List Q8}(h:Xm base w v l):QO w v l:=by
 obtain⟨a,cap,rfl,m,h⟩:=h;refine⟨a,cap,rfl,m,?_⟩;rcases h with h|⟨b,o,rfl,_,h⟩;·exact .inl h
 ·refine .inr ⟨b,o,rfl,fun i n=>?_⟩;obtain⟨q,p,r,c,d,e,f,g,j,k⟩:=h i n;exact⟨q,p,r,c,d,e,f,g.1,j.1,k.1⟩
theorem Xm.kept{base:Nat}{w w':L}{v:N}{l:List Q8}(h:Xm base w v l){row:Option Nat}(hg:Y w w' row)(hrow:row=M∨∃g cur t fz,row=O g∧base<=g∧w.heap[g]?=O (tD cur t fz)∧t≠5∧t≠118):Xm base w' v l:=by
 obtain⟨a,cap,rfl,G,h⟩:=h;refine⟨a,cap,rfl,G,?_⟩;rcases h with h|⟨b,o,rfl,f,h⟩;·exact .inl h
 ·by_cases u:l=[];(·exact .inl ⟨u,fun e=>by cases e⟩);·have I:0<l.length:=rV.2 u;(have q:b<w.heap.size:=by obtain⟨y,x,z,k,_⟩:=h 0 I;exact VC k);(have d:O b≠row:=by intro e;rcases hrow with rfl|⟨g,cur,t,fz,rfl,F,j,J,r⟩;(·cases e);·cases e;rcases f with f|⟨s,D,f⟩;(·omega);·rw[f]at j;simp only[tF,sA]at j;exact r j.2.1.symm);(have c:row=M∨∃g cur t fz,row=O g∧base<=g∧w.heap[g]?=O (tD cur t fz)∧t≠5:=by rcases hrow with h|⟨g,cur,t,fz,m,n,p,E,_⟩;(·exact .inl h);·exact .inr ⟨g,cur,t,fz,m,n,p,E⟩);refine .inr ⟨b,o,rfl,?_,fun i H=>?_⟩;(·rcases f with f|⟨cur,fz,f⟩;(·exact .inl f);·exact .inr ⟨cur,fz,by rw[hg.block b q d];exact f⟩);·obtain⟨y,x,z,k,A,B,C,m,n,p⟩:=h i H;exact⟨y,x,z,hg.cell k (by simpa using d),hg.cell A (by simpa using d),hg.cell B (by simpa using d),hg.cell C (by simpa using d),m.keptT hg c,n.keptT hg c,p.keptT hg c⟩
theorem Xm.grown{base:Nat}{w w':L}{v:N}{l:List Q8}(h:Xm base w v l)(hg:Y w w' M):Xm base w' v l:=h.kept hg (.inl rfl)
def JW(w:L)(v:N)(c:Xo):Prop:=∃vs,v=sW #[tE tH c.turn,vs]∧QO w vs c.writes
theorem JW.grown{w w':L}{v:N}{c:Xo}(h:JW w v c)(hg:Y w w' M):JW w' v c:=by
 obtain⟨a,rfl,h⟩:=h;exact⟨a,rfl,h.grown hg⟩
theorem JW.agg{w:L}{v:N}{c:Xo}(h:JW w v c):∃a cap,v=sW #[tE tH c.turn,S a c.writes.length cap]:=by
 obtain⟨b,rfl,h⟩:=h;obtain⟨a,cap,rfl⟩:=h.shape;exact⟨a,cap,rfl⟩
theorem JW.writes{w:L}{c:Xo}{x y:N}(h:JW w (sW #[x,y]) c):x=tE tH c.turn∧QO w y c.writes:=by
 obtain⟨a,e,h⟩:=h;injection e with e;injection e with e;injection e with e1 e;injection e with e2 e;exact⟨e1,e2▸h⟩
structure Nh(c:Xo):Prop where turn:-9223372036854775808<=c.turn∧c.turn<=9223372036854775807writes:uF c.writes
structure V5 where
  data : List UInt8
  synced : Int
def VL:V5:=⟨[],0⟩
def KO(w:L)(v:N)(t:V5):Prop:=∃vd,v=sW #[vd,tE tH t.synced]∧Qe w vd t.data
theorem KO.grown{w w':L}{v:N}{t:V5}(h:KO w v t)(hg:Y w w' M):KO w' v t:=by
 obtain⟨a,rfl,h⟩:=h;exact⟨a,rfl,h.grown hg⟩
theorem KO.agg{w:L}{v:N}{t:V5}(h:KO w v t):∃a cap,v=sW #[S a t.data.length cap,tE tH t.synced]:=by
 obtain⟨b,rfl,h⟩:=h;obtain⟨a,cap,rfl⟩:=h.shape;exact⟨a,cap,rfl⟩
theorem KO.data{w:L}{t:V5}{x y:N}(h:KO w (sW #[x,y]) t):Qe w x t.data∧y=tE tH t.synced:=by
 obtain⟨a,e,h⟩:=h;injection e with e;injection e with e;injection e with e1 e;injection e with e2 e;exact⟨e1▸h,e2⟩
structure yE(t:V5):Prop where data:t.data.length<=140737488355328synced:-9223372036854775808<=t.synced∧t.synced<=9223372036854775807
def Ys(w:L)(v:N)(t:V5):Prop:=∃vd,v=sW #[vd,tE tH t.synced]∧Qg 0 w vd t.data
theorem Ys.is{w:L}{v:N}{t:V5}(h:Ys w v t):KO w v t:=by
 obtain⟨a,rfl,h⟩:=h;exact⟨a,rfl,h.slice⟩
theorem VX(w:L):Ys w (sW #[S M 0 0,tE tH 0]) VL:=⟨_,rfl,QH w,.inl rfl⟩
def Gx(t:V5):Bool:=tT (t.data.length<=200000)&&tT (0<=t.synced∧t.synced<=(t.data.length:Int))
theorem Kw(t:V5):Gx t=tA↔t.data.length<=200000∧0<=t.synced∧t.synced<=(t.data.length:Int):=by
 unfold Gx;rw[rC,decide_eq_true_iff,decide_eq_true_iff]
def To(c:Xo):List UInt8:=if QU c=0then Zh c else[]
def Rf(t:V5):Int:=if Gx t=tA then 0 else 6
def Ki(t:V5):V5:=if Gx t=tA then⟨t.data,(t.data.length:Int)⟩else VL
def Un(t:V5)(keep:Int):Int:=if Gx t=tA then(if keep<0then 2 else 0)else 6
def Xu(t:V5)(keep:Int):Nat:=if keep<(t.data.length:Int)-t.synced then(t.synced+keep).toNat else t.data.length
def Xq(t:V5)(keep:Int):V5:=if Un t keep=0then⟨t.data.take (Xu t keep),(Xu t keep:Int)⟩else VL
def Va(D:List UInt8->List UInt8)(t:V5)(c:Xo):Int:=if Gx t=tA then(if QU c=0then(if 200000<t.data.length+(ZA D c).length then 11 else 0)else QU c)else 6
def zW(D:List UInt8->List UInt8)(t:V5)(c:Xo):V5:=if Va D t c=0then⟨t.data++ZA D c,t.synced⟩else VL
def Ef(t:V5):Int:=if Gx t=tA then 0 else 6
def yN(D:List UInt8->List UInt8)(t:V5):List Xo:=if Gx t=tA then(Kx D 1 t.data).1 else[]
def xF(D:List UInt8->List UInt8)(t:V5):V5:=if Gx t=tA then⟨t.data.take (Dc D t.data),if t.synced>(Dc D t.data:Int)then(Dc D t.data:Int)else t.synced⟩else VL
theorem yP{D:List UInt8->List UInt8}(hD:∀x,(D x).length=4){c:Xo}(hc:QU c=0):6<=(ZA D c).length∧(ZA D c).length<=600:=by
 have a:=Pt hD c;have b:=U5 hc;omega
theorem Be(D:List UInt8->List UInt8)(cs:List Xo)(i:Nat)(h:i<cs.length):QR D (cs.take (i+1))=QR D (cs.take i)++ZA D (cs.getD i Zj):=by
 rw[sZ h,VB,Pm,show cs[i]=cs.getD i Zj by simp[h]]
theorem fL{D:List UInt8->List UInt8}{t:V5}(hm:Gx t=tA){cs:List Xo}{r:List UInt8}{n:Nat}(h:Kx D 1 t.data=(cs,r))(hn:Dc D t.data=n):Ef t=0∧yN D t=cs∧xF D t=⟨t.data.take n,if t.synced>(n:Int)then(n:Int)else t.synced⟩:=by
 refine⟨by rw[Ef,if_pos hm],by rw[yN,if_pos hm,h],by rw[xF,if_pos hm,hn]⟩
theorem Ot{D:List UInt8->List UInt8}(hD:∀x,(D x).length=4){cs:List Xo}(h:zA 1 cs)(k:Nat)(s:Int)(hk:k<=(QR D cs).length)(hs:0<=s∧s<=(k:Int))(hl:(QR D cs).length<=200000):∃j,j<=cs.length∧(QR D (cs.take j)).length<=k∧(j<cs.length->k<(QR D (cs.take (j+1))).length)∧Ef ⟨(QR D cs).take k,s⟩=0∧yN D ⟨(QR D cs).take k,s⟩=cs.take j∧xF D ⟨(QR D cs).take k,s⟩=⟨QR D (cs.take j),if s>((QR D (cs.take j)).length:Int)then((QR D (cs.take j)).length:Int)else s⟩:=by
 obtain⟨j,i,f,g,o,l⟩:=Cz hD h k;have d:((QR D cs).take k).length=k:=by simp;omega
 have m:Gx ⟨(QR D cs).take k,s⟩=tA:=(Kw _).2 ⟨by show((QR D cs).take k).length<=_;omega,by show 0<=s∧s<=(((QR D cs).take k).length:Int);omega⟩;have n:Dc D ((QR D cs).take k)=(QR D (cs.take j)).length:=by rw[Dc,f,d];show k-(((QR D cs).take k).drop _).length=_;rw[pJ,d];omega
 obtain⟨a,b,c⟩:=fL m f n;refine⟨j,i,g,l,a,b,?_⟩;rw[c];have e:((QR D cs).take k).take (QR D (cs.take j)).length=QR D (cs.take j):=by rw[pL,pA g];(conv=>lhs;rw[<-pC j cs,VB]);rw[show(cs.take j++cs.drop j).take j=cs.take j by rw[pC]];exact List.take_left' rfl
 show(⟨((QR D cs).take k).take _,_⟩:V5)=_;rw[e]
def I6:FL->Nat->List Xo->Int|_,_,[]=>0|f,i,c::cs=>if QU c=0then(if c.turn=((i+1:Nat):Int)then(if QK f c.writes=0then I6 (ZY f c.writes) (i+1) cs else QK f c.writes)else 3)else QU c
def Kj:FL->List Xo->FL|f,[]=>f|f,c::cs=>Kj (ZY f c.writes) cs
theorem zB:∀(a b:List Xo)(f:FL),Kj f (a++b)=Kj (Kj f a) b|[],_,_=>rfl|_::a,b,_=>zB a b _
theorem Re(cs:List Xo)(f:FL)(c:Xo):Kj f (cs++[c])=ZY (Kj f cs) c.writes:=by
 rw[zB];rfl
def V9:FL->Nat->List Xo->Prop|_,_,[]=>True|f,i,c::cs=>QU c=0∧c.turn=((i+1:Nat):Int)∧QK f c.writes=0∧V9 (ZY f c.writes) (i+1) cs
theorem V9.take:∀{cs:List Xo}{f:FL}{i:Nat}(_:V9 f i cs)(j:Nat),V9 f i (cs.take j)|[],_,_,_,j=>by rw[List.take_nil];trivial|_::_,_,_,_,0=>trivial|_::_,_,_,h,j+1=>⟨h.1,h.2.1,h.2.2.1,V9.take h.2.2.2 j⟩
theorem V9.at:∀{cs:List Xo}{f:FL}{i:Nat}(_:V9 f i cs)(j:Nat)(_:j<cs.length),QU (cs.getD j Zj)=0∧(cs.getD j Zj).turn=((i+j+1:Nat):Int)∧QK (Kj f (cs.take j)) (cs.getD j Zj).writes=0|[],_,_,_,j,hj=>by simp at hj|c::cs,f,i,h,0,_=>⟨h.1,h.2.1,h.2.2.1⟩|c::cs,f,i,h,j+1,hj=>by have:=V9.at h.2.2.2 j (by simpa using hj);rw[show i+(j+1)+1=i+1+j+1by omega];simpa[Kj]using this
theorem zQ{l:FL}(h:ZN l)(ws:List Q8):ZN (ZY l ws):=by
 unfold ZY;by_cases a:QK l ws=0;·rw[if_pos a];unfold QK at a;rw[if_pos ((Xi l).2 h)]at a;by_cases b:10<ws.length;(·rw[if_pos b]at a;omega);·rw[if_neg b]at a;exact vF ws l h a
 ·rw[if_neg a];exact UE
theorem Vv:∀(cs:List Xo)(f:FL),ZN f->ZN (Kj f cs)|[],_,h=>h|c::cs,_,h=>Vv cs _ (zQ h c.writes)
def Yv(n t:Int):Bool:=tT (0<=t∧t<=n∧n-t<6)
def TZ(a b:Q8):Prop:=a.name=b.name∧a.key=b.key
def Nf(l:List Q8):Prop:=l.Pairwise fun a b=>¬TZ a b
def XE(a b:Rd):Bool:=a.wide==b.wide&&(tT (a.name=b.name)&&(tT (a.key=b.key)&&tT (a.last=b.last)))
theorem qO(a b:Rd):XE a b=tA↔a=b:=by
 obtain⟨n,k,w,l⟩:=a;obtain⟨i,g,j,h⟩:=b;simp only[XE,rC,decide_eq_true_iff,beq_iff_eq,Rd.mk.injEq];exact⟨fun⟨c,d,e,f⟩=>⟨d,e,c,f⟩,fun⟨c,d,e,f⟩=>⟨e,c,d,f⟩⟩
def ZG(a b:Q8):Bool:=tT (a.name=b.name)&&tT (a.key=b.key)
theorem qZ(a b:Q8):ZG a b=tA↔TZ a b:=by
 simp only[ZG,rC,decide_eq_true_iff];exact Iff.rfl
def G0:List Rd->List Rd->Int|_,[]=>0|p,r::rs=>if Xr r=0then(if p.any (fun q=>XE q r)=tA then 3 else G0 (p++[r]) rs)else Xr r
def xY:List Q8->List Q8->Int|_,[]=>0|p,w::ws=>if Qx w=0then(if p.any (fun q=>ZG q w)=tA then 3 else xY (p++[w]) ws)else Qx w
theorem Tg:∀(rs p:List Rd),G0 p rs=0↔(∀r∈rs,Xr r=0)∧(∀r∈rs,r∉p)∧rs.Nodup|[],p=>by simp[G0]|r::rs,p=>by have m:=Tg rs (p++[r]);rw[G0];by_cases f:Xr r=0;(·rw[if_pos f];by_cases g:p.any (fun q=>XE q r)=tA;(·rw[if_pos g];refine⟨fun h=>by omega,fun h=>?_⟩;obtain⟨q,j,k⟩:=sO.1 g;rw[(qO q r).1 k]at j;exact absurd j (h.2.1 r (sG ..)));·rw[if_neg g,m];have l:r∉p:=fun d=>g (sO.2 ⟨r,d,(qO r r).2 rfl⟩);constructor;(·rintro⟨a,b,c⟩;refine⟨fun x e=>?_,fun x e=>?_,oE.2 ⟨fun d=>b r d (by simp),c⟩⟩;(·rcases tP.1 e with rfl|e;(·exact f);·exact a x e);·rcases tP.1 e with rfl|e;(·exact l);·exact fun d=>b x e (sD.2 (.inl d)));·rintro⟨a,b,c⟩;have i:=oE.1 c;refine⟨fun x e=>a x (tW _ e),fun x e d=>?_,i.2⟩;rcases sD.1 d with d|d;(·exact b x (tW _ e) d);·simp only[tP,tU,or_false]at d;subst d;exact i.1 e);·rw[if_neg f];exact⟨fun h=>absurd h f,fun h=>absurd (h.1 r (sG ..)) f⟩
theorem MU:∀(ws p:List Q8),xY p ws=0↔(∀w∈ws,Qx w=0)∧(∀w∈ws,∀q∈p,¬TZ q w)∧Nf ws|[],p=>by simp[xY,Nf]|w::ws,p=>by have n:=MU ws (p++[w]);rw[xY];by_cases g:Qx w=0;(·rw[if_pos g];by_cases i:p.any (fun q=>ZG q w)=tA;(·rw[if_pos i];refine⟨fun h=>by omega,fun h=>?_⟩;obtain⟨q,j,l⟩:=sO.1 i;exact absurd ((qZ q w).1 l) (h.2.1 w (sG ..) q j));·rw[if_neg i,n];have m:∀q∈p,¬TZ q w:=fun q f e=>i (sO.2 ⟨q,f,(qZ q w).2 e⟩);constructor;(·rintro⟨a,b,c⟩;refine⟨fun x d=>?_,fun x d q j=>?_,rH.2 ⟨fun x d=>b x d w (by simp),c⟩⟩;(·rcases tP.1 d with rfl|d;(·exact g);·exact a x d);·rcases tP.1 d with rfl|d;(·exact m q j);·exact b x d q (sD.2 (.inl j)));·rintro⟨a,b,c⟩;have k:=rH.1 c;refine⟨fun x d=>a x (tW _ d),fun x d q f=>?_,k.2⟩;rcases sD.1 f with f|f;(·exact b x (tW _ d) q f);·simp only[tP,tU,or_false]at f;subst f;exact k.1 x d);·rw[if_neg g];exact⟨fun h=>absurd h g,fun h=>absurd (h.1 w (sG ..)) g⟩
structure Tx where
  start : Int
  reads : List Rd
  writes : List Q8
def Fr:Tx:=⟨0,[],[]⟩
def Ga(t:Tx):Int:=if 0<=t.start∧t.start<=1048576then(if 20<t.reads.length∨10<t.writes.length then 1 else(if G0 [] t.reads=0then xY [] t.writes else G0 [] t.reads))else 2
structure qK (t : Tx) : Prop where
  start : 0 <= t.start ∧ t.start <= 1048576
  reads : t.reads.length <= 20
  writes : t.writes.length <= 10
  each : ∀ r ∈ t.reads, Xr r = 0
  once : t.reads.Nodup
  wrs : ∀ w ∈ t.writes, Qx w = 0
  apart : Nf t.writes
theorem zI(t:Tx):Ga t=0↔qK t:=by
 unfold Ga;by_cases c:0<=t.start∧t.start<=1048576;·rw[if_pos c];by_cases e:20<t.reads.length∨10<t.writes.length;(·rw[if_pos e];exact⟨fun h=>by omega,fun h=>by have:=h.reads;have:=h.writes;omega⟩);·rw[if_neg e];by_cases a:G0 [] t.reads=0;(·rw[if_pos a,MU];have b:=(Tg _ _).1 a;exact⟨fun h=>⟨c,by omega,by omega,b.1,b.2.2,h.1,h.2.2⟩,fun h=>⟨h.wrs,fun _ _ _ d=>by simp at d,h.apart⟩⟩);·rw[if_neg a];exact⟨fun h=>absurd h a,fun h=>absurd ((Tg _ _).2 ⟨h.each,fun _ _ d=>by simp at d,h.once⟩) a⟩
 ·rw[if_neg c];exact⟨fun h=>by omega,fun h=>absurd h.start c⟩
def Ee(t:Tx)(r:Rd):Bool:=t.reads.any (fun q=>XE q r)
theorem Dv(t:Tx)(r:Rd):Ee t r=tA↔r∈t.reads:=by
 unfold Ee;rw[sO];exact⟨fun⟨q,a,e⟩=>(qO q r).1 e▸a,fun h=>⟨r,h,(qO r r).2 rfl⟩⟩
def Xa(t:Tx)(r:Rd):Int:=if Ga t=0then(if Xr r=0then(if Ee t r=tA then 0 else(if t.reads.length=20then 11 else 0))else Xr r)else Ga t
def XI(t:Tx)(r:Rd):Tx:=if Xa t r=0then(if Ee t r=tA then t else⟨t.start,t.reads++[r],t.writes⟩)else Fr
theorem Lw{t:Tx}(h:qK t){r:Rd}(hr:Xr r=0):Xa t r=if Ee t r=tA then 0 else(if t.reads.length=20then 11 else 0):=by
 rw[Xa,if_pos ((zI t).2 h),if_pos hr]
theorem dH{t:Tx}(h:qK t){r:Rd}(hr:Xr r=0)(he:Xa t r=0):qK (XI t r):=by
 rw[XI,if_pos he];by_cases d:Ee t r=tA;·rw[if_pos d];exact h
 ·rw[if_neg d];rw[Lw h hr,if_neg d]at he;have j:r∉t.reads:=fun e=>d ((Dv t r).2 e);(have g:t.reads.length≠20:=fun e=>by rw[if_pos e]at he;omega);refine⟨h.start,?_,h.writes,fun x c=>?_,?_,h.wrs,h.apart⟩;(·have:=h.reads;simp;omega);(·rcases sD.1 c with c|c;(·exact h.each x c);·simp only[tP,tU,or_false]at c;rw[c];exact hr);·rw[pV];refine⟨h.once,by simp,fun a i b f e=>?_⟩;simp only[tP,tU,or_false]at f;subst f;subst e;exact j i
def Fp(l:List Q8)(w:Q8):Bool:=l.any (fun q=>ZG q w)
def GQ:List Q8->Q8->List Q8|[],w=>[w]|a::l,w=>if ZG a w=tA then w::l else a::GQ l w
def ZP(t:Tx)(w:Q8):Int:=if Ga t=0then(if Qx w=0then(if Fp t.writes w=tA then 0 else(if t.writes.length=10then 11 else 0))else Qx w)else Ga t
def Ye(t:Tx)(w:Q8):Tx:=if ZP t w=0then⟨t.start,t.reads,GQ t.writes w⟩else Fr
theorem Do:∀(l:List Q8)(w:Q8),(GQ l w).length=if Fp l w=tA then l.length else l.length+1|[],w=>rfl|a::l,w=>by rw[GQ,Fp,pG];by_cases h:ZG a w=tA;(·rw[if_pos h,h];rfl);·rw[if_neg h,sL,Do l w];(have c:ZG a w=tB:=by simpa using h);rw[c,Bool.false_or];show _=if Fp l w=tA then _ else _;by_cases b:Fp l w=tA;(·rw[if_pos b,if_pos b];rfl);·rw[if_neg b,if_neg b];rfl
theorem Tr:∀(l:List Q8)(w x:Q8),x∈GQ l w->x=w∨x∈l|[],w,x,h=>by simpa[GQ]using h|a::l,w,x,h=>by rw[GQ]at h;by_cases b:ZG a w=tA;(·rw[if_pos b]at h;rcases tP.1 h with h|h;(·exact .inl h);·exact .inr (tW _ h));·rw[if_neg b]at h;rcases tP.1 h with h|h;(·exact .inr (by rw[h];exact sG ..));·exact(Tr l w x h).elim .inl fun h=>.inr (tW _ h)
theorem Dq{a b c:Q8}(h:TZ a b)(k:TZ b c):TZ a c:=⟨h.1.trans k.1,h.2.trans k.2⟩
theorem Tc:∀(l:List Q8)(w:Q8),Nf l->Nf (GQ l w)|[],w,_=>List.pairwise_singleton ..|a::l,w,h=>by have c:=rH.1 h;rw[GQ];by_cases d:ZG a w=tA;(·rw[if_pos d];exact rH.2 ⟨fun x b e=>c.1 x b (Dq ((qZ a w).1 d) e),c.2⟩);·rw[if_neg d];refine rH.2 ⟨fun x b e=>?_,Tc l w c.2⟩;rcases Tr l w x b with rfl|b;(·exact d ((qZ _ _).2 e));·exact c.1 x b e
theorem Ol{t:Tx}(h:qK t){w:Q8}(hw:Qx w=0):ZP t w=if Fp t.writes w=tA then 0 else(if t.writes.length=10then 11 else 0):=by
 rw[ZP,if_pos ((zI t).2 h),if_pos hw]
theorem aX{t:Tx}(h:qK t){w:Q8}(hw:Qx w=0)(he:ZP t w=0):qK (Ye t w):=by
 rw[Ye,if_pos he];rw[Ol h hw]at he;refine⟨h.start,h.reads,?_,h.each,h.once,fun x a=>?_,Tc _ _ h.apart⟩;·show(GQ t.writes w).length<=10;rw[Do];have:=h.writes;by_cases b:Fp t.writes w=tA;(·rw[if_pos b];exact this);·rw[if_neg b]at he⊢;(have c:t.writes.length≠10:=fun e=>by rw[if_pos e]at he;omega);omega
 ·rcases Tr _ _ _ a with rfl|a;(·exact hw);·exact h.wrs x a
def fM(l:List Q8)(n k:List UInt8):Option Q8:=l.find? fun q=>tT (q.name=n)&&tT (q.key=k)
theorem I9{l:List Q8}{n k:List UInt8}{w:Q8}(h:fM l n k=O w):w∈l∧w.name=n∧w.key=k:=by
 refine⟨List.mem_of_find?_eq_some h,?_⟩;have:=List.find?_some h;simpa using this
def iD(a b k:List UInt8):Bool:=!YE k a&&!YE b k
def KR(n a b:List UInt8)(l:PL)(w:Q8):PL:=if w.name=n∧iD a b w.key=tA then(if w.gone=tA then zX l w.key else JB l (w.key,w.value))else l
def A9(n a b:List UInt8):PL->List Q8->PL|l,[]=>l|l,w::ws=>A9 n a b (KR n a b l w) ws
def kW(n a b:List UInt8):PL->List Q8->Int|_,[]=>0|l,w::ws=>if 60<(KR n a b l w).length then 11 else kW n a b (KR n a b l w) ws
theorem Ab{f:FL}{w:Q8}{ws:List Q8}(he:ZK f (w::ws)=0):Qx w=0∧XJ f w=0∧ZK (Ze f w) ws=0:=by
 rw[ZK]at he;have b:Qx w=0:=by by_cases e:Qx w=0;(·exact e);·rw[if_neg e]at he;exact absurd he e
 rw[if_pos b]at he;have a:XJ f w=0:=by by_cases e:XJ f w=0;(·exact e);·rw[if_neg e]at he;exact absurd he e
 rw[if_pos a]at he;exact⟨b,a,he⟩
def Xh(r:Rd)(w:Q8):Bool:=tT (r.name=w.name)&&(if r.wide=tA then iD r.key r.last w.key else tT (r.key=w.key))
def Cg(t:Tx)(ws:List Q8):Bool:=ws.any fun w=>t.reads.any fun r=>Xh r w
def TQ(t:Tx)(l:List Xo):Bool:=l.any fun c=>tT (t.start<c.turn)&&Cg t c.writes
def Th(t:Tx):Int:=Ga t
def Jz(t:Tx)(l:List Xo):Bool:=if Ga t=0then TQ t l else tB
theorem Wy{t:Tx}{ws:List Q8}(h:Cg t ws=tB){r:Rd}(hr:r∈t.reads){w:Q8}(hw:w∈ws):Xh r w=tB:=by
 cases e:Xh r w with|false=>rfl|true=>have:Cg t ws=tA:=sO.2 ⟨w,hw,sO.2 ⟨r,hr,e⟩⟩;rw[this]at h;cases h
theorem jP:∀(ws:List Q8)(f:FL),ZN f->ZK f ws=0->∀(r:Rd),r.wide=tB->(∀w∈ws,Xh r w=tB)->Uy (Yi (YI f ws) r.name) r.key=Uy (Yi f r.name) r.key|[],_,_,_,_,_,_=>rfl|w::ws,f,h,he,r,hw0,ht=>by obtain⟨d,c,b⟩:=Ab he;rw[YI,jP ws _ (V2 h d c) b r hw0 (fun x g=>ht x (tW _ g)),Cq h];have a:=ht w (sG ..);unfold Xh at a;rw[hw0,if_neg (by decide)]at a;rw[if_neg (fun e=>by rw[e.1,e.2]at a;simp at a)]
theorem Bd{f:FL}(h:ZN f){ws:List Q8}(he:QK f ws=0):ZK f ws=0∧ZY f ws=YI f ws:=by
 unfold QK at he;rw[if_pos ((Xi f).2 h)]at he;by_cases a:10<ws.length;·rw[if_pos a]at he;omega
 ·rw[if_neg a]at he;exact⟨he,by rw[ZY,QK,if_pos ((Xi f).2 h),if_neg a,if_pos he]⟩
theorem Ca:∀(cs:List Xo)(f:FL)(i:Nat),ZN f->V9 f i cs->∀(r:Rd),r.wide=tB->(∀c∈cs,∀w∈c.writes,Xh r w=tB)->Uy (Yi (Kj f cs) r.name) r.key=Uy (Yi f r.name) r.key|[],_,_,_,_,_,_,_=>rfl|c::cs,f,i,h,hg,r,hw0,ht=>by obtain⟨a,b⟩:=Bd h hg.2.2.1;rw[Kj,Ca cs _ (i+1) (zQ h c.writes) hg.2.2.2 r hw0 (fun x d=>ht x (tW _ d)),b];exact jP _ _ h a r hw0 (ht c (sG ..))
theorem V9.drop:∀{cs:List Xo}{f:FL}{i:Nat}(_:V9 f i cs)(j:Nat),V9 (Kj f (cs.take j)) (i+j) (cs.drop j)|_,_,_,h,0=>h|[],_,_,_,j+1=>by simp[V9]|c::cs,f,i,h,j+1=>by have:=V9.drop h.2.2.2 j;rw[show i+(j+1)=i+1+j by omega];exact this
theorem bC{t:Tx}{cs:List Xo}(hg:V9 [] 0 cs){k:Nat}(hk:t.start=(k:Int))(h:TQ t cs=tB){r:Rd}(hr:r∈t.reads):∀c∈cs.drop k,∀w∈c.writes,Xh r w=tB:=by
 intro c f w d;obtain⟨j,i,rfl⟩:=pT f;rw[pJ]at i;rw[List.getElem_drop]at d;have a:cs[k+j]∈cs:=sM _;have b:=(hg.at (k+j) (by omega)).2.1;rw[show cs.getD (k+j) Zj=cs[k+j]by simp[show k+j<cs.length by omega]]at b;have g:Cg t (cs[k+j]).writes=tB:=by cases e:Cg t (cs[k+j]).writes with|false=>rfl|true=>have:TQ t cs=tA:=sO.2 ⟨_,a,by rw[rC];exact⟨decide_eq_true (by rw[hk,b];omega),e⟩⟩;rw[this]at h;cases h
 exact Wy g hr d
theorem Ic{t:Tx}{cs:List Xo}(hg:V9 [] 0 cs){k:Nat}(hk:t.start=(k:Int))(h:TQ t cs=tB){r:Rd}(hr:r∈t.reads)(hw:r.wide=tB):Uy (Yi (Kj [] cs) r.name) r.key=Uy (Yi (Kj [] (cs.take k)) r.name) r.key:=by
 have a:=hg.drop k;have:=Ca _ _ _ (Vv (cs.take k) [] UE) a r hw (bC hg hk h hr);rw[<-zB,pC]at this;exact this
def z8(l:FL)(t:Tx):Int:=if Q4 l=0then Ga t else Q4 l
def Kh(l:FL)(t:Tx)(n k:List UInt8):Int:=if z8 l t=0then(if Qs n.length=0then Qn k.length else Qs n.length)else z8 l t
def KX(l:FL)(t:Tx)(n k:List UInt8):Bool:=if Kh l t n k=0then(fM t.writes n k).isSome else tB
def K8(l:FL)(t:Tx)(n k:List UInt8):Bool:=if Kh l t n k=0then(match fM t.writes n k with|O w=>!w.gone|none=>Uo l n k)else tB
def KS(l:FL)(t:Tx)(n k:List UInt8):List UInt8:=if Kh l t n k=0then(match fM t.writes n k with|O w=>w.value|none=>Ut l n k)else[]
theorem NJ{l:FL}{t:Tx}(hl:ZN l)(ht:qK t){n k:List UInt8}(hn:1<=n.length∧n.length<=8)(hk:1<=k.length∧k.length<=16):Kh l t n k=0:=by
 rw[Kh,z8,if_pos ((Xi l).2 hl),if_pos ((zI t).2 ht),if_pos ((Zl _).2 hn),(Zs _).2 hk]
def JP(l:FL)(t:Tx)(n a b:List UInt8):Int:=if z8 l t=0then(if Qs n.length=0then(if Qn a.length=0then(if Qn b.length=0then kW n a b (Ve (Yi l n) a b) t.writes else Qn b.length)else Qn a.length)else Qs n.length)else z8 l t
def VY(l:FL)(t:Tx)(n a b:List UInt8):PL:=if JP l t n a b=0then A9 n a b (Ve (Yi l n) a b) t.writes else[]
structure Rp where
  sess : Int
  code : Int
  turn : Int
  found : Bool
  value : List UInt8
  pairs : PL
  pf : Option (FL × List UInt8 × List UInt8)
def Uw(s:Nat)(e:Int):Rp:=⟨(s:Int),e,0,tB,[],[],M⟩
def Au(s:Nat)(t:Int):Rp:=⟨(s:Int),0,t,tB,[],[],M⟩
structure Sv where
  up : Bool
  tape : V5
  commits : List Xo
  synced : Nat
  begun : Nat -> Bool
  waits : Nat -> Bool
  txns : Nat -> Tx
  queue : List Nat
  out : List Rp
def Ko{α:Type}(f:Nat->α)(i:Nat)(x:α):Nat->α:=fun j=>if j=i then x else f j
theorem Zv{α:Type}(f:Nat->α)(i:Nat)(x:α):Ko f i x i=x:=by
 simp[Ko]
theorem Zk{α:Type}(f:Nat->α){i j:Nat}(x:α)(h:j≠i):Ko f i x j=f j:=by
 simp[Ko,h]
def V8(up:Bool)(t:V5)(cs:List Xo)(o:List Rp):Sv:=⟨up,t,cs,cs.length,fun _=>tB,fun _=>tB,fun _=>Fr,[],o⟩
def Am:Sv:=V8 tA VL [] []
def Zq(v:Sv)(r:Rp):Sv:={v with out:=v.out++[r]}
def Qv(v:Sv)(n:Nat):FL:=Kj [] (v.commits.take n)
def KV(v:Sv)(s:Nat)(x:Rd)(o:Rp):Sv:=if Xa (v.txns s) x=0then Zq {v with txns:=Ko v.txns s (XI (v.txns s) x)} o else Zq v (Uw s (Xa (v.txns s) x))
def GH(v:Sv)(s:Nat)(w:Q8):Sv:=Zq (if ZP (v.txns s) w=0then{v with txns:=Ko v.txns s (Ye (v.txns s) w)}else v) (Uw s (ZP (v.txns s) w))
def RY(v:Sv)(s:Nat)(r:Rq):Sv:=if KX (Qv v (v.txns s).start.toNat) (v.txns s) r.name r.key=tA then Zq v ⟨(s:Int),0,(v.txns s).start,K8 (Qv v (v.txns s).start.toNat) (v.txns s) r.name r.key,KS (Qv v (v.txns s).start.toNat) (v.txns s) r.name r.key,[],M⟩else KV v s (Q9 r) ⟨(s:Int),0,(v.txns s).start,K8 (Qv v (v.txns s).start.toNat) (v.txns s) r.name r.key,KS (Qv v (v.txns s).start.toNat) (v.txns s) r.name r.key,[],M⟩
def vJ(v:Sv)(s:Nat)(r:Rq):Sv:=if JP (Qv v (v.txns s).start.toNat) (v.txns s) r.name r.key r.last=0then KV v s (Q9 r) ⟨(s:Int),0,(v.txns s).start,tB,[],VY (Qv v (v.txns s).start.toNat) (v.txns s) r.name r.key r.last,M⟩else Zq v (Uw s (JP (Qv v (v.txns s).start.toNat) (v.txns s) r.name r.key r.last))
def VU(v:Sv)(s:Nat)(r:Rq):Sv:=if r.kind=4∨r.kind=5then GH v s (ZW r)else if r.kind=2then RY v s r else vJ v s r
def YV(v:Sv)(s:Nat):Xo:=⟨((v.commits.length+1:Nat):Int),(v.txns s).writes⟩
def Xk(v:Sv)(s:Nat):Sv:={v with begun:=Ko v.begun s tB}
def Ja(D:List UInt8->List UInt8)(v:Sv)(s:Nat):Sv:=if(v.txns s).writes.length=0then Zq (Xk v s) (Au s (v.txns s).start)else if v.queue.length=6∨v.commits.length=300then Zq v (Uw s 11)else if Jz (v.txns s) v.commits=tA then Zq (Xk v s) (Uw s 9)else if QK (Qv v v.commits.length) (v.txns s).writes≠0then Zq (Xk v s) (Uw s (QK (Qv v v.commits.length) (v.txns s).writes))else if Va D v.tape (YV v s)≠0then Zq (Xk v s) (Uw s (Va D v.tape (YV v s)))else{Xk v s with tape:=zW D v.tape (YV v s),commits:=v.commits++[YV v s],queue:=v.queue++[s],waits:=Ko v.waits s tA}
def E7(v:Sv)(s:Nat)(r:Rq):Sv:=Zq v ⟨(s:Int),0,(v.synced:Int),Uo (Qv v v.synced) r.name r.key,Ut (Qv v v.synced) r.name r.key,[],O (Qv v v.synced,r.name,r.key)⟩
def Zb(v:Sv)(s:Nat)(r:Rq):Bool:=v.waits s||(if r.kind=1then v.begun s else !v.begun s)
def Vu(D:List UInt8->List UInt8)(v:Sv)(s:Nat)(r:Rq):Sv:=if r.kind=8then E7 v s r else if Zb v s r=tA then Zq v (Uw s 6)else if r.kind=1then Zq {v with begun:=Ko v.begun s tA,txns:=Ko v.txns s ⟨(v.synced:Int),[],[]⟩} (Au s (v.synced:Int))else if r.kind=7then Zq (Xk v s) (Uw s 0)else if Yv (v.synced:Int) (v.txns s).start=tB then Zq (Xk v s) (Uw s 10)else if r.kind=6then Ja D v s else VU v s r
def Ue(D:List UInt8->List UInt8)(v:Sv)(s:Nat)(data:List UInt8):Sv:=if v.up=tB then Zq v (Uw s 13)else if Xx data=0then Vu D v s (JF data)else Zq v (Uw s (Xx data))
def Vl:Nat->List Nat->List Rp|_,[]=>[]|n,s::q=>Au s ((n+1:Nat):Int)::Vl (n+1) q
def UG(f:Nat->Bool)(q:List Nat):Nat->Bool:=fun j=>if j∈q then tB else f j
def Vh(v:Sv):Sv:={v with tape:=Ki v.tape,synced:=v.synced+v.queue.length,waits:=UG v.waits v.queue,queue:=[],out:=v.out++Vl v.synced v.queue}
def Uu(D:List UInt8->List UInt8)(v:Sv)(k:Int):Sv:=V8 tB (xF D (Xq v.tape k)) (yN D (Xq v.tape k)) v.out
def ZS(D:List UInt8->List UInt8)(v:Sv)(a:Ac):Sv:=if a.kind=1then Ue D v a.sess.toNat a.data else if a.kind=2then(if v.up=tA then Vh v else v)else if a.kind=3then(if v.up=tA then Uu D v a.keep else v)else{v with up:=tA}
def Y5(D:List UInt8->List UInt8)(l:List Ac):Sv:=l.foldl (ZS D) Am
theorem VE(D:List UInt8->List UInt8)(l:List Ac)(a:Ac):Y5 D (l++[a])=ZS D (Y5 D l) a:=by
 simp[Y5]
theorem PZ(D:List UInt8->List UInt8)(l k:List Ac):Y5 D (l++k)=k.foldl (ZS D) (Y5 D l):=by
 simp[Y5]
def qE(l:List Ac):Int:=Gf l
structure Oc where
  up : Bool
  turn : Int
  pending : Int
  forest : FL
  replies : List Rp
def Rs(v:Sv):Oc:=⟨v.up,(v.synced:Int),(v.queue.length:Int),Qv v v.synced,v.out⟩
def Ww:Oc:=⟨tB,0,0,[],[]⟩
def xW(D:List UInt8->List UInt8)(l:List Ac):Oc:=if qE l=0then Rs (Y5 D l)else Ww
section
theorem EG:∀{cs:List Xo}{f:FL}{i:Nat},V9 f i cs->zA (i+1) cs|[],_,_,_=>trivial|_::_,_,_,h=>⟨by rw[h.2.1],h.1,EG h.2.2.2⟩
theorem Nb:∀{cs:List Xo}{f:FL}{i:Nat}{c:Xo},V9 f i cs->QU c=0->c.turn=((i+cs.length+1:Nat):Int)->QK (Kj f cs) c.writes=0->V9 f i (cs++[c])|[],_,_,_,_,h1,h2,h3=>⟨h1,by rw[h2];rfl,h3,trivial⟩|d::cs,f,i,c,h,h1,h2,h3=>⟨h.1,h.2.1,h.2.2.1,Nb h.2.2.2 h1 (by rw[h2,sL];congr 1;omega) h3⟩
structure Zz (D : List UInt8 -> List UInt8) (v : Sv) : Prop where
  goes : V9 [] 0 v.commits
  many : v.commits.length <= 300
  data : v.tape.data = QR D v.commits
  mark : v.tape.synced = ((QR D (v.commits.take v.synced)).length : Int)
  room : v.tape.data.length <= 200000
  turn : v.synced + v.queue.length = v.commits.length
  few : v.queue.length <= 6
  wait : ∀ s, v.waits s = tA ↔ s ∈ v.queue
  once : v.queue.Nodup
  tx : ∀ s, v.begun s = tA -> qK (v.txns s) ∧ (v.txns s).start <= (v.synced : Int)
  idle : ∀ s, v.waits s = tA -> v.begun s = tB
  down : v.up = tB -> v.queue = [] ∧ ∀ s, v.begun s = tB
variable{D:List UInt8->List UInt8}{v:Sv}
theorem Zz.tell(h:Zz D v)(r:Rp):Zz D (Zq v r):=⟨h.goes,h.many,h.data,h.mark,h.room,h.turn,h.few,h.wait,h.once,h.tx,h.idle,h.down⟩
theorem EB{f:Nat->Bool}{s j:Nat}(h:Ko f s tB j=tA):j≠s∧f j=tA:=by
 by_cases e:j=s;·rw[e,Zv]at h;cases h
 ·exact⟨e,by rwa[Zk f _ e]at h⟩
theorem Zz.end(h:Zz D v)(s:Nat):Zz D (Xk v s):=by
 refine⟨h.goes,h.many,h.data,h.mark,h.room,h.turn,h.few,h.wait,h.once,fun j a=>h.tx j (EB a).2,fun j a=>?_,fun b=>⟨(h.down b).1,fun j=>?_⟩⟩;·show Ko v.begun s tB j=tB;by_cases e:j=s;(·rw[e,Zv]);·rw[Zk _ _ e];exact h.idle j a
 ·show Ko v.begun s tB j=tB;by_cases e:j=s;(·rw[e,Zv]);·rw[Zk _ _ e];exact(h.down b).2 j
theorem Zz.txn(h:Zz D v){s:Nat}{t:Tx}(ht:qK t)(hs:t.start<=(v.synced:Int)):Zz D {v with txns:=Ko v.txns s t}:=by
 refine⟨h.goes,h.many,h.data,h.mark,h.room,h.turn,h.few,h.wait,h.once,fun j a=>?_,h.idle,h.down⟩;show qK (Ko v.txns s t j)∧(Ko v.txns s t j).start<=_;by_cases e:j=s;·rw[e,Zv];exact⟨ht,hs⟩
 ·rw[Zk _ _ e];exact h.tx j a
theorem Zz.may(h:Zz D v):Gx v.tape=tA:=by
 refine(Kw _).2 ⟨h.room,?_⟩;rw[h.mark,h.data];have:=UY D v.commits v.synced v.commits.length (by have:=h.turn;omega);rw[sH]at this;omega
theorem kV{t:Tx}{r:Rd}(h:Xa t r=0):(XI t r).start=t.start:=by
 rw[XI,if_pos h];split<;>rfl
theorem DZ{t:Tx}{w:Q8}(h:ZP t w=0):(Ye t w).start=t.start:=by
 rw[Ye,if_pos h]
theorem Zz.note(h:Zz D v){s:Nat}(hb:v.begun s=tA){x:Rd}(hx:Xr x=0)(o:Rp):Zz D (KV v s x o):=by
 obtain⟨a,b⟩:=h.tx s hb;unfold KV;by_cases e:Xa (v.txns s) x=0;·rw[if_pos e];exact(h.txn (dH a hx e) (by rw[kV e];exact b)).tell _
 ·rw[if_neg e];exact h.tell _
theorem Zz.write(h:Zz D v){s:Nat}(hb:v.begun s=tA){w:Q8}(hw:Qx w=0):Zz D (GH v s w):=by
 obtain⟨a,b⟩:=h.tx s hb;unfold GH;by_cases e:ZP (v.txns s) w=0;·rw[if_pos e];exact(h.txn (aX a hw e) (by rw[DZ e];exact b)).tell _
 ·rw[if_neg e];exact h.tell _
theorem z9{r:Rq}(h:JI r)(hk:r.kind=2∨r.kind=3):Xr (Q9 r)=0:=OY (by
 rw[(EF h).1,if_pos hk])
theorem EO{r:Rq}(h:JI r)(hk:r.kind=4∨r.kind=5):Qx (ZW r)=0:=Ey (by
 rw[(EF h).2,if_pos hk])
theorem Zz.work(h:Zz D v){s:Nat}(hb:v.begun s=tA){r:Rq}(hr:JI r)(hk:2<=r.kind∧r.kind<=5):Zz D (VU v s r):=by
 unfold VU;by_cases a:r.kind=4∨r.kind=5;·rw[if_pos a];exact h.write hb (EO hr a)
 ·rw[if_neg a];by_cases b:r.kind=2;(·rw[if_pos b];unfold RY;split;(·exact h.tell _);·exact h.note hb (z9 hr (.inl b)) _);·rw[if_neg b];unfold vJ;split;(·exact h.note hb (z9 hr (.inr (by omega))) _);·exact h.tell _
theorem Ff{t:Tx}(ht:qK t)(hw:¬t.writes.length=0)(n:Nat)(hn:n<=300):QU ⟨((n+1:Nat):Int),t.writes⟩=0:=(KM _).2 ⟨by
 show(1:Int)<=((n+1:Nat):Int)∧((n+1:Nat):Int)<=1048576;omega,⟨by
 show 1<=t.writes.length;omega,ht.writes⟩,ht.wrs⟩
theorem Cx(h:Zz D v){s:Nat}(hb:v.begun s=tA)(h1:¬(v.txns s).writes.length=0)(h2:¬(v.queue.length=6∨v.commits.length=300))(h4:QK (Qv v v.commits.length) (v.txns s).writes=0)(h5:Va D v.tape (YV v s)=0):Zz D {Xk v s with tape:=zW D v.tape (YV v s),commits:=v.commits++[YV v s],queue:=v.queue++[s],waits:=Ko v.waits s tA}:=by
 obtain⟨r,q⟩:=h.tx s hb;have p:=h.many;have m:QU (YV v s)=0:=Ff r h1 _ p;have d:=h.may;have c:v.tape.data.length+(ZA D (YV v s)).length<=200000:=by rw[Va,if_pos d,if_pos m]at h5;by_cases e:200000<v.tape.data.length+(ZA D (YV v s)).length;(·rw[if_pos e]at h5;exact absurd h5 (by decide));·omega
 have n:zW D v.tape (YV v s)=⟨v.tape.data++ZA D (YV v s),v.tape.synced⟩:=by rw[zW,if_pos h5]
 have i:v.waits s≠tA:=fun e=>by have:=h.idle s e;rw[hb]at this;cases this
 have g:s∉v.queue:=fun e=>i ((h.wait s).2 e);have l:v.up=tA:=by cases k:v.up with|true=>rfl|false=>have:=(h.down k).2 s;rw[hb]at this;cases this
 have t:=h.turn;rw[n];refine⟨?_,?_,?_,?_,?_,?_,?_,?_,?_,?_,?_,?_⟩;·refine Nb h.goes m (by show((v.commits.length+1:Nat):Int)=_;congr 1;omega) ?_;rw[Qv,sH]at h4;exact h4
 ·show(v.commits++[YV v s]).length<=300;rw[tG,sE];omega
 ·show v.tape.data++ZA D (YV v s)=QR D (v.commits++[YV v s]);rw[VB,Pm,h.data]
 ·show v.tape.synced=((QR D ((v.commits++[YV v s]).take v.synced)).length:Int);rw[List.take_append_of_le_length (by omega)];exact h.mark
 ·show(v.tape.data++ZA D (YV v s)).length<=200000;rw[tG];exact c
 ·show v.synced+(v.queue++[s]).length=(v.commits++[YV v s]).length;rw[tG,tG,sE,sE];omega
 ·show(v.queue++[s]).length<=6;have:=h.few;rw[tG,sE];omega
 ·intro j;show Ko v.waits s tA j=tA↔j∈v.queue++[s];by_cases e:j=s;(·rw[e,Zv];simp);·rw[Zk _ _ e,h.wait j];simp[e]
 ·show(v.queue++[s]).Nodup;rw[pV];exact⟨h.once,by simp,fun a o b hb e=>g (by simp at hb;rw[<-hb,<-e];exact o)⟩
 ·intro j f;exact h.tx j (EB f).2
 ·intro j f;show Ko v.begun s tB j=tB;by_cases e:j=s;(·rw[e,Zv]);·rw[Zk _ _ e];exact h.idle j (by have:Ko v.waits s tA j=tA:=f;rwa[Zk _ _ e]at this)
 ·intro k;have:v.up=tB:=k;rw[l]at this;cases this
theorem Zz.commit(h:Zz D v){s:Nat}(hb:v.begun s=tA):Zz D (Ja D v s):=by
 unfold Ja;by_cases a:(v.txns s).writes.length=0;·rw[if_pos a];exact(h.end s).tell _
 ·rw[if_neg a];by_cases b:v.queue.length=6∨v.commits.length=300;(·rw[if_pos b];exact h.tell _);·rw[if_neg b];by_cases e:Jz (v.txns s) v.commits=tA;(·rw[if_pos e];exact(h.end s).tell _);·rw[if_neg e];by_cases c:QK (Qv v v.commits.length) (v.txns s).writes≠0;(·rw[if_pos c];exact(h.end s).tell _);·rw[if_neg c];by_cases d:Va D v.tape (YV v s)≠0;(·rw[if_pos d];exact(h.end s).tell _);·rw[if_neg d];exact Cx h hb a b (sV c) (sV d)
theorem Zz.req(h:Zz D v)(hup:v.up=tA)(s:Nat){r:Rq}(hr:JI r):Zz D (Vu D v s r):=by
 unfold Vu;by_cases g:r.kind=8;·rw[if_pos g];exact h.tell _
 ·rw[if_neg g];by_cases a:Zb v s r=tA;(·rw[if_pos a];exact h.tell _);·rw[if_neg a];(have c:v.waits s=tB∧(if r.kind=1then v.begun s else !v.begun s)=tB:=by unfold Zb at a;cases hw:v.waits s;(·rw[hw]at a;exact⟨rfl,by simpa using a⟩);·rw[hw]at a;exact absurd rfl a);by_cases d:r.kind=1;(·rw[if_pos d];refine Zz.tell ?_ _;have q:=h.many;have n:=h.turn;refine⟨h.goes,h.many,h.data,h.mark,h.room,h.turn,h.few,h.wait,h.once,fun j f=>?_,fun j f=>?_,fun o=>?_⟩;(·show qK (Ko v.txns s _ j)∧(Ko v.txns s _ j).start<=_;by_cases e:j=s;(·rw[e,Zv];exact⟨⟨by show(0:Int)<=(v.synced:Int)∧(v.synced:Int)<=1048576;omega,by simp,by simp,by simp,by simp,by simp,by simp[Nf]⟩,Int.le_refl _⟩);·rw[Zk _ _ e];exact h.tx j (by have:Ko v.begun s tA j=tA:=f;rwa[Zk _ _ e]at this));(·show Ko v.begun s tA j=tB;have b:v.waits j=tA:=f;by_cases e:j=s;(·rw[e,c.1]at b;cases b);·rw[Zk _ _ e];exact h.idle j b);·have:v.up=tB:=o;rw[hup]at this;cases this);·rw[if_neg d];(have m:v.begun s=tA:=by have:=c.2;rw[if_neg d]at this;simpa using this);by_cases i:r.kind=7;(·rw[if_pos i];exact(h.end s).tell _);·rw[if_neg i];by_cases k:Yv (v.synced:Int) (v.txns s).start=tB;(·rw[if_pos k];exact(h.end s).tell _);·rw[if_neg k];by_cases l:r.kind=6;(·rw[if_pos l];exact h.commit m);·rw[if_neg l];have p:=hr.kind;exact h.work m hr (by omega)
theorem Zz.ask(h:Zz D v)(s:Nat)(d:List UInt8):Zz D (Ue D v s d):=by
 unfold Ue;by_cases a:v.up=tB;·rw[if_pos a];exact h.tell _
 ·rw[if_neg a];by_cases b:Xx d=0;(·rw[if_pos b];exact h.req (by simpa using a) s ((Vx _).1 (EX b).1));·rw[if_neg b];exact h.tell _
theorem Zz.sync(h:Zz D v):Zz D (Vh v):=by
 have c:=h.may;have a:=h.turn;refine⟨h.goes,h.many,?_,?_,?_,?_,by simp[Vh],?_,by simp[Vh],?_,?_,?_⟩;·show(Ki v.tape).data=_;rw[Ki,if_pos c];exact h.data
 ·show(Ki v.tape).synced=((QR D (v.commits.take (v.synced+v.queue.length))).length:Int);rw[Ki,if_pos c,a,sH,<-h.data]
 ·show(Ki v.tape).data.length<=_;rw[Ki,if_pos c];exact h.room
 ·show v.synced+v.queue.length+([]:List Nat).length=v.commits.length;simpa using a
 ·intro j;show UG v.waits v.queue j=tA↔j∈([]:List Nat);rw[UG];constructor;(·intro e;split at e;(·cases e);·rename_i hq;exact absurd ((h.wait j).1 e) hq);·intro e;simp at e
 ·intro j b;obtain⟨d,f⟩:=h.tx j b;exact⟨d,by show _<=((v.synced+v.queue.length:Nat):Int);have:(v.txns j).start<=(v.synced:Int):=f;show(v.txns j).start<=_;omega⟩
 ·intro j b;have:UG v.waits v.queue j=tA:=b;rw[UG]at this;split at this;(·cases this);·exact h.idle j this
 ·intro g;exact⟨rfl,(h.down g).2⟩
theorem Lt{up:Bool}{t:V5}{cs:List Xo}{o:List Rp}(hg:V9 [] 0 cs)(hm:cs.length<=300)(hd:t=⟨QR D cs,((QR D cs).length:Int)⟩)(hr:(QR D cs).length<=200000):Zz D (V8 up t cs o):=by
 subst hd;refine⟨hg,hm,rfl,?_,hr,rfl,by simp[V8],fun s=>by simp[V8],by simp[V8],fun s a=>by simp[V8]at a,fun s a=>by simp[V8]at a,fun _=>⟨rfl,fun _=>rfl⟩⟩;show((QR D cs).length:Int)=((QR D (cs.take cs.length)).length:Int);rw[sH]
theorem Tm(D:List UInt8->List UInt8):Zz D Am:=Lt trivial (by
 simp) rfl (by
 simp[QR])
theorem Vt(hD:∀x,(D x).length=4)(h:Zz D v){k:Int}(hk:0<=k):∃j,v.synced<=j∧j<=v.commits.length∧Uu D v k=V8 tB ⟨QR D (v.commits.take j),((QR D (v.commits.take j)).length:Int)⟩ (v.commits.take j) v.out∧(k=0->j=v.synced):=by
 have l:=h.may;obtain⟨y,z,A⟩:=(Kw _).1 l;have d:zA 1 v.commits:=EG h.goes;have t:=h.turn;have b:Un v.tape k=0:=by rw[Un,if_pos l,if_neg (by omega)]
 have c:Xu v.tape k<=v.tape.data.length∧v.tape.synced<=(Xu v.tape k:Int):=by rw[Xu];split<;>omega
 have a:Xq v.tape k=⟨(QR D v.commits).take (Xu v.tape k),(Xu v.tape k:Int)⟩:=by rw[Xq,if_pos b,h.data]
 have g:(QR D v.commits).length<=200000:=by rw[<-h.data];exact h.room
 obtain⟨j,m,u,n,_,o,p⟩:=Ot hD d (Xu v.tape k) (Xu v.tape k:Int) (by rw[<-h.data];exact c.1) (by omega) g;have i:v.synced<=j:=by refine Rn (D:=D) (cs:=v.commits) (k:=Xu v.tape k) (by omega) n ?_;have:=h.mark;omega
 have e:(if(Xu v.tape k:Int)>((QR D (v.commits.take j)).length:Int)then((QR D (v.commits.take j)).length:Int)else(Xu v.tape k:Int))=((QR D (v.commits.take j)).length:Int):=by split<;>omega
 refine⟨j,i,m,?_,?_⟩;·rw[Uu,a,o,p,e]
 ·intro f;by_cases r:j=v.synced;(·exact r);·exfalso;(have w:(Xu v.tape k:Int)=v.tape.synced:=by rw[Xu,f];split<;>omega);have g1:=UY D v.commits (v.synced+1) j (by omega);have g2:=Be D v.commits v.synced (by omega);have q:=(h.goes.at v.synced (by omega)).1;have g3:=(yP hD q).1;have s:=h.mark;rw[g2,tG]at g1;omega
theorem Zz.crash(hD:∀x,(D x).length=4)(h:Zz D v){k:Int}(hk:0<=k):Zz D (Uu D v k):=by
 obtain⟨j,d,b,c,_⟩:=Vt hD h hk;have e:=h.many;have a:=UY D v.commits j v.commits.length b;rw[sH,<-h.data]at a;have f:=h.room;rw[c];exact Lt (h.goes.take j) (by rw[rM];omega) rfl (by omega)
theorem Zz.start(h:Zz D v):Zz D {v with up:=tA}:=⟨h.goes,h.many,h.data,h.mark,h.room,h.turn,h.few,h.wait,h.once,h.tx,h.idle,fun hu=>by
 cases hu⟩
theorem Zz.act(hD:∀x,(D x).length=4)(h:Zz D v){a:Ac}(ha:XT a):Zz D (ZS D v a):=by
 unfold ZS;by_cases c:a.kind=1;·rw[if_pos c];exact h.ask _ _
 ·rw[if_neg c];by_cases d:a.kind=2;(·rw[if_pos d];split;(·exact h.sync);·exact h);·rw[if_neg d];by_cases b:a.kind=3;(·rw[if_pos b];split;(·exact h.crash hD (ha.keep b).1);·exact h);·rw[if_neg b];exact h.start
theorem Ez(hD:∀x,(D x).length=4):∀(l:List Ac)(v:Sv),Zz D v->(∀a∈l,XT a)->Zz D (l.foldl (ZS D) v)|[],_,h,_=>h|a::l,v,h,ha=>Ez hD l _ (h.act hD (ha a (by simp))) (fun x b=>ha x (by simp[b]))
theorem GR(hD:∀x,(D x).length=4)(l:List Ac)(h:∀a∈l,XT a):Zz D (Y5 D l):=Ez hD l Am (Tm D) h
end
structure Same (v u : Sv) : Prop where
  up : u.up = v.up
  tape : u.tape = v.tape
  commits : u.commits = v.commits
  synced : u.synced = v.synced
  waits : u.waits = v.waits
  queue : u.queue = v.queue
theorem Same.trans{v u w:Sv}(h:Same v u)(k:Same u w):Same v w:=⟨k.up.trans h.up,k.tape.trans h.tape,k.commits.trans h.commits,k.synced.trans h.synced,k.waits.trans h.waits,k.queue.trans h.queue⟩
structure bM (s : Nat) (v u : Sv) : Prop extends Same v u where
  out : ∃ r, u.out = v.out ++ [r] ∧ r.sess = (s : Int)
  begun : ∀ j, j ≠ s -> u.begun j = v.begun j
  txns : ∀ j, j ≠ s -> u.txns j = v.txns j
theorem Uc(v:Sv)(s:Nat)(r:Rp)(h:r.sess=(s:Int)):bM s v (Zq v r):=⟨⟨rfl,rfl,rfl,rfl,rfl,rfl⟩,⟨r,rfl,h⟩,fun _ _=>rfl,fun _ _=>rfl⟩
theorem yW(v:Sv)(s:Nat)(r:Rp)(h:r.sess=(s:Int)):bM s v (Zq (Xk v s) r):=⟨⟨rfl,rfl,rfl,rfl,rfl,rfl⟩,⟨r,rfl,h⟩,fun _ hj=>Zk _ _ hj,fun _ _=>rfl⟩
theorem Lg(v:Sv)(s:Nat)(t:Tx)(r:Rp)(h:r.sess=(s:Int)):bM s v (Zq {v with txns:=Ko v.txns s t} r):=⟨⟨rfl,rfl,rfl,rfl,rfl,rfl⟩,⟨r,rfl,h⟩,fun _ _=>rfl,fun _ a=>Zk _ _ a⟩
theorem Dd(v:Sv)(s:Nat)(x:Rd)(o:Rp)(h:o.sess=(s:Int)):bM s v (KV v s x o):=by
 unfold KV;split;·exact Lg v s _ _ h
 ·exact Uc v s _ rfl
theorem Wo(v:Sv)(s:Nat)(w:Q8):bM s v (GH v s w):=by
 unfold GH;split;·exact Lg v s _ _ rfl
 ·exact Uc v s _ rfl
theorem IT(v:Sv)(s:Nat)(r:Rq):bM s v (VU v s r):=by
 unfold VU;split;·exact Wo v s _
 ·split;(·unfold RY;split;(·exact Uc v s _ rfl);·exact Dd v s _ _ rfl);·unfold vJ;split;(·exact Dd v s _ _ rfl);·exact Uc v s _ rfl
structure Oh (D : List UInt8 -> List UInt8) (s : Nat) (v u : Sv) : Prop where
  up : u.up = v.up
  tape : u.tape = zW D v.tape (YV v s)
  commits : u.commits = v.commits ++ [YV v s]
  synced : u.synced = v.synced
  waits : u.waits = Ko v.waits s tA
  queue : u.queue = v.queue ++ [s]
  out : u.out = v.out
  begun : u.begun = Ko v.begun s tB
  txns : u.txns = v.txns
  full : (v.txns s).writes.length ≠ 0
  room : v.queue.length ≠ 6 ∧ v.commits.length ≠ 300
  clash : Jz (v.txns s) v.commits = tB
  fits : QK (Qv v v.commits.length) (v.txns s).writes = 0
  app : Va D v.tape (YV v s) = 0
theorem Im(D:List UInt8->List UInt8)(v:Sv)(s:Nat):bM s v (Ja D v s)∨Oh D s v (Ja D v s):=by
 unfold Ja;by_cases b:(v.txns s).writes.length=0;·rw[if_pos b];exact .inl (yW v s _ rfl)
 ·rw[if_neg b];by_cases a:v.queue.length=6∨v.commits.length=300;(·rw[if_pos a];exact .inl (Uc v s _ rfl));·rw[if_neg a];by_cases c:Jz (v.txns s) v.commits=tA;(·rw[if_pos c];exact .inl (yW v s _ rfl));·rw[if_neg c];by_cases d:QK (Qv v v.commits.length) (v.txns s).writes≠0;(·rw[if_pos d];exact .inl (yW v s _ rfl));·rw[if_neg d];by_cases f:Va D v.tape (YV v s)≠0;(·rw[if_pos f];exact .inl (yW v s _ rfl));·rw[if_neg f];exact .inr ⟨rfl,rfl,rfl,rfl,rfl,rfl,rfl,rfl,rfl,b,⟨fun e=>a (.inl e),fun e=>a (.inr e)⟩,by simpa using c,sV d,sV f⟩
theorem fO(D:List UInt8->List UInt8)(v:Sv)(s:Nat)(r:Rq):bM s v (Vu D v s r)∨(r.kind=6∧Zb v s r=tB∧Oh D s v (Vu D v s r)):=by
 unfold Vu;by_cases d:r.kind=8;·rw[if_pos d];exact .inl (Uc v s _ rfl)
 ·rw[if_neg d];by_cases a:Zb v s r=tA;(·rw[if_pos a];exact .inl (Uc v s _ rfl));·rw[if_neg a];by_cases e:r.kind=1;(·rw[if_pos e];exact .inl ⟨⟨rfl,rfl,rfl,rfl,rfl,rfl⟩,⟨_,rfl,rfl⟩,fun _ c=>Zk _ _ c,fun _ c=>Zk _ _ c⟩);·rw[if_neg e];by_cases f:r.kind=7;(·rw[if_pos f];exact .inl (yW v s _ rfl));·rw[if_neg f];by_cases g:Yv (v.synced:Int) (v.txns s).start=tB;(·rw[if_pos g];exact .inl (yW v s _ rfl));·rw[if_neg g];by_cases b:r.kind=6;(·rw[if_pos b];rcases Im D v s with h|h;(·exact .inl h);·exact .inr ⟨b,by simpa using a,h⟩);·rw[if_neg b];exact .inl (IT v s r)
theorem Bh(D:List UInt8->List UInt8)(v:Sv)(s:Nat)(d:List UInt8):bM s v (Ue D v s d)∨(v.up=tA∧Xx d=0∧(JF d).kind=6∧v.waits s=tB∧v.begun s=tA∧Oh D s v (Ue D v s d)):=by
 unfold Ue;by_cases b:v.up=tB;·rw[if_pos b];exact .inl (Uc v s _ rfl)
 ·rw[if_neg b];by_cases c:Xx d=0;(·rw[if_pos c];rcases fO D v s (JF d)with h|⟨e,a,f⟩;(·exact .inl h);·right;unfold Zb at a;rw[if_neg (by omega)]at a;simp only[rS,Bool.not_eq_false']at a;exact⟨by simpa using b,c,e,a.1,a.2,f⟩);·rw[if_neg c];exact .inl (Uc v s _ rfl)
theorem PK:∀(q:List Nat)(n:Nat),(Vl n q).length=q.length|[],_=>rfl|_::q,n=>by rw[Vl,sL,sL,PK q]
structure Gr where
  kind : Int
  sess : Int
  name : Int
  key : Int
  value : Int
def Ws:Gr:=⟨0,0,0,0,0⟩
def VQ(n:Int)(many:Nat):Nat:=if n<0then((-(n+1))%(many:Int)).toNat else(n%(many:Int)).toNat
theorem xU(n:Int){many:Nat}(h:0<many):VQ n many<many:=by
 unfold VQ;split;·have a:=oH (-(n+1)) (show(many:Int)≠0 by omega);have b:=pW (-(n+1)) (show(0:Int)<many by omega);omega
 ·have a:=oH n (show(many:Int)≠0 by omega);have b:=pW n (show(0:Int)<many by omega);omega
theorem eJ{r:Rq}(h:JI r):yB r=XH r:=by
 rw[yB,if_pos ((Vx r).2 h)]
structure Gh (l : FL) : Prop where
  many : l.length * 48 <= 140737488355328
  each : ∀ i, i < l.length -> (l.getD i ([], [])).1.length <= 140737488355328 ∧ uC (l.getD i ([], [])).2
theorem Gh.len{l:FL}(h:Gh l):l.length<=140737488355328:=by
 have:=h.many;omega
theorem ZN.fits{l:FL}(h:ZN l):Gh l:=by
 refine⟨by have:=h.room;omega,fun i a=>?_⟩;have:=h.tens l[i] (sM a);rw[show l[i]=l.getD i ([],[])by simp[a]]at this;exact⟨by omega,this.2.2.fits⟩
def Di(w:L)(b o:Nat)(t:Tn):Prop:=∃vn vp,w.cell? ⟨b,o,M⟩=O vn∧w.cell? ⟨b,o+1,M⟩=O vp∧Qe w vn t.1∧Qp w vp t.2
theorem Di.grown{w w':L}{b o:Nat}{t:Tn}(h:Di w b o t)(hg:Y w w' M):Di w' b o t:=by
 obtain⟨f,g,a,c,d,e⟩:=h;exact⟨f,g,hg.cell a (by simp),hg.cell c (by simp),d.grown hg,e.grown hg⟩
def ZI(w:L)(v:N)(l:FL):Prop:=∃a cap,v=S a l.length cap∧l.length<=cap∧((l=[]∧(a=M->cap=0))∨∃b o,a=O ⟨b,o,M⟩∧∀i,i<l.length->Di w b (o+i*2) (l.getD i ([],[])))
theorem qR(w:L):ZI w (S M 0 0) []:=⟨M,0,rfl,sC _,.inl ⟨rfl,fun _=>rfl⟩⟩
theorem ZI.grown{w w':L}{v:N}{l:FL}(h:ZI w v l)(hg:Y w w' M):ZI w' v l:=by
 obtain⟨a,cap,rfl,c,h⟩:=h;refine⟨a,cap,rfl,c,?_⟩;rcases h with h|⟨b,o,rfl,h⟩;·exact .inl h
 ·exact .inr ⟨b,o,rfl,fun i d=>(h i d).grown hg⟩
theorem ZI.shape{w:L}{v:N}{l:FL}(h:ZI w v l):∃a cap,v=S a l.length cap:=by
 obtain⟨a,cap,rfl,_⟩:=h;exact⟨a,cap,rfl⟩
theorem ZI.at{w:L}{a:Option rD}{n cap:Nat}{l:FL}(h:ZI w (S a n cap) l)(i:Nat)(hi:i<l.length):∃b o,a=O ⟨b,o,M⟩∧Di w b (o+i*2) (l.getD i ([],[])):=by
 obtain⟨d,c,e,f,h⟩:=h;simp only[tL]at e;obtain⟨rfl,rfl,rfl⟩:=e;rcases h with⟨rfl,_⟩|⟨b,o,rfl,h⟩;·simp at hi
 ·exact⟨b,o,rfl,h i hi⟩
theorem eS:(55:Nat)≠5:=by
 decide
theorem eO:(55:Nat)≠35:=by
 decide
def Zx(base:Nat)(w:L)(v:N)(l:FL):Prop:=∃vs:List (N×N),vs.length=l.length∧w.ownsRow base 55 2 v l.length (flat vs)∧∀i,i<l.length->Qg 0 w (vs.getD i (sP,sP)).1 (l.getD i ([],[])).1∧QJ 0 w (vs.getD i (sP,sP)).2 (l.getD i ([],[])).2
theorem yL(base:Nat)(w:L):Zx base w (S M 0 0) []:=⟨[],rfl,sX _ _ _ _,fun i hi=>by
 simp at hi⟩
theorem Zx.row{base:Nat}{w:L}{v:N}{l:FL}(h:Zx base w v l):v.ownBlock=M∨∃g cur t fz,v.ownBlock=O g∧base<=g∧w.heap[g]?=O (tD cur t fz)∧t≠5∧t≠35:=by
 obtain⟨c,_,h,_⟩:=h;rcases h.2with⟨rfl,_⟩|⟨g,cap,cur,rfl,a,b,_⟩;·exact .inl rfl
 ·exact .inr ⟨g,cur,_,_,rfl,a,b,eS,eO⟩
theorem Zx.row0{base:Nat}{w:L}{v:N}{l:FL}(h:Zx base w v l):v.ownBlock=M∨∃g cur t fz,v.ownBlock=O g∧0<=g∧w.heap[g]?=O (tD cur t fz)∧t≠5∧t≠35:=by
 rcases h.row with h|⟨g,cur,t,fz,a,_,b⟩;·exact .inl h
 ·exact .inr ⟨g,cur,t,fz,a,tV _,b⟩
theorem gL{base:Nat}{w:L}{r:Option Nat}(h:r=M∨∃g cur t fz,r=O g∧base<=g∧w.heap[g]?=O (tD cur t fz)∧t≠5∧t≠35):r=M∨∃g cur t fz,r=O g∧base<=g∧w.heap[g]?=O (tD cur t fz)∧t≠5:=by
 rcases h with h|⟨g,cur,t,fz,a,b,c,d,_⟩;·exact .inl h
 ·exact .inr ⟨g,cur,t,fz,a,b,c,d⟩
theorem Zx.lt{base:Nat}{w:L}{v:N}{l:FL}(h:Zx base w v l):∀k,v.ownBlock=O k->base<=k∧k<w.heap.size:=by
 obtain⟨a,_,h,_⟩:=h;exact sJ h
theorem Zx.grownNone{base:Nat}{w w':L}{v:N}{l:FL}(h:Zx base w v l)(hg:Y w w' M):Zx base w' v l:=by
 obtain⟨e,c,d,a⟩:=h;refine⟨e,c,tX d hg ?_,fun i b=>⟨((a i b).1).keptT hg (.inl rfl),((a i b).2).kept hg (.inl rfl)⟩⟩;cases hv:v.ownBlock with|none=>exact .inl rfl|some k=>exact .inr (by simp)
theorem Zx.alloc{base:Nat}{w:L}{v:N}{l:FL}(h:Zx base w v l)(o:Obj):Zx base (w.alloc o) v l:=h.grownNone (rA _ _ _)
theorem Zx.shape{base:Nat}{w:L}{v:N}{l:FL}(h:Zx base w v l):∃a cap,v=S a l.length cap:=by
 obtain⟨d,_,h,_⟩:=h;rcases h.2with⟨rfl,c⟩|⟨g,cap,b,rfl,_⟩;·exact⟨M,0,by rw[c]⟩
 ·exact⟨_,cap,rfl⟩
theorem Zx.cells{base:Nat}{w:L}{g n cap:Nat}{vs:List (N×N)}{l:FL}(hr:w.ownsRow base 55 2 (S (O ⟨g,0,M⟩) n cap) l.length (flat vs)):∀j u,(flat vs)[j]?=O u->w.cell? ⟨g,j,M⟩=O u:=by
 intro j u f;rcases hr.2with⟨e,_⟩|⟨k,c,a,e,m,h,p,o,q,i⟩;·cases e
 ·simp only[tL,tF,rJ]at e;obtain⟨⟨rfl,_⟩,_,_⟩:=e;(have b:j<l.length*2:=by have:=(sN.1 f).1;rw[hr.1]at this;exact this);(have d:(a.toList.take (l.length*2))[j]?=(flat vs)[j]?:=by rw[i]);rw[sF,if_pos b,f]at d;simp[tY,h];simpa using d
theorem Zx.list{base:Nat}{w:L}{v:N}{l:FL}(h:Zx base w v l):ZI w v l:=by
 obtain⟨b,p,f,c⟩:=h;have a:=f;rcases f.2with⟨rfl,k⟩|⟨g,cap,j,rfl,n,o,m,q,r,s⟩;·have:l=[]:=tN k;subst this;exact qR w
 ·refine⟨_,cap,rfl,m,.inr ⟨g,0,rfl,fun i e=>?_⟩⟩;have d:=xT b i (by omega);refine⟨(b.getD i (sP,sP)).1,(b.getD i (sP,sP)).2,?_,?_,(c i e).1.1,(c i e).2.list⟩;(·have:=Zx.cells a _ _ d.1;rw[sS];exact this);·have:=Zx.cells a _ _ d.2;rw[sS];exact this
theorem Tw{base:Nat}{w W w1:L}{v:N}{l:FL}(h:Y w W M)(ho:Zx base W v l)(hb:w.heap.size<=base)(hg:Y W w1 v.ownBlock):Y w w1 M:=⟨hg.os.trans h.os,hg.tape.trans h.tape,hg.output.trans h.output,tS h.size hg.size,fun i a b=>(hg.block i (tK a h.size) (fun e=>by
 have:=(ho.lt i e.symm).1;omega)).trans (h.block i a b)⟩
theorem FP:(tC.info? 55).map (fun i=>(i.zero,i.size,i.bytes))=O (O (sW #[S M 0 0,S M 0 0]),2,48):=by
 kernel_rfl
theorem kB{w:L}{o:rP}{a:Act}{K:Act->L->Prop}{Q:Exit->Act->L->Prop}(s x:rK)(ho:o.op=.call {callee:=.builtin .append,args:=#[s,x],argTypes:=#[44,44]})(base:Nat)(v:N)(l:FL)(hs:a.eval s=v)(hown:Zx base w v l)(vn vp:N)(t:Tn)(hk:Qg 0 w vn t.1)(hv:QJ 0 w vp t.2)(nb:Nat)(hb:w.heap[nb]?=O (tD #[vn,vp] 55))(hx:a.eval x=S (O ⟨nb,0,M⟩) 1 1)(hl:(l.length+1)*48<=140737488355328)(hbase:base<=w.heap.size)(h:∀v' w',Zx base w' v' (l++[t])->Y w w' v.ownBlock->K (a.put o.dst v') w'):o.wp tC a w K Q:=by
 obtain⟨z,f,j,k,m⟩:=pD FP;have b:=hown.row0;obtain⟨q,e,y,n⟩:=hown;refine wp_append_lies w s x 44 ho base 55 z (sW #[S M 0 0,S M 0 0]) 2 48 Tryz.underlying44 f j k m rfl (by decide) v l.length (flat q) hs y ⟨nb,0,M⟩ 1 1 (flat [(vn,vp)]) hx rfl (rF (cs:=#[vn,vp]) hb) ?_ (by omega) (by unfold pN;omega) hl hbase _ rfl ?_;·intro u p;simp only[flat,tR,rN,rT,tP,tU,or_false]at p;rcases p with rfl|rfl;(·exact ZH hk);·exact yH hv
 ·intro g cap w' r d _ _;refine h _ w' ⟨q++[(vn,vp)],by simp[e],?_,?_⟩ d;(·rw[JR,tG];exact r);·intro i f;rw[Ji,Ji,e];by_cases c:i<l.length;(·rw[if_pos c,if_pos c];exact⟨(n i c).1.keptT d (gL b),(n i c).2.kept d b⟩);·rw[if_neg c,if_neg c];(obtain rfl:i=l.length:=by simp at f;omega);rw[oJ];exact⟨hk.keptT d (gL b),hv.kept d b⟩
theorem FB{w:L}{ops:Array rP}{o:rP}{a:Act}{K:Act->L->Prop}{Q:Exit->Act->L->Prop}{E:Prop}(hgd:o.guard=M)(s x:rK)(ho:o.op=.call {callee:=.builtin .append,args:=#[s,x],argTypes:=#[44,44]})(base:Nat)(v:N)(l:FL)(hs:a.eval s=v)(hown:Zx base w v l)(vn vp:N)(t:Tn)(hk:Qg 0 w vn t.1)(hv:QJ 0 w vp t.2)(nb:Nat)(hb:w.heap[nb]?=O (tD #[vn,vp] 55))(hx:a.eval x=S (O ⟨nb,0,M⟩) 1 1)(hl:(l.length+1)*48<=140737488355328)(hbase:base<=w.heap.size)(h:∀v' w',Zx base w' v' (l++[t])->Y w w' v.ownBlock->K (a.put o.dst v') w'):if sI o (pE ops a.tmps)=tA then Oper.wp tC o a w K Q else E:=by
 have b:sI o (pE ops a.tmps)=tA:=by simp[sI,hgd]
 rw[if_pos b];exact kB s x ho base v l hs hown vn vp t hk hv nb hb hx hl hbase h
theorem uN{w:L}{ops:Array rP}{rest:List rP}{o:rP}{a:Act}{Q:Exit->Act->L->Prop}(hgd:o.guard=M)(s x:rK)(ho:o.op=.call {callee:=.builtin .append,args:=#[s,x],argTypes:=#[44,44]})(base:Nat)(v:N)(l:FL)(hs:a.eval s=v)(hown:Zx base w v l)(vn vp:N)(t:Tn)(hk:Qg 0 w vn t.1)(hv:QJ 0 w vp t.2)(nb:Nat)(hb:w.heap[nb]?=O (tD #[vn,vp] 55))(hx:a.eval x=S (O ⟨nb,0,M⟩) 1 1)(hl:(l.length+1)*48<=140737488355328)(hbase:base<=w.heap.size)(h:∀v' w',Zx base w' v' (l++[t])->Y w w' v.ownBlock->wpList tC ops Q rest (a.put o.dst v') w'):wpList tC ops Q (o::rest) a w:=wpList_plain hgd fun _ d=>kB s x ho base v l hs hown vn vp t hk hv nb hb hx hl hbase fun v' w' b c=>d _ _ (h v' w' b c)
theorem Qk{w:L}{b i:Nat}{cs:Array N}{t:sB}{fz:Nat×Nat}{u:N}(h:w.heap[b]?=O (tD cs t fz)):(tI w ⟨b,i,M⟩ u).heap[b]?=O (tD (cs.setIfInBounds i u) t fz):=by
 simp only[tI,tZ,if_true,h,rO];rfl
theorem QE{w:L}{b c i:Nat}{o:Obj}{u:N}(h:w.heap[b]?=O o)(hne:b≠c):(tI w ⟨c,i,M⟩ u).heap[b]?=O o:=by
 simp only[tI,tZ];rw[if_neg (fun e=>hne e.symm)];exact h
theorem YJ(w:L)(b i:Nat)(u:N):Y w (tI w ⟨b,i,M⟩ u) (O b):=Qf (Qb w _) i u
theorem Qg.setOther{base:Nat}{w:L}{v:N}{bs:List UInt8}(h:Qg base w v bs){b i:Nat}{cs:Array N}{t:sB}{fz:Nat×Nat}(hb:w.heap[b]?=O (tD cs t fz))(ht:t≠5)(hbb:base<=b)(u:N):Qg base (tI w ⟨b,i,M⟩ u) v bs:=h.keptT (YJ w b i u) (.inr ⟨b,cs,t,fz,rfl,hbb,hb,ht⟩)
def QW(rb pb:Nat)(w:L)(v:N)(l:List Q8):Prop:=∃us:List WV,us.map (·.1)=l∧w.ownsRow rb 118 4 v l.length (Y8 us)∧∀x∈us,Qg pb w x.2.1 x.1.name∧Qg pb w x.2.2.1 x.1.key∧Qg pb w x.2.2.2 x.1.value
theorem Xv(rb pb:Nat)(w:L):QW rb pb w (S M 0 0) []:=⟨[],rfl,sX _ _ _ _,fun x hx=>by
 simp at hx⟩
theorem QW.row{rb pb:Nat}{w:L}{v:N}{l:List Q8}(h:QW rb pb w v l):v.ownBlock=M∨∃g cur fz,v.ownBlock=O g∧rb<=g∧w.heap[g]?=O (tD cur 118 fz):=by
 obtain⟨c,_,h,_⟩:=h;rcases h.2with⟨rfl,_⟩|⟨g,cap,cur,rfl,a,b,_⟩;·exact .inl rfl
 ·exact .inr ⟨g,cur,_,rfl,a,b⟩
theorem QW.lt{rb pb:Nat}{w:L}{v:N}{l:List Q8}(h:QW rb pb w v l):∀k,v.ownBlock=O k->rb<=k∧k<w.heap.size:=by
 obtain⟨a,_,h,_⟩:=h;exact sJ h
theorem QW.ne{rb pb:Nat}{w:L}{v:N}{l:List Q8}(h:QW rb pb w v l){b:Nat}{cs:Array N}{t:sB}{fz:Nat×Nat}(hb:w.heap[b]?=O (tD cs t fz))(ht:t≠118):v.ownBlock≠O b:=by
 intro e;rcases h.row with f|⟨g,c,d,i,_,a⟩;·rw[f]at e;cases e
 ·rw[i]at e;cases e;rw[hb]at a;simp only[tF,sA]at a;exact ht a.2.1
theorem QW.kept{rb pb:Nat}{w w':L}{v:N}{l:List Q8}(h:QW rb pb w v l){row:Option Nat}(hg:Y w w' row)(hne:v.ownBlock=M∨v.ownBlock≠row)(hrow:row=M∨∃g cur t fz,row=O g∧pb<=g∧w.heap[g]?=O (tD cur t fz)∧t≠5):QW rb pb w' v l:=by
 obtain⟨e,c,d,a⟩:=h;exact⟨e,c,tX d hg hne,fun x b=>⟨(a x b).1.keptT hg hrow,(a x b).2.1.keptT hg hrow,(a x b).2.2.keptT hg hrow⟩⟩
theorem QW.grownNone{rb pb:Nat}{w w':L}{v:N}{l:List Q8}(h:QW rb pb w v l)(hg:Y w w' M):QW rb pb w' v l:=h.kept hg (by
 cases hv:v.ownBlock with|none=>exact .inl rfl|some k=>exact .inr (by simp)) (.inl rfl)
theorem QW.setOther{rb pb:Nat}{w:L}{v:N}{l:List Q8}(h:QW rb pb w v l){b i:Nat}{cs:Array N}{t:sB}{fz:Nat×Nat}(hb:w.heap[b]?=O (tD cs t fz))(ht:t≠5)(ht2:t≠118)(hbb:pb<=b)(u:N):QW rb pb (tI w ⟨b,i,M⟩ u) v l:=h.kept (YJ w b i u) (.inr (h.ne hb ht2)) (.inr ⟨b,cs,t,fz,rfl,hbb,hb,ht⟩)
theorem QW.shape{rb pb:Nat}{w:L}{v:N}{l:List Q8}(h:QW rb pb w v l):∃a cap,v=S a l.length cap:=by
 obtain⟨d,_,h,_⟩:=h;rcases h.2with⟨rfl,c⟩|⟨g,cap,b,rfl,_⟩;·exact⟨M,0,by rw[c]⟩
 ·exact⟨_,cap,rfl⟩
theorem QW.any{rb pb:Nat}{w:L}{v:N}{l:List Q8}(h:QW rb pb w v l):∃a n cap,v=S a n cap:=by
 obtain⟨a,cap,e⟩:=h.shape;exact⟨a,_,cap,e⟩
theorem QW.down{rb pb:Nat}{w:L}{v:N}{l:List Q8}(h:QW rb pb w v l)(rb':Nat)(hb:rb'<=rb):QW rb' pb w v l:=by
 obtain⟨i,d,c,f⟩:=h;refine⟨i,d,⟨c.1,?_⟩,f⟩;rcases c.2with h|⟨g,cap,a,e,b,rest⟩;·exact .inl h
 ·exact .inr ⟨g,cap,a,e,tS hb b,rest⟩
theorem QW.writesB{rb pb:Nat}{w:L}{v:N}{l:List Q8}(h:QW rb pb w v l):Xm pb w v l:=by
 obtain⟨d,o,q,z⟩:=h;rcases q.2with⟨rfl,y⟩|⟨g,cap,e,rfl,D,m,B,E,F,C⟩;·have:l=[]:=tN y;rw[this];exact Du pb w
 ·(have a:∀j u,(Y8 d)[j]?=O u->w.cell? ⟨g,j,M⟩=O u:=by intro j u n;(have f:j<l.length*4:=by have:=(sN.1 n).1;rw[q.1]at this;exact this);(have b:(e.toList.take (l.length*4))[j]?=(Y8 d)[j]?:=by rw[C]);rw[sF,if_pos f,n]at b;simp[tY,m];simpa using b);refine⟨_,cap,rfl,B,.inr ⟨g,0,rfl,.inr ⟨_,_,m⟩,fun i A=>?_⟩⟩;obtain⟨x,b⟩:=Hl o i A;(have p:d.length=l.length:=by rw[<-o];simp);obtain⟨r,s,k,t⟩:=Ns d i (by omega);have c:=z _ b;rw[x]at k c;rw[sS];exact⟨_,_,_,a _ _ r,a _ _ s,a _ _ k,a _ _ t,c.1,c.2.1,c.2.2⟩
theorem QW.list{rb pb:Nat}{w:L}{v:N}{l:List Q8}(h:QW rb pb w v l):QO w v l:=h.writesB.list
theorem V3{rb pb:Nat}{w W w1:L}{v:N}{l:List Q8}(h:Y w W M)(ho:QW rb pb W v l)(hb:w.heap.size<=rb)(hg:Y W w1 v.ownBlock):Y w w1 M:=⟨hg.os.trans h.os,hg.tape.trans h.tape,hg.output.trans h.output,tS h.size hg.size,fun i a b=>(hg.block i (tK a h.size) (fun e=>by
 have:=(ho.lt i e.symm).1;omega)).trans (h.block i a b)⟩
def Rc(w:L)(b o:Nat)(r:Rd):Prop:=∃vn vk vl,w.cell? ⟨b,o,M⟩=O vn∧w.cell? ⟨b,o+1,M⟩=O vk∧w.cell? ⟨b,o+2,M⟩=O (tQ r.wide)∧w.cell? ⟨b,o+3,M⟩=O vl∧Qe w vn r.name∧Qe w vk r.key∧Qe w vl r.last
theorem Rc.grown{w w':L}{b o:Nat}{r:Rd}(h:Rc w b o r)(hg:Y w w' M):Rc w' b o r:=by
 obtain⟨l,j,k,a,c,d,e,f,g,i⟩:=h;exact⟨l,j,k,hg.cell a (by simp),hg.cell c (by simp),hg.cell d (by simp),hg.cell e (by simp),f.grown hg,g.grown hg,i.grown hg⟩
def Z9(w:L)(v:N)(l:List Rd):Prop:=∃a cap,v=S a l.length cap∧l.length<=cap∧((l=[]∧(a=M->cap=0))∨∃b o,a=O ⟨b,o,M⟩∧∀i,i<l.length->Rc w b (o+i*4) (l.getD i Zf))
theorem Cu(w:L):Z9 w (S M 0 0) []:=⟨M,0,rfl,sC _,.inl ⟨rfl,fun _=>rfl⟩⟩
theorem Z9.shape{w:L}{v:N}{l:List Rd}(h:Z9 w v l):∃a cap,v=S a l.length cap:=by
 obtain⟨a,cap,rfl,_⟩:=h;exact⟨a,cap,rfl⟩
theorem Z9.grown{w w':L}{v:N}{l:List Rd}(h:Z9 w v l)(hg:Y w w' M):Z9 w' v l:=by
 obtain⟨a,cap,rfl,c,h⟩:=h;refine⟨a,cap,rfl,c,?_⟩;rcases h with h|⟨b,o,rfl,h⟩;·exact .inl h
 ·exact .inr ⟨b,o,rfl,fun i d=>(h i d).grown hg⟩
theorem Z9.at{w:L}{a:Option rD}{n cap:Nat}{l:List Rd}(h:Z9 w (S a n cap) l)(i:Nat)(hi:i<l.length):∃b o,a=O ⟨b,o,M⟩∧Rc w b (o+i*4) (l.getD i Zf):=by
 obtain⟨d,c,e,f,h⟩:=h;simp only[tL]at e;obtain⟨rfl,rfl,rfl⟩:=e;rcases h with⟨rfl,_⟩|⟨b,o,rfl,h⟩;·simp at hi
 ·exact⟨b,o,rfl,h i hi⟩
structure iK (l : List Rd) : Prop where
  many : l.length * 80 <= 140737488355328
  each : ∀ i, i < l.length -> PG (l.getD i Zf)
structure xM (t : Tx) : Prop where
  start : -9223372036854775808 <= t.start ∧ t.start <= 9223372036854775807
  reads : iK t.reads
  writes : uF t.writes
def G2(w:L)(v:N)(t:Tx):Prop:=∃vr vw,v=sW #[tE tH t.start,vr,vw]∧Z9 w vr t.reads∧QO w vw t.writes
theorem G2.grown{w w':L}{v:N}{t:Tx}(h:G2 w v t)(hg:Y w w' M):G2 w' v t:=by
 obtain⟨c,d,rfl,a,b⟩:=h;exact⟨c,d,rfl,a.grown hg,b.grown hg⟩
theorem G2.agg{w:L}{v:N}{t:Tx}(h:G2 w v t):∃ra rc wa wc,v=sW #[tE tH t.start,S ra t.reads.length rc,S wa t.writes.length wc]:=by
 obtain⟨c,d,rfl,a,b⟩:=h;obtain⟨ra,rc,rfl⟩:=a.shape;obtain⟨wa,wc,rfl⟩:=b.shape;exact⟨ra,rc,wa,wc,rfl⟩
theorem G2.parts{w:L}{t:Tx}{x y z:N}(h:G2 w (sW #[x,y,z]) t):x=tE tH t.start∧Z9 w y t.reads∧QO w z t.writes:=by
 obtain⟨c,d,e,a,b⟩:=h;simp only[Value.agg.injEq,Array.mk.injEq,List.cons.injEq,and_true]at e;obtain⟨rfl,rfl,rfl⟩:=e;exact⟨rfl,a,b⟩
theorem Pp{r:Rd}(h:Xr r=0):PG r:=by
 obtain⟨b,c,a⟩:=(Em r).1 h;refine⟨by omega,by omega,?_⟩;split at a;·omega
 ·rw[a];simp
abbrev RV:=Rd×N×N×N
def Bc:RV:=(Zf,sP,sP,sP)
def Gp(us:List RV):List N:=us.flatMap fun x=>[x.2.1,x.2.2.1,tQ x.1.wide,x.2.2.2]
theorem NK(a b:List RV):Gp (a++b)=Gp a++Gp b:=by
 simp[Gp]
theorem E0:∀(us:List RV)(i:Nat),i<us.length->(Gp us)[i*4]?=O (us.getD i Bc).2.1∧(Gp us)[i*4+1]?=O (us.getD i Bc).2.2.1∧(Gp us)[i*4+2]?=O (tQ (us.getD i Bc).1.wide)∧(Gp us)[i*4+3]?=O (us.getD i Bc).2.2.2|[],i,h=>by simp at h|x::us,0,_=>⟨rfl,rfl,rfl,rfl⟩|x::us,i+1,h=>by have:=E0 us i (by simpa using h);rw[show(i+1)*4=i*4+4by omega];exact this
theorem gP:(137:Nat)≠5:=by
 decide
theorem iB:(137:Nat)≠118:=by
 decide
def ZL(rb pb:Nat)(w:L)(v:N)(l:List Rd):Prop:=∃us:List RV,us.map (·.1)=l∧w.ownsRow rb 137 4 v l.length (Gp us)∧∀x∈us,Qg pb w x.2.1 x.1.name∧Qg pb w x.2.2.1 x.1.key∧Qg pb w x.2.2.2 x.1.last
theorem Um(rb pb:Nat)(w:L):ZL rb pb w (S M 0 0) []:=⟨[],rfl,sX _ _ _ _,fun x hx=>by
 simp at hx⟩
theorem ZL.row{rb pb:Nat}{w:L}{v:N}{l:List Rd}(h:ZL rb pb w v l):v.ownBlock=M∨∃g cur fz,v.ownBlock=O g∧rb<=g∧w.heap[g]?=O (tD cur 137 fz):=by
 obtain⟨c,_,h,_⟩:=h;rcases h.2with⟨rfl,_⟩|⟨g,cap,cur,rfl,a,b,_⟩;·exact .inl rfl
 ·exact .inr ⟨g,cur,_,rfl,a,b⟩
theorem ZL.lt{rb pb:Nat}{w:L}{v:N}{l:List Rd}(h:ZL rb pb w v l):∀k,v.ownBlock=O k->rb<=k∧k<w.heap.size:=by
 obtain⟨a,_,h,_⟩:=h;exact sJ h
theorem ZL.ne{rb pb:Nat}{w:L}{v:N}{l:List Rd}(h:ZL rb pb w v l){b:Nat}{cs:Array N}{t:sB}{fz:Nat×Nat}(hb:w.heap[b]?=O (tD cs t fz))(ht:t≠137):v.ownBlock≠O b:=by
 intro e;rcases h.row with f|⟨g,c,d,i,_,a⟩;·rw[f]at e;cases e
 ·rw[i]at e;cases e;rw[hb]at a;simp only[tF,sA]at a;exact ht a.2.1
theorem ZL.kept{rb pb:Nat}{w w':L}{v:N}{l:List Rd}(h:ZL rb pb w v l){row:Option Nat}(hg:Y w w' row)(hne:v.ownBlock=M∨v.ownBlock≠row)(hrow:row=M∨∃g cur t fz,row=O g∧pb<=g∧w.heap[g]?=O (tD cur t fz)∧t≠5):ZL rb pb w' v l:=by
 obtain⟨e,c,d,a⟩:=h;exact⟨e,c,tX d hg hne,fun x b=>⟨(a x b).1.keptT hg hrow,(a x b).2.1.keptT hg hrow,(a x b).2.2.keptT hg hrow⟩⟩
theorem ZL.grownNone{rb pb:Nat}{w w':L}{v:N}{l:List Rd}(h:ZL rb pb w v l)(hg:Y w w' M):ZL rb pb w' v l:=h.kept hg (by
 cases hv:v.ownBlock with|none=>exact .inl rfl|some k=>exact .inr (by simp)) (.inl rfl)
theorem ZL.setOther{rb pb:Nat}{w:L}{v:N}{l:List Rd}(h:ZL rb pb w v l){b i:Nat}{cs:Array N}{t:sB}{fz:Nat×Nat}(hb:w.heap[b]?=O (tD cs t fz))(ht:t≠5)(ht2:t≠137)(hbb:pb<=b)(u:N):ZL rb pb (tI w ⟨b,i,M⟩ u) v l:=h.kept (YJ w b i u) (.inr (h.ne hb ht2)) (.inr ⟨b,cs,t,fz,rfl,hbb,hb,ht⟩)
theorem ZL.down{rb pb:Nat}{w:L}{v:N}{l:List Rd}(h:ZL rb pb w v l)(rb':Nat)(hb:rb'<=rb):ZL rb' pb w v l:=by
 obtain⟨i,d,c,f⟩:=h;refine⟨i,d,⟨c.1,?_⟩,f⟩;rcases c.2with h|⟨g,cap,a,e,b,rest⟩;·exact .inl h
 ·exact .inr ⟨g,cap,a,e,tS hb b,rest⟩
theorem ZL.shape{rb pb:Nat}{w:L}{v:N}{l:List Rd}(h:ZL rb pb w v l):∃a cap,v=S a l.length cap:=by
 obtain⟨d,_,h,_⟩:=h;rcases h.2with⟨rfl,c⟩|⟨g,cap,b,rfl,_⟩;·exact⟨M,0,by rw[c]⟩
 ·exact⟨_,cap,rfl⟩
theorem WN{us:List RV}{l:List Rd}(h:us.map (·.1)=l)(i:Nat)(hi:i<l.length):(us.getD i Bc).1=l.getD i Zf∧us.getD i Bc∈us:=by
 subst h;have a:i<us.length:=by simpa using hi
 refine⟨by simp[a],?_⟩;rw[show us.getD i Bc=us[i]by simp[a]];exact sM a
theorem ZL.list{rb pb:Nat}{w:L}{v:N}{l:List Rd}(h:ZL rb pb w v l):Z9 w v l:=by
 obtain⟨d,n,p,y⟩:=h;rcases p.2with⟨rfl,x⟩|⟨g,cap,e,rfl,D,z,B,E,F,C⟩;·have:l=[]:=tN x;rw[this];exact Cu w
 ·(have a:∀j u,(Gp d)[j]?=O u->w.cell? ⟨g,j,M⟩=O u:=by intro j u m;(have f:j<l.length*4:=by have:=(sN.1 m).1;rw[p.1]at this;exact this);(have b:(e.toList.take (l.length*4))[j]?=(Gp d)[j]?:=by rw[C]);rw[sF,if_pos f,m]at b;simp[tY,z];simpa using b);refine⟨_,cap,rfl,B,.inr ⟨g,0,rfl,fun i A=>?_⟩⟩;obtain⟨t,b⟩:=WN n i A;(have o:d.length=l.length:=by rw[<-n];simp);obtain⟨q,r,k,s⟩:=E0 d i (by omega);have c:=y _ b;rw[t]at k c;rw[sS];exact⟨_,_,_,a _ _ q,a _ _ r,a _ _ k,a _ _ s,c.1.1,c.2.1.1,c.2.2.1⟩
theorem Tq{rb pb:Nat}{w W w1:L}{v:N}{l:List Rd}(h:Y w W M)(ho:ZL rb pb W v l)(hb:w.heap.size<=rb)(hg:Y W w1 v.ownBlock):Y w w1 M:=⟨hg.os.trans h.os,hg.tape.trans h.tape,hg.output.trans h.output,tS h.size hg.size,fun i a b=>(hg.block i (tK a h.size) (fun e=>by
 have:=(ho.lt i e.symm).1;omega)).trans (h.block i a b)⟩
theorem gN:(tC.info? 137).map (fun i=>(i.zero,i.size,i.bytes))=O (O (sW #[S M 0 0,S M 0 0,tQ tB,S M 0 0]),4,80):=by
 kernel_rfl
def GW(w:L)(v:N)(t:Tx):Prop:=∃vr vw,v=sW #[tE tH t.start,vr,vw]∧ZL 0 0 w vr t.reads∧QW 0 0 w vw t.writes
theorem GW.is{w:L}{v:N}{t:Tx}(h:GW w v t):G2 w v t:=by
 obtain⟨c,d,rfl,a,b⟩:=h;exact⟨c,d,rfl,a.list,b.list⟩
theorem xK(w:L):GW w (sW #[tE tH 0,S M 0 0,S M 0 0]) Fr:=⟨_,_,rfl,Um 0 0 w,Xv 0 0 w⟩
def My(w:L)(b o:Nat)(s:kY):Prop:=∃vo,w.cell? ⟨b,o,M⟩=O (tE tH s.bit)∧w.cell? ⟨b,o+1,M⟩=O (tQ s.right)∧w.cell? ⟨b,o+2,M⟩=O vo∧Qe w vo s.other
theorem My.grown{w w':L}{b o:Nat}{s:kY}(h:My w b o s)(hg:Y w w' M):My w' b o s:=by
 obtain⟨f,a,c,d,e⟩:=h;exact⟨f,hg.cell a (by simp),hg.cell c (by simp),hg.cell d (by simp),e.grown hg⟩
def Gk(w:L)(v:N)(l:List kY):Prop:=∃a cap,v=S a l.length cap∧l.length<=cap∧((l=[]∧(a=M->cap=0))∨∃b o,a=O ⟨b,o,M⟩∧∀i,i<l.length->My w b (o+i*3) (l.getD i S4))
theorem Cm(w:L):Gk w (S M 0 0) []:=⟨M,0,rfl,sC _,.inl ⟨rfl,fun _=>rfl⟩⟩
theorem Gk.grown{w w':L}{v:N}{l:List kY}(h:Gk w v l)(hg:Y w w' M):Gk w' v l:=by
 obtain⟨a,cap,rfl,c,h⟩:=h;refine⟨a,cap,rfl,c,?_⟩;rcases h with h|⟨b,o,rfl,h⟩;·exact .inl h
 ·exact .inr ⟨b,o,rfl,fun i d=>(h i d).grown hg⟩
theorem Gk.shape{w:L}{v:N}{l:List kY}(h:Gk w v l):∃a cap,v=S a l.length cap:=by
 obtain⟨a,cap,rfl,_⟩:=h;exact⟨a,cap,rfl⟩
def Kz(w:L)(v:N)(p:Dy):Prop:=∃vs vk vv,v=sW #[tQ p.empty,vs,vk,vv]∧Gk w vs p.steps∧Qe w vk p.pair.1∧Qe w vv p.pair.2
theorem Kz.grown{w w':L}{v:N}{p:Dy}(h:Kz w v p)(hg:Y w w' M):Kz w' v p:=by
 obtain⟨e,d,f,rfl,a,b,c⟩:=h;exact⟨e,d,f,rfl,a.grown hg,b.grown hg,c.grown hg⟩
theorem UD{w:L}{b:Nat}{x y:N}{t:sB}(h:w.heap[b]?=O (tD #[x,y] t)):w.cell? ⟨b,0,M⟩=O x∧w.cell? ⟨b,1,M⟩=O y∧w.frozen? ⟨b,0,M⟩=tB∧w.frozen? ⟨b,1,M⟩=tB:=by
 refine⟨?_,?_,?_,?_⟩<;>simp[tY,r7,h]
theorem bX{w:L}{b:Nat}{x y:N}{t:sB}(h:w.heap[b]?=O (tD #[x,y] t))(u v:N):((tI w ⟨b,0,M⟩ u).setCell ⟨b,1,M⟩ v).heap[b]?=O (tD #[u,v] t):=by
 have a:(tI w ⟨b,0,M⟩ u).heap[b]?=O (tD #[u,y] t):=by simp only[tI,tZ,if_true,h,rO];first|rfl|simp
 rw[tI,tZ,if_pos rfl,a];first|rfl|simp
theorem Gg{w:L}{b:Nat}{x y z:N}{t:sB}(h:w.heap[b]?=O (tD #[x,y,z] t)):(w.cell? ⟨b,0,M⟩=O x∧w.cell? ⟨b,1,M⟩=O y∧w.cell? ⟨b,2,M⟩=O z)∧w.frozen? ⟨b,0,M⟩=tB∧w.frozen? ⟨b,1,M⟩=tB∧w.frozen? ⟨b,2,M⟩=tB:=by
 refine⟨⟨?_,?_,?_⟩,?_,?_,?_⟩<;>simp[tY,r7,h]
theorem EM{w:L}{b:Nat}{x y z:N}{t:sB}(h:w.heap[b]?=O (tD #[x,y,z] t))(x' y' z':N):(((tI w ⟨b,0,M⟩ x').setCell ⟨b,1,M⟩ y').setCell ⟨b,2,M⟩ z').heap[b]?=O (tD #[x',y',z'] t):=by
 have a:(tI w ⟨b,0,M⟩ x').heap[b]?=O (tD #[x',y,z] t):=by simp only[tI,tZ,if_true,h,rO];first|rfl|simp
 have c:((tI w ⟨b,0,M⟩ x').setCell ⟨b,1,M⟩ y').heap[b]?=O (tD #[x',y',z] t):=by rw[tI,tZ,if_pos rfl,a];first|rfl|simp
 rw[tI,tZ,if_pos rfl,c];first|rfl|simp
theorem P6{w w1:L}(h:Y w w1 M)(b:Nat)(hb:w.heap.size<=b)(x y z:N):Y w (((tI w1 ⟨b,0,M⟩ x).setCell ⟨b,1,M⟩ y).setCell ⟨b,2,M⟩ z) M:=Qc (Qc (Qc h _ hb _ _) _ hb _ _) _ hb _ _
def gE(w:L)(b:Nat):Prop:=∃cur t fz,w.heap[b]?=O (tD cur t fz)∧(t=5∨∃q,cur[0]?=O (tE pQ q))
def jL(w:L)(b:Nat):Prop:=∃cur t fz,w.heap[b]?=O (tD cur t fz)∧t≠5∧∀q,cur[0]?≠O (tE pQ q)
theorem gE.ne{w:L}{a b:Nat}(h:gE w a)(h':jL w b):a≠b:=by
 rintro rfl;obtain⟨f,t,l,i,c⟩:=h;obtain⟨e,m,g,d,j,k⟩:=h';rw[i]at d;simp only[tF,sA]at d;obtain⟨rfl,rfl,_⟩:=d;rcases c with c|⟨q,c⟩;·exact j c
 ·exact k q c
theorem jL.grown{w w':L}{b:Nat}(h:jL w b)(hg:Y w w' M):jL w' b:=by
 obtain⟨a,t,d,c,e⟩:=h;exact⟨a,t,d,by rw[hg.block b (tM.1 c).1 (by simp)];exact c,e⟩
theorem jL.set{w:L}{c:Nat}(h:jL w c)(i:Nat)(u:N)(hu:∀q,u≠tE pQ q):jL (tI w ⟨c,i,M⟩ u) c:=by
 obtain⟨b,t,d,e,f,g⟩:=h;refine⟨b.setIfInBounds i u,t,d,?_,f,fun q a=>?_⟩;·simp only[tI,tZ,if_true,e,rO];first|rfl|simp
 ·rw[Array.getElem?_setIfInBounds]at a;split at a;(·split at a;(·simp at a;exact hu q a);·cases a);·exact g q a
theorem MA{w:L}{c:Nat}{x:N}{xs:List N}{t:sB}{fz:Nat×Nat}(h:w.heap[c]?=O (tD ⟨x::xs⟩ t fz))(ht:t≠5)(hx:∀q,x≠tE pQ q):jL w c:=⟨_,t,fz,h,ht,fun q a=>by
 simp at a;exact hx q a⟩
def XV(w:L)(v:N)(bs:List UInt8):Prop:=Qe w v bs∧(bs=[]∨∃b,v.ownBlock=O b∧b<w.heap.size∧gE w b)
theorem gV:(190:Nat)≠5:=by
 decide
theorem UA(w:L):XV w (S M 0 0) []:=⟨QH _,.inl rfl⟩
theorem Q7.partS{base':Nat}{w:L}{v:N}{bs:List UInt8}(h:Q7 base' w v bs):XV w v bs:=by
 refine⟨h.slice,?_⟩;rcases h.2with⟨rfl,c⟩|⟨g,cap,a,rfl,d,b,_⟩;·exact .inl (tN c)
 ·exact .inr ⟨g,rfl,(tM.1 b).1,a,_,_,b,.inl rfl⟩
theorem ZJ.partS{w:L}{nb:Nat}{bs:List UInt8}(h:ZJ w nb bs)(hl:bs.length=32):XV w (S (O ⟨nb,0,M⟩) 32 32) bs:=by
 refine⟨h.slice32 hl,.inr ⟨nb,rfl,VC (h.cell 0 (by omega)),?_⟩⟩;have b:=h.cell 0 (by omega);obtain⟨t,a⟩:=h;refine⟨_,t,_,a,.inr ⟨((bs.getD 0 0).toNat:Int),?_⟩⟩;·simpa[tY,a]using b
theorem Eh{w:L}{v:N}{bs:List UInt8}(h:XV w v bs):v.oneCell'=tA:=by
 obtain⟨⟨a,cap,rfl,_⟩,_⟩:=h;rfl
def iE(w:L)(row:Option Nat):Prop:=row=M∨∃g,row=O g∧jL w g
theorem XV.kept{w w':L}{v:N}{bs:List UInt8}(h:XV w v bs){row:Option Nat}(hg:Y w w' row)(hrow:iE w row):XV w' v bs:=by
 obtain⟨r,x⟩:=h;rcases x with rfl|⟨b,l,f,c⟩;·obtain⟨a,cap,rfl,c,h⟩:=r;refine⟨⟨a,cap,rfl,c,?_⟩,.inl rfl⟩;rcases h with h|⟨b,o,rfl,h⟩;(·exact .inl h);·exact .inr ⟨b,o,rfl,fun i q=>by simp at q⟩
 ·(have j:O b≠row:=by intro e;rcases hrow with rfl|⟨g,rfl,p⟩;(·cases e);·cases e;exact c.ne p rfl);have d:=hg.block b f j;refine⟨?_,.inr ⟨b,l,tK f hg.size,?_⟩⟩;(·obtain⟨a,cap,rfl,n,h⟩:=r;refine⟨a,cap,rfl,n,?_⟩;rcases h with h|⟨s,o,rfl,h⟩;(·exact .inl h);·refine .inr ⟨s,o,rfl,fun i q=>?_⟩;simp[pK]at l;subst l;exact hg.cell (h i q) (by simpa using j));·obtain⟨k,t,u,c,m⟩:=c;exact⟨k,t,u,by rw[d];exact c,m⟩
theorem XV.grown{w w':L}{v:N}{bs:List UInt8}(h:XV w v bs)(hg:Y w w' M):XV w' v bs:=h.kept hg (.inl rfl)
theorem XV.set{w:L}{v:N}{bs:List UInt8}(h:XV w v bs){c:Nat}(hc:jL w c)(i:Nat)(u:N):XV (tI w ⟨c,i,M⟩ u) v bs:=h.kept (Qf (Qb _ (O c)) i u) (.inr ⟨c,rfl,hc⟩)
abbrev SV:=kY×N
def Hj:SV:=(S4,sP)
def Uj(us:List SV):List N:=us.flatMap fun x=>[tE tH x.1.bit,tQ x.1.right,x.2]
theorem MD(a b:List SV):Uj (a++b)=Uj a++Uj b:=by
 simp[Uj]
theorem Nz:∀(us:List SV)(i:Nat),i<us.length->(Uj us)[i*3]?=O (tE tH (us.getD i Hj).1.bit)∧(Uj us)[i*3+1]?=O (tQ (us.getD i Hj).1.right)∧(Uj us)[i*3+2]?=O (us.getD i Hj).2|[],i,h=>by simp at h|x::r,0,_=>by simp[Uj]|x::r,i+1,h=>by have:=Nz r i (by simpa using h);rw[show(i+1)*3=i*3+3by omega,show i*3+3+1=(i*3+1)+3by omega,show i*3+3+2=(i*3+2)+3by omega];simpa[Uj]using this
theorem Hr(us:List SV):∀u∈Uj us,(∀x∈us,x.2.oneCell'=tA)->u.oneCell'=tA:=by
 intro u a h;obtain⟨x,b,a⟩:=List.mem_flatMap.1 a;simp only[tP,tU,or_false]at a;rcases a with rfl|rfl|rfl;·rfl
 ·rfl
 ·exact h x b
def JH(base:Nat)(w:L)(v:N)(l:List kY):Prop:=∃us:List SV,us.map (·.1)=l∧w.ownsRow base 190 3 v l.length (Uj us)∧(∀x∈us,XV w x.2 x.1.other)∧(l=[]->v=S M 0 0)
theorem uS(base:Nat)(w:L):JH base w (S M 0 0) []:=⟨[],rfl,sX _ _ _ _,fun x hx=>by
 simp at hx,fun _=>rfl⟩
theorem JH.row{base:Nat}{w:L}{v:N}{l:List kY}(h:JH base w v l):iE w v.ownBlock:=by
 obtain⟨b,c,h,_,d⟩:=h;cases l with|nil=>rw[d rfl];exact .inl rfl|cons x r=>rcases h.2with⟨rfl,_⟩|⟨g,cap,a,rfl,j,f,k,_,_,i⟩;(·exact .inl rfl);·refine .inr ⟨g,rfl,a,_,_,f,gV,fun q=>?_⟩;cases b with|nil=>simp at c|cons u b=>simp only[List.map_cons,List.cons.injEq]at c;(have e:(a.toList.take ((x::r).length*3))[0]?=(Uj (u::b))[0]?:=by rw[i]);rw[sF,if_pos (by simp)]at e;rw[<-pB,e];simp[Uj]
theorem JH.lt{base:Nat}{w:L}{v:N}{l:List kY}(h:JH base w v l):∀k,v.ownBlock=O k->base<=k∧k<w.heap.size:=by
 obtain⟨a,_,h,_⟩:=h;exact sJ h
theorem JH.grownNone{base:Nat}{w w':L}{v:N}{l:List kY}(h:JH base w v l)(hg:Y w w' M):JH base w' v l:=by
 obtain⟨f,a,b,c,d⟩:=h;refine⟨f,a,tX b hg ?_,fun x e=>(c x e).grown hg,d⟩;cases hv:v.ownBlock with|none=>exact .inl rfl|some k=>exact .inr (by simp)
theorem JH.alloc{base:Nat}{w:L}{v:N}{l:List kY}(h:JH base w v l)(o:Obj):JH base (w.alloc o) v l:=h.grownNone (rA _ _ _)
theorem JH.shape{base:Nat}{w:L}{v:N}{l:List kY}(h:JH base w v l):∃a cap,v=S a l.length cap:=by
 obtain⟨d,_,h,_⟩:=h;rcases h.2with⟨rfl,c⟩|⟨g,cap,b,rfl,_⟩;·exact⟨M,0,by rw[c]⟩
 ·exact⟨_,cap,rfl⟩
theorem JH.cells{base:Nat}{w:L}{g n cap:Nat}{us:List SV}{k:Nat}(hr:w.ownsRow base 190 3 (S (O ⟨g,0,M⟩) n cap) k (Uj us)):∀j u,(Uj us)[j]?=O u->w.cell? ⟨g,j,M⟩=O u:=by
 intro j u f;rcases hr.2with⟨e,_⟩|⟨l,c,a,e,m,h,p,o,q,i⟩;·cases e
 ·simp only[tL,tF,rJ]at e;obtain⟨⟨rfl,_⟩,_,_⟩:=e;(have b:j<k*3:=by have:=(sN.1 f).1;rw[hr.1]at this;exact this);(have d:(a.toList.take (k*3))[j]?=(Uj us)[j]?:=by rw[i]);rw[sF,if_pos b,f]at d;simp[tY,h];simpa using d
theorem OW{us:List SV}{l:List kY}(h:us.map (·.1)=l)(i:Nat)(hi:i<l.length):(us.getD i Hj).1=l.getD i S4∧us.getD i Hj∈us:=by
 subst h;have a:i<us.length:=by simpa using hi
 constructor;·simp[a]
 ·rw[show us.getD i Hj=us[i]by simp[a]];exact sM _
theorem JH.list{base:Nat}{w:L}{v:N}{l:List kY}(h:JH base w v l):Gk w v l:=by
 obtain⟨f,d,a,p,_⟩:=h;have s:f.length=l.length:=by rw[<-d];simp
 rcases a.2with⟨rfl,o⟩|⟨g,cap,k,rfl,t,u,r,x,y,z⟩;·have:l=[]:=tN o;subst this;exact Cm w
 ·refine⟨_,cap,rfl,r,.inr ⟨g,0,rfl,fun i q=>?_⟩⟩;obtain⟨m,n⟩:=OW d i q;obtain⟨b,c,j⟩:=Nz f i (by omega);have e:=p _ n;rw[m]at b c e;rw[sS];exact⟨_,JH.cells a _ _ b,JH.cells a _ _ c,JH.cells a _ _ j,e.1⟩
theorem JH.set{base:Nat}{w:L}{v:N}{l:List kY}(h:JH base w v l){c:Nat}(hc:jL w c)(hne:c<base)(i:Nat)(u:N):JH base (tI w ⟨c,i,M⟩ u) v l:=by
 have a:=h.lt;obtain⟨j,b,d,e,f⟩:=h;refine⟨j,b,tX d (Qf (Qb _ (O c)) i u) ?_,fun x g=>(e x g).set hc i u,f⟩;cases hv:v.ownBlock with|none=>exact .inl rfl|some k=>exact .inr (by have:=(a k hv).1;simp;omega)
theorem fR:(37:Nat)≠5:=by
 decide
theorem iJ:(35:Nat)≠5:=by
 decide
theorem Vy{W:L}{pb:Nat}{x y:N}(h:W.heap[pb]?=O (tD #[x,y] 35))(hx:∀q,x≠tE pQ q)(ua va:Option rD)(un uc vn vc:Nat){z:N}{bs:List UInt8}(hz:XV W z bs):XV ((tI W ⟨pb,0,M⟩ (S ua un uc)).setCell ⟨pb,1,M⟩ (S va vn vc)) z bs:=have a:jL W pb:=MA (xs:=[y]) h iJ hx;have b:=a.set 0 (S ua un uc) (fun q=>by
 simp);(hz.set a 0 _).set b 1 _
theorem XV.quad{w:L}{v:N}{bs:List UInt8}(h:XV w v bs){c:Nat}(hc:jL w c){e:Bool}{sa:Option rD}{sn sc:Nat}{ka va:Option rD}{kn kc vn vc:Nat}:XV ((((tI w ⟨c,0,M⟩ (tQ e)).setCell ⟨c,1,M⟩ (S sa sn sc)).setCell ⟨c,2,M⟩ (S ka kn kc)).setCell ⟨c,3,M⟩ (S va vn vc)) v bs:=have a:=hc.set 0 (tQ e) (fun q=>by
 simp);have b:=a.set 1 (S sa sn sc) (fun q=>by
 simp);have d:=b.set 2 (S ka kn kc) (fun q=>by
 simp);(((h.set hc 0 _).set a 1 _).set b 2 _).set d 3 _
theorem JH.quad{base:Nat}{w:L}{v:N}{l:List kY}(h:JH base w v l){c:Nat}(hc:jL w c)(hne:c<base){e:Bool}{sa:Option rD}{sn sc:Nat}{ka va:Option rD}{kn kc vn vc:Nat}:JH base ((((tI w ⟨c,0,M⟩ (tQ e)).setCell ⟨c,1,M⟩ (S sa sn sc)).setCell ⟨c,2,M⟩ (S ka kn kc)).setCell ⟨c,3,M⟩ (S va vn vc)) v l:=have a:=hc.set 0 (tQ e) (fun q=>by
 simp);have b:=a.set 1 (S sa sn sc) (fun q=>by
 simp);have d:=b.set 2 (S ka kn kc) (fun q=>by
 simp);(((h.set hc hne 0 _).set a hne 1 _).set b hne 2 _).set d hne 3 _
def Zw(n:Nat)(w:L)(v:N)(p:Dy):Prop:=∃base vs vk vv,v=sW #[tQ p.empty,vs,vk,vv]∧n<=base∧base<=w.heap.size∧JH base w vs p.steps∧XV w vk p.pair.1∧XV w vv p.pair.2
theorem Zw.is{n:Nat}{w:L}{v:N}{p:Dy}(h:Zw n w v p):Kz w v p:=by
 obtain⟨a,f,e,g,rfl,_,_,b,c,d⟩:=h;exact⟨f,e,g,rfl,b.list,c.1,d.1⟩
theorem AI{base:Nat}{w W w1:L}{v:N}{l:List kY}(h:Y w W M)(ho:JH base W v l)(hb:w.heap.size<=base)(hg:Y W w1 v.ownBlock):Y w w1 M:=⟨hg.os.trans h.os,hg.tape.trans h.tape,hg.output.trans h.output,tS h.size hg.size,fun i a b=>(hg.block i (tK a h.size) (fun e=>by
 have:=(ho.lt i e.symm).1;omega)).trans (h.block i a b)⟩
theorem Og:(tC.info? 190).map (fun i=>(i.zero,i.size,i.bytes))=O (O (sW #[tE tH 0,tQ tB,S M 0 0]),3,40):=by
 kernel_rfl
theorem Rb{w:L}{o:rP}{a:Act}{K:Act->L->Prop}{Q:Exit->Act->L->Prop}(s x:rK)(ho:o.op=.call {callee:=.builtin .append,args:=#[s,x],argTypes:=#[33,33]})(base:Nat)(v:N)(l:List kY)(hs:a.eval s=v)(hown:JH base w v l)(vo:N)(p:kY)(hk:XV w vo p.other)(nb:Nat)(hb:∀j u,[tE tH p.bit,tQ p.right,vo][j]?=O u->w.cell? ⟨nb,j,M⟩=O u)(hx:a.eval x=S (O ⟨nb,0,M⟩) 1 1)(hl:(l.length+1)*40<=140737488355328)(hbase:base<=w.heap.size)(h:∀v' w',JH base w' v' (l++[p])->Y w w' v.ownBlock->K (a.put o.dst v') w'):o.wp tC a w K Q:=by
 obtain⟨B,q,g,i,k⟩:=pD Og;have c:=hown.row;obtain⟨m,f,z,t,_⟩:=hown;refine wp_append_own w s x 33 ho base 190 B (sW #[tE tH 0,tQ tB,S M 0 0]) 3 40 Tryz.underlying33 q g i k rfl (by decide) v l.length (Uj m) hs z ⟨nb,0,M⟩ 1 1 (Uj [(p,vo)]) hx rfl ?_ ?_ (by unfold pN;omega) hl hbase ?_;·intro j u r;rw[Z6,sS];exact hb j u (by simpa[Uj]using r)
 ·intro u A;exact Hr _ u A fun y b=>by simp at b;subst b;exact Eh hk
 ·intro v' w' n d _;refine h _ w' ⟨m++[(p,vo)],by simp[f],?_,?_,fun e=>by simp at e⟩ d;(·rw[MD,tG];exact n);·intro y b;rcases sD.1 b with b|b;(·exact(t y b).kept d c);·simp at b;subst b;exact hk.kept d c
theorem kR{w:L}{ops:Array rP}{rest:List rP}{o:rP}{a:Act}{Q:Exit->Act->L->Prop}(hgd:o.guard=M)(s x:rK)(ho:o.op=.call {callee:=.builtin .append,args:=#[s,x],argTypes:=#[33,33]})(base:Nat)(v:N)(l:List kY)(hs:a.eval s=v)(hown:JH base w v l)(vo:N)(p:kY)(hk:XV w vo p.other)(nb:Nat)(hb:∀j u,[tE tH p.bit,tQ p.right,vo][j]?=O u->w.cell? ⟨nb,j,M⟩=O u)(hx:a.eval x=S (O ⟨nb,0,M⟩) 1 1)(hl:(l.length+1)*40<=140737488355328)(hbase:base<=w.heap.size)(h:∀v' w',JH base w' v' (l++[p])->Y w w' v.ownBlock->wpList tC ops Q rest (a.put o.dst v') w'):wpList tC ops Q (o::rest) a w:=wpList_plain hgd fun _ d=>Rb s x ho base v l hs hown vo p hk nb hb hx hl hbase fun v' w' b c=>d _ _ (h v' w' b c)
theorem Hv{w:L}{nb:Nat}{p:kY}{vo:N}{t:sB}(h:w.heap[nb]?=O (tD #[tE tH p.bit,tQ p.right,vo] t)):∀j u,[tE tH p.bit,tQ p.right,vo][j]?=O u->w.cell? ⟨nb,j,M⟩=O u:=by
 intro j u a;simp[tY,h];simpa using a
def eX:N->Nat|S _ n _=>n|_=>0
def Pd(t:sB):Prop:=t=79∨t=39∨t=131∨t=44∨t=3
def S5(B:Nat)(w:L)(i:Nat):Prop:=i<B∨∀cs t fz,w.heap[i]?=O (tD cs t fz)->(¬Pd t∨∃q,cs[0]?=O (tE pQ q))
structure Kp (B : Nat) (w w' : L) : Prop where
  os : w'.os = w.os
  tape : w'.tape = w.tape
  output : w'.output = w.output
  size : w.heap.size <= w'.heap.size
  keep : ∀ i, i < w.heap.size -> S5 B w i -> w'.heap[i]? = w.heap[i]?
theorem Kp.refl(B:Nat)(w:L):Kp B w w:=⟨rfl,rfl,rfl,sC _,fun _ _ _=>rfl⟩
theorem S5.same{B:Nat}{w w':L}{i:Nat}(h:S5 B w i)(e:w'.heap[i]?=w.heap[i]?):S5 B w' i:=by
 rcases h with h|h;·exact .inl h
 ·exact .inr fun a t b c=>h a t b (by rw[<-e];exact c)
theorem Kp.trans{B:Nat}{w w1 w2:L}(h:Kp B w w1)(k:Kp B w1 w2):Kp B w w2:=⟨k.os.trans h.os,k.tape.trans h.tape,k.output.trans h.output,tS h.size k.size,fun i a b=>by
 have e:=h.keep i a b;exact(k.keep i (tK a h.size) (b.same e)).trans e⟩
theorem Kp.grown{B:Nat}{w w':L}(h:Y w w' M):Kp B w w':=⟨h.os,h.tape,h.output,h.size,fun i hi _=>h.block i hi (by
 simp)⟩
theorem Kp.turn{B:Nat}{w w':L}{g:Nat}{cs:Array N}{t:sB}{fz:Nat×Nat}(h:Y w w' (O g))(hB:B<=g)(hb:w.heap[g]?=O (tD cs t fz))(ht:Pd t)(h0:∀q,cs[0]?≠O (tE pQ q)):Kp B w w':=⟨h.os,h.tape,h.output,h.size,fun i c a=>by
 refine h.block i c fun e=>?_;cases e;rcases a with a|a;·omega
 ·rcases a cs t fz hb with b|⟨q,b⟩;(·exact b ht);·exact h0 q b⟩
theorem Kp.low{B:Nat}{w w':L}(h:Kp B w w')(w0:L)(hg:Y w0 w M)(hB:w0.heap.size<=B):Y w0 w' M:=⟨h.os.trans hg.os,h.tape.trans hg.tape,h.output.trans hg.output,tS hg.size h.size,fun i a b=>(h.keep i (tK a hg.size) (.inl (by
 omega))).trans (hg.block i a b)⟩
def VT(t:sB):Prop:=t=5∨t=35∨t=55∨t=118∨t=137∨t=190
def zU(t:sB):Prop:=¬VT t
theorem Pd.two{t:sB}(h:Pd t):zU t:=by
 rcases h with rfl|rfl|rfl|rfl|rfl<;>simp[zU,VT]
def Mu(B:Nat)(w:L)(i:Nat):Prop:=i<B∨∀cs t fz,w.heap[i]?=O (tD cs t fz)->(¬zU t∨∃q,cs[0]?=O (tE pQ q))
structure Bb (B : Nat) (w w' : L) : Prop where
  os : w'.os = w.os
  tape : w'.tape = w.tape
  output : w'.output = w.output
  size : w.heap.size <= w'.heap.size
  keep : ∀ i, i < w.heap.size -> Mu B w i -> w'.heap[i]? = w.heap[i]?
theorem Kp.two{B C:Nat}{w w':L}(h:Kp B w w')(hC:C<=B):Bb C w w':=⟨h.os,h.tape,h.output,h.size,fun i g a=>h.keep i g (by
 rcases a with a|a;·exact .inl (tK a hC)
 ·exact .inr fun b t c f=>(a b t c f).imp (fun d e=>d e.two) id)⟩
theorem Bb.refl(B:Nat)(w:L):Bb B w w:=⟨rfl,rfl,rfl,sC _,fun _ _ _=>rfl⟩
theorem Mu.same{B:Nat}{w w':L}{i:Nat}(h:Mu B w i)(e:w'.heap[i]?=w.heap[i]?):Mu B w' i:=by
 rcases h with h|h;·exact .inl h
 ·exact .inr fun a t b c=>h a t b (by rw[<-e];exact c)
theorem Bb.trans{B:Nat}{w w1 w2:L}(h:Bb B w w1)(k:Bb B w1 w2):Bb B w w2:=⟨k.os.trans h.os,k.tape.trans h.tape,k.output.trans h.output,tS h.size k.size,fun i a b=>by
 have e:=h.keep i a b;exact(k.keep i (tK a h.size) (b.same e)).trans e⟩
theorem Bb.grown{B:Nat}{w w':L}(h:Y w w' M):Bb B w w':=⟨h.os,h.tape,h.output,h.size,fun i hi _=>h.block i hi (by
 simp)⟩
def Ln(w:L)(i:Nat):Prop:=∀cs t fz,w.heap[i]?=O (tD cs t fz)->(VT t∨t=39∨∃q,cs[0]?=O (tE pQ q))
structure KL (w w' : L) : Prop where
  os : w'.os = w.os
  tape : w'.tape = w.tape
  output : w'.output = w.output
  size : w.heap.size <= w'.heap.size
  keep : ∀ i, i < w.heap.size -> Ln w i -> w'.heap[i]? = w.heap[i]?
theorem KL.two{w w':L}(h:KL w w'):Bb 0 w w':=⟨h.os,h.tape,h.output,h.size,fun i f a=>h.keep i f fun c t d e=>by
 rcases a with a|a;·omega
 ·rcases a c t d e with b|b;(·exact .inl (sV b));·exact .inr (.inr b)⟩
theorem KL.refl(w:L):KL w w:=⟨rfl,rfl,rfl,sC _,fun _ _ _=>rfl⟩
theorem Ln.same{w w':L}{i:Nat}(h:Ln w i)(e:w'.heap[i]?=w.heap[i]?):Ln w' i:=fun cs t fz hc=>h cs t fz (by
 rw[<-e];exact hc)
theorem KL.trans{w w1 w2:L}(h:KL w w1)(k:KL w1 w2):KL w w2:=⟨k.os.trans h.os,k.tape.trans h.tape,k.output.trans h.output,tS h.size k.size,fun i a b=>by
 have e:=h.keep i a b;exact(k.keep i (tK a h.size) (b.same e)).trans e⟩
theorem KL.grown{w w':L}(h:Y w w' M):KL w w':=⟨h.os,h.tape,h.output,h.size,fun i hi _=>h.block i hi (by
 simp)⟩
theorem KL.turn{w w':L}{row:Option Nat}(h:Y w w' row)(hr:∀g,row=O g->∃cs t fz,w.heap[g]?=O (tD cs t fz)∧¬VT t∧t≠39∧∀q,cs[0]?≠O (tE pQ q)):KL w w':=⟨h.os,h.tape,h.output,h.size,fun i j k=>by
 refine h.block i j fun e=>?_;obtain⟨cs,t,fz,f,b,c,d⟩:=hr i e.symm;rcases k cs t fz f with a|a|⟨q,a⟩;·exact b a
 ·exact c a
 ·exact d q a⟩
def JX(w:L)(P:L->Prop):Prop:=∀w',KL w w'->P w'
theorem JX.now{w:L}{P:L->Prop}(h:JX w P):P w:=h w (KL.refl w)
theorem JX.later{w w':L}{P:L->Prop}(h:JX w P)(k:KL w w'):JX w' P:=fun w2 k2=>h w2 (k.trans k2)
theorem JX.grown{w w':L}{P:L->Prop}(h:JX w P)(k:Y w w' M):JX w' P:=h.later (KL.grown k)
def qN(w:L)(P:L->Prop):Prop:=∀w',Y w w' M->P w'
theorem qN.now{w:L}{P:L->Prop}(h:qN w P):P w:=h w (Qb w M)
theorem qN.grown{w w':L}{P:L->Prop}(h:qN w P)(k:Y w w' M):qN w' P:=fun w2 k2=>h w2 (Qa k k2)
def Zc(B:Nat)(w:L)(P:L->Prop):Prop:=∀w',Bb B w w'->P w'
theorem Zc.now{B:Nat}{w:L}{P:L->Prop}(h:Zc B w P):P w:=h w (Bb.refl B w)
theorem Zc.later{B C:Nat}{w w':L}{P:L->Prop}(h:Zc C w P)(k:Kp B w w')(hC:C<=B:=by
 first|exact Nat.zero_le _|exact Nat.le_refl _):Zc C w' P:=fun b a=>h b ((k.two hC).trans a)
theorem Zc.later2{C:Nat}{w w':L}{P:L->Prop}(h:Zc C w P)(k:Bb C w w'):Zc C w' P:=fun w2 k2=>h w2 (k.trans k2)
theorem Zc.grown{C:Nat}{w w':L}{P:L->Prop}(h:Zc C w P)(k:Y w w' M):Zc C w' P:=h.later2 (Bb.grown k)
theorem Zc.mono{B:Nat}{w:L}{P Q:L->Prop}(h:Zc B w P)(k:∀w',P w'->Q w'):Zc B w Q:=fun w' h'=>k w' (h w' h')
theorem Vs{w w':L}{v:N}{bs:List UInt8}(h:Qe w v bs)(hb:bs=[]∨∃b,v.ownBlock=O b∧w'.heap[b]?=w.heap[b]?):Qe w' v bs:=by
 obtain⟨a,cap,rfl,d,h⟩:=h;refine⟨a,cap,rfl,d,?_⟩;rcases h with h|⟨b,o,rfl,h⟩;·exact .inl h
 ·refine .inr ⟨b,o,rfl,fun i c=>?_⟩;rcases hb with rfl|⟨f,e,hb⟩;(·simp at c);·simp[pK]at e;subst e;rw[sQ hb];exact h i c
theorem iF:¬zU 5:=by
 simp[zU,VT]
theorem ZZ{B:Nat}{w:L}{v:N}{bs:List UInt8}(h:Qg 0 w v bs):Zc B w (fun w=>Qg 0 w v bs):=fun m k=>by
 obtain⟨i,a⟩:=h;rcases a with a|⟨b,e,j,a⟩;·exact⟨Vs i (.inl a),.inl a⟩
 ·(obtain⟨c,d,a⟩:∃c d,w.heap[b]?=O (tD c 5 d):=by rcases a with a|a;(·omega);·exact a);have l:m.heap[b]?=w.heap[b]?:=k.keep b j (.inr fun n t f g=>.inl (by rw[a]at g;simp only[tF,sA]at g;rw[<-g.2.1];exact iF));exact⟨Vs i (.inr ⟨b,e,l⟩),.inr ⟨b,e,tK j k.size,.inr ⟨c,d,by rw[l];exact a⟩⟩⟩
theorem Gq{B:Nat}{w:L}{v:N}{bs:List UInt8}(h:XV w v bs):Zc B w (fun w=>XV w v bs):=fun n k=>by
 obtain⟨i,a⟩:=h;rcases a with a|⟨b,e,j,d,t,m,a,c⟩;·exact⟨Vs i (.inl a),.inl a⟩
 ·have l:n.heap[b]?=w.heap[b]?:=k.keep b j (.inr fun o p f g=>by rw[a]at g;simp only[tF,sA]at g;obtain⟨rfl,rfl,_⟩:=g;rcases c with rfl|c;(·exact .inl iF);·exact .inr c);exact⟨Vs i (.inr ⟨b,e,l⟩),.inr ⟨b,e,tK j k.size,d,t,m,by rw[l];exact a,c⟩⟩
theorem UT{B base:Nat}{w:L}{t:sB}{n m:Nat}{v:N}{xs:List N}(h:w.ownsRow base t n v m xs)(ht:¬zU t):Zc B w (fun w=>w.ownsRow base t n v m xs):=fun l k=>by
 refine⟨h.1,?_⟩;rcases h.2with h|⟨g,cap,a,e,d,c,rest⟩;·exact .inl h
 ·refine .inr ⟨g,cap,a,e,d,?_,rest⟩;rw[k.keep g (tM.1 c).1 (.inr fun i j f b=>.inl (by rw[c]at b;simp only[tF,sA]at b;rw[<-b.2.1];exact ht))];exact c
theorem Aq{B rb:Nat}{w:L}{v:N}{l:List Rd}(h:ZL rb 0 w v l):Zc B w (fun w=>ZL rb 0 w v l):=fun a k=>by
 obtain⟨f,d,e,b⟩:=h;exact⟨f,d,UT e (by simp[zU,VT]) a k,fun x c=>⟨ZZ (b x c).1 a k,ZZ (b x c).2.1 a k,ZZ (b x c).2.2 a k⟩⟩
theorem Bx{B rb:Nat}{w:L}{v:N}{l:List Q8}(h:QW rb 0 w v l):Zc B w (fun w=>QW rb 0 w v l):=fun a k=>by
 obtain⟨f,d,e,b⟩:=h;exact⟨f,d,UT e (by simp[zU,VT]) a k,fun x c=>⟨ZZ (b x c).1 a k,ZZ (b x c).2.1 a k,ZZ (b x c).2.2 a k⟩⟩
theorem Vz{B:Nat}{w:L}{v:N}{l:PL}(h:QJ 0 w v l):Zc B w (fun w=>QJ 0 w v l):=fun m k=>by
 obtain⟨a,cap,rfl,e,h⟩:=h;refine⟨a,cap,rfl,e,?_⟩;rcases h with h|⟨b,o,rfl,c,h⟩;·exact .inl h
 ·(obtain⟨d,g,c⟩:∃d g,w.heap[b]?=O (tD d 35 g):=by rcases c with c|c;(·omega);·exact c);have j:m.heap[b]?=w.heap[b]?:=k.keep b (tM.1 c).1 (.inr fun y t f e=>.inl (by rw[c]at e;simp only[tF,sA]at e;rw[<-e.2.1];simp[zU,VT]));refine .inr ⟨b,o,rfl,.inr ⟨d,g,by rw[j];exact c⟩,fun i s=>?_⟩;obtain⟨u,x,n,p,q,r⟩:=h i s;exact⟨u,x,by rw[sQ j];exact n,by rw[sQ j];exact p,ZZ q m k,ZZ r m k⟩
theorem BL{B rb:Nat}{w:L}{v:N}{l:FL}(h:Zx rb w v l):Zc B w (fun w=>Zx rb w v l):=fun a k=>by
 obtain⟨f,d,e,b⟩:=h;exact⟨f,d,UT e (by simp[zU,VT]) a k,fun i c=>⟨ZZ (b i c).1 a k,Vz (b i c).2 a k⟩⟩
theorem RZ{B:Nat}{w:L}{v:N}{l:List Q8}(h:Xm 0 w v l):Zc B w (fun w=>Xm 0 w v l):=fun j k=>by
 obtain⟨a,cap,rfl,e,h⟩:=h;refine⟨a,cap,rfl,e,?_⟩;rcases h with h|⟨b,o,rfl,c,h⟩;·exact .inl h
 ·(obtain⟨d,m,c⟩:∃d m,w.heap[b]?=O (tD d 118 m):=by rcases c with c|c;(·omega);·exact c);have g:j.heap[b]?=w.heap[b]?:=k.keep b (tM.1 c).1 (.inr fun D t f e=>.inl (by rw[c]at e;simp only[tF,sA]at e;rw[<-e.2.1];simp[zU,VT]));refine .inr ⟨b,o,rfl,.inr ⟨d,m,by rw[g];exact c⟩,fun i y=>?_⟩;obtain⟨A,z,C,n,p,q,r,s,u,x⟩:=h i y;exact⟨A,z,C,by rw[sQ g];exact n,by rw[sQ g];exact p,by rw[sQ g];exact q,by rw[sQ g];exact r,ZZ s j k,ZZ u j k,ZZ x j k⟩
theorem Pf{B:Nat}{w:L}{v:N}{t:Tx}(h:GW w v t):Zc B w (fun w=>GW w v t):=fun a k=>by
 obtain⟨d,e,rfl,b,c⟩:=h;exact⟨d,e,rfl,Aq b a k,Bx c a k⟩
theorem Sa{B base:Nat}{w:L}{v:N}{l:List kY}(h:JH base w v l):Zc B w (fun w=>JH base w v l):=fun a k=>by
 obtain⟨g,b,c,d,e⟩:=h;exact⟨g,b,UT c (by simp[zU,VT]) a k,fun x f=>Gq (d x f) a k,e⟩
theorem yJ{B n:Nat}{w:L}{v:N}{p:Dy}(h:Zw n w v p):Zc B w (fun w=>Kz w v p):=fun a k=>by
 obtain⟨b,g,f,i,rfl,_,_,c,d,e⟩:=h;exact⟨g,f,i,rfl,(Sa c a k).list,(Gq d a k).1,(Gq e a k).1⟩
section
section
variable{α:Type}{T:sB}{k:Nat}{P:L->List N->α->Prop}{B:Nat}{w w':L}{v:N}{l:List α}
def Jw(T:sB)(k:Nat)(P:L->List N->α->Prop)(B:Nat)(w:L)(v:N)(l:List α):Prop:=∃us:List (List N×α),us.map (·.2)=l∧w.ownsRow B T k v l.length (us.flatMap (·.1))∧(l=[]->v=S M 0 0)∧∀x∈us,x.1.length=k∧(∀u∈x.1,u.oneCell'=tA)∧(∀q,x.1[0]?≠O (tE pQ q))∧Zc 0 w (fun w=>P w x.1 x.2)
theorem vH(T:sB)(k:Nat)(P:L->List N->α->Prop)(B:Nat)(w:L):Jw T k P B w (S M 0 0) []:=⟨[],rfl,sX _ _ _ _,fun _=>rfl,fun x a=>by
 simp at a⟩
theorem Jw.kept(h:Jw T k P B w v l)(hk:Kp B w w')(hs:∀g,v.ownBlock=O g->w'.heap[g]?=w.heap[g]?):Jw T k P B w' v l:=by
 obtain⟨m,e,d,f,a⟩:=h;refine⟨m,e,⟨d.1,?_⟩,f,fun x b=>⟨(a x b).1,(a x b).2.1,(a x b).2.2.1,(a x b).2.2.2.later hk⟩⟩;rcases d.2with h|⟨g,cap,c,rfl,i,j,rest⟩;·exact .inl h
 ·exact .inr ⟨g,cap,c,rfl,i,by rw[hs g rfl];exact j,rest⟩
theorem Jw.kept2(h:Jw T k P B w v l)(hk:Bb 0 w w')(hs:∀g,v.ownBlock=O g->w'.heap[g]?=w.heap[g]?):Jw T k P B w' v l:=by
 obtain⟨m,e,d,f,a⟩:=h;refine⟨m,e,⟨d.1,?_⟩,f,fun x b=>⟨(a x b).1,(a x b).2.1,(a x b).2.2.1,(a x b).2.2.2.later2 hk⟩⟩;rcases d.2with h|⟨g,cap,c,rfl,i,j,rest⟩;·exact .inl h
 ·exact .inr ⟨g,cap,c,rfl,i,by rw[hs g rfl];exact j,rest⟩
theorem Jw.lt(h:Jw T k P B w v l):∀g,v.ownBlock=O g->B<=g∧g<w.heap.size:=by
 obtain⟨e,b,a,c,d⟩:=h;exact sJ a
theorem Jw.grown(h:Jw T k P B w v l)(hg:Y w w' M):Jw T k P B w' v l:=h.kept (Kp.grown hg) fun g e=>hg.block g (h.lt g e).2 (by
 simp)
theorem Jw.shape(h:Jw T k P B w v l):∃a cap,v=S a l.length cap:=by
 obtain⟨d,_,h,_⟩:=h;rcases h.2with⟨rfl,c⟩|⟨g,cap,b,rfl,_⟩;·exact⟨M,0,by rw[c]⟩
 ·exact⟨_,cap,rfl⟩
theorem Lj{k:Nat}:∀(us:List (List N×α))(_:∀x∈us,x.1.length=k)(i:Nat)(hi:i<us.length)(j:Nat),j<k->(us.flatMap (·.1))[i*k+j]?=us[i].1[j]?|[],_,i,hi,_,_=>by simp at hi|x::us,hk,0,_,j,hj=>by have:=hk x (by simp);simp[pO (show j<x.1.length by omega)]|x::us,hk,i+1,hi,j,hj=>by have a:=hk x (by simp);have:=Lj us (fun y b=>hk y (by simp[b])) i (by simpa using hi) j hj;rw[tR,List.getElem?_append_right (by rw[a,r8];omega),a,show(i+1)*k+j-k=i*k+j by rw[r8];omega,this];simp
theorem Jw.blk(hk0:0<k)(h:Jw T k P B w v l):v.ownBlock=M∨∃g cs,v.ownBlock=O g∧B<=g∧w.heap[g]?=O (tD cs T (0,0))∧∀q,cs[0]?≠O (tE pQ q):=by
 obtain⟨b,c,f,i,d⟩:=h;rcases f.2with⟨rfl,_⟩|⟨g,cap,a,rfl,j,n,s,_,m,r⟩;·exact .inl rfl
 ·refine .inr ⟨g,a,rfl,j,n,fun q p=>?_⟩;cases b with|nil=>subst c;have:=i rfl;cases this|cons x b=>(have o:l.length=b.length+1:=by rw[<-c];simp);(have e:(a.toList.take (l.length*k))[0]?=((x::b).flatMap (·.1))[0]?:=by rw[r]);have t:=(d x (by simp)).1;rw[sF,if_pos (by rw[o,r8];omega),tR,pO (by omega),pB,p]at e;exact(d x (by simp)).2.2.1 q e.symm
theorem Jw.turn(hk0:0<k)(hT:Pd T)(h:Jw T k P B w v l)(hg:Y w w' v.ownBlock):Kp B w w':=by
 rcases h.blk hk0 with e|⟨g,d,e,b,c,a⟩;·rw[e]at hg;exact Kp.grown hg
 ·rw[e]at hg;exact Kp.turn hg b c hT a
theorem Jw.other(hk0:0<k)(h:Jw T k P B w v l){row:Option Nat}(hk:Kp B w w')(hg:Y w w' row)(hr:row=M∨∃g cs t fz,row=O g∧w.heap[g]?=O (tD cs t fz)∧t≠T):Jw T k P B w' v l:=by
 refine h.kept hk fun g e=>?_;refine hg.block g (h.lt g e).2 fun c=>?_;rcases hr with rfl|⟨j,cs,t,fz,rfl,f,i⟩;·cases c
 ·cases c;rcases h.blk hk0 with b|⟨g2,d,b,_,a,_⟩;(·rw[b]at e;cases e);·rw[b]at e;cases e;rw[f]at a;simp only[tF,sA]at a;exact i a.2.1
theorem Jw.at(h:Jw T k P B w v l)(d:α)(i:Nat)(hi:i<l.length):∃g cap cs,v=S (O ⟨g,0,M⟩) l.length cap∧cs.length=k∧l.length<=cap∧(∀j,j<k->w.cell? ⟨g,i*k+j,M⟩=cs[j]?)∧Zc 0 w (fun w=>P w cs (l.getD i d)):=by
 obtain⟨a,m,o,z,n⟩:=h;have u:a.length=l.length:=by rw[<-m];simp
 rcases o.2with⟨rfl,y⟩|⟨g,cap,c,rfl,A,q,s,_,p,t⟩;·omega
 ·have b:=n a[i] (sM (by omega));refine⟨g,cap,a[i].1,rfl,b.1,s,fun j r=>?_,?_⟩;(·(have e:(c.toList.take (l.length*k))[i*k+j]?=(a.flatMap (·.1))[i*k+j]?:=by rw[t]);(have f:i*k+j<l.length*k:=by have:(i+1)*k<=l.length*k:=pF k hi;rw[r8]at this;omega);rw[Lj a (fun x b=>(n x b).1) i (by omega) j r,sF,if_pos f,pB]at e;simp[tY,q,e]);·(have e:l.getD i d=a[i].2:=by subst m;simp[List.getD,show i<a.length by omega]);rw[e];exact b.2.2.2
theorem yI{o:rP}{a:Act}{K:Act->L->Prop}{Q:Exit->Act->L->Prop}(s x:rK)(t:sB)(ho:o.op=.call {callee:=.builtin .append,args:=#[s,x],argTypes:=#[t,t]})(i:TypeInfo)(z:N)(bytes:Nat)(ht:tC.underlying t=O (.slice T))(hi:tC.info? T=O i)(hz:i.zero=O z)(hsize:i.size=k)(hby:i.bytes=bytes)(hzs:z.cells.size=k)(hsz:0<k)(hT:Pd T)(hs:a.eval s=v)(hown:Jw T k P B w v l)(nb:Nat)(cs:List N)(y:α)(hx:a.eval x=S (O ⟨nb,0,M⟩) 1 1)(hcl:cs.length=k)(hc:∀j u,cs[j]?=O u->w.cell? ⟨nb,j,M⟩=O u)(h1:∀u∈cs,u.oneCell'=tA)(h0:∀q,cs[0]?≠O (tE pQ q))(hP:Zc 0 w (fun w=>P w cs y))(h63:l.length+1<=pN)(hbytes:(l.length+1)*bytes<=140737488355328)(hbase:B<=w.heap.size)(h:∀v' w',Jw T k P B w' v' (l++[y])->Kp B w w'->Y w w' v.ownBlock->K (a.put o.dst v') w'):o.wp tC a w K Q:=by
 have b:=hown;obtain⟨m,n,p,E,c⟩:=hown;refine wp_append_lies w s x t ho B T i z k bytes ht hi hz hsize hby hzs hsz v l.length (m.flatMap (·.1)) hs p ⟨nb,0,M⟩ 1 1 cs hx (by omega) (fun j u A=>by rw[Z6,sS];exact hc j u A) h1 (by omega) h63 hbytes hbase _ rfl ?_;intro g cap w' D f r C;have d:=b.turn hsz hT f;refine h _ w' ⟨m++[(cs,y)],by simp[n],?_,fun e=>by simp at e,fun x hx=>?_⟩ d f;·simpa[List.flatMap_append]using D
 ·rcases sD.1 hx with hx|hx;(·exact⟨(c x hx).1,(c x hx).2.1,(c x hx).2.2.1,(c x hx).2.2.2.later d⟩);·(obtain rfl:x=(cs,y):=by simpa using hx);exact⟨hcl,h1,h0,hP.later d⟩
theorem Jw.take(h:Jw T k P B w v l){a:Option rD}{n cap:Nat}(hv:v=S a n cap)(m:Nat)(hm:m<=l.length)(h0:0<m):Jw T k P B w (S a m cap) (l.take m):=by
 subst hv;obtain⟨i,q,r,G,s⟩:=h;have D:i.length=l.length:=by rw[<-q];simp
 have b:(l.take m).length=m:=by simp;omega
 rcases r.2with⟨e,t⟩|⟨g,F,j,e,u,z,H,p,o,C⟩;·omega
 ·simp only[tL]at e;obtain⟨rfl,rfl,rfl⟩:=e;(have f:(i.take m).flatMap (·.1)=(i.flatMap (·.1)).take (m*k):=by(have A:∀(d:List (List N×α)),(∀x∈d,x.1.length=k)->∀m,(d.take m).flatMap (·.1)=(d.flatMap (·.1)).take (m*k):=by intro d;induction d with|nil=>intro _ m;simp|cons x d ih=>intro c m;cases m with|zero=>simp|succ m=>have:=c x (by simp);rw[rG,tR,tR,ih (fun y E=>c y (by simp[E])) m,List.take_append,this,r8,show m*k+k-k=m*k by omega,pP (l:=x.1) (by omega)]);exact A i (fun x c=>(s x c).1) m);refine⟨i.take m,by rw[<-q,List.map_take],⟨?_,.inr ⟨g,cap,j,by rw[b],u,z,by omega,p,o,?_⟩⟩,fun e=>?_,fun x c=>s x (List.mem_of_mem_take c)⟩;(·rw[f,rM,r.1,b];have:m*k<=l.length*k:=pF k hm;omega);(·rw[b,f,<-C,pL];have:m*k<=l.length*k:=pF k hm;rw[pA this]);·rw[e]at b;simp at b;omega
end
end
theorem Fd:(131:Nat)≠5:=by
 decide
theorem jS:(131:Nat)≠118:=by
 decide
def DB(w:L)(b o:Nat)(c:Xo):Prop:=∃vs,w.cell? ⟨b,o,M⟩=O (tE tH c.turn)∧w.cell? ⟨b,o+1,M⟩=O vs∧QO w vs c.writes
theorem DB.grown{w w':L}{b o:Nat}{c:Xo}(h:DB w b o c)(hg:Y w w' M):DB w' b o c:=by
 obtain⟨e,a,d,h⟩:=h;exact⟨e,hg.cell a (by simp),hg.cell d (by simp),h.grown hg⟩
def Jc(w:L)(v:N)(l:List Xo):Prop:=∃a cap,v=S a l.length cap∧l.length<=cap∧((l=[]∧(a=M->cap=0))∨∃b o,a=O ⟨b,o,M⟩∧∀i,i<l.length->DB w b (o+i*2) (l.getD i Zj))
theorem Ec(w:L):Jc w (S M 0 0) []:=⟨M,0,rfl,sC _,.inl ⟨rfl,fun _=>rfl⟩⟩
theorem Jc.shape{w:L}{v:N}{l:List Xo}(h:Jc w v l):∃a cap,v=S a l.length cap:=by
 obtain⟨a,cap,rfl,_⟩:=h;exact⟨a,cap,rfl⟩
theorem Jc.grown{w w':L}{v:N}{l:List Xo}(h:Jc w v l)(hg:Y w w' M):Jc w' v l:=by
 obtain⟨a,cap,rfl,c,h⟩:=h;refine⟨a,cap,rfl,c,?_⟩;rcases h with h|⟨b,o,rfl,h⟩;·exact .inl h
 ·exact .inr ⟨b,o,rfl,fun i d=>(h i d).grown hg⟩
theorem Jc.at{w:L}{a:Option rD}{n cap:Nat}{l:List Xo}(h:Jc w (S a n cap) l)(i:Nat)(hi:i<l.length):∃b o,a=O ⟨b,o,M⟩∧DB w b (o+i*2) (l.getD i Zj):=by
 obtain⟨d,c,e,f,h⟩:=h;simp only[tL]at e;obtain⟨rfl,rfl,rfl⟩:=e;rcases h with⟨rfl,_⟩|⟨b,o,rfl,h⟩;·simp at hi
 ·exact⟨b,o,rfl,h i hi⟩
structure By (l : List Xo) : Prop where
  many : l.length * 32 <= 140737488355328
  each : ∀ i, i < l.length -> Nh (l.getD i Zj)
abbrev CV:=Xo×N
def kA(us:List CV):List N:=us.flatMap fun x=>[tE tH x.1.turn,x.2]
theorem NS(a b:List CV):kA (a++b)=kA a++kA b:=by
 simp[kA]
theorem dW:(tC.info? 131).map (fun i=>(i.zero,i.size,i.bytes))=O (O (sW #[tE tH 0,S M 0 0]),2,32):=by
 kernel_rfl
def Y9(base:Nat)(w:L)(v:N)(l:List Xo):Prop:=∃us:List CV,us.map (·.1)=l∧w.ownsRow base 131 2 v l.length (kA us)∧(l=[]->v=S M 0 0)∧∀x∈us,Xm 0 w x.2 x.1.writes
theorem DJ(base:Nat)(w:L):Y9 base w (S M 0 0) []:=⟨[],rfl,sX _ _ _ _,fun _=>rfl,fun x hx=>by
 simp at hx⟩
theorem Y9.row{base:Nat}{w:L}{v:N}{l:List Xo}(h:Y9 base w v l):v.ownBlock=M∨∃g cur t fz,v.ownBlock=O g∧base<=g∧w.heap[g]?=O (tD cur t fz)∧t≠5∧t≠118:=by
 obtain⟨c,_,h,_⟩:=h;rcases h.2with⟨rfl,_⟩|⟨g,cap,cur,rfl,a,b,_⟩;·exact .inl rfl
 ·exact .inr ⟨g,cur,_,_,rfl,a,b,Fd,jS⟩
theorem Y9.row0{base:Nat}{w:L}{v:N}{l:List Xo}(h:Y9 base w v l):v.ownBlock=M∨∃g cur t fz,v.ownBlock=O g∧0<=g∧w.heap[g]?=O (tD cur t fz)∧t≠5∧t≠118:=by
 rcases h.row with h|⟨g,cur,t,fz,a,_,b⟩;·exact .inl h
 ·exact .inr ⟨g,cur,t,fz,a,tV _,b⟩
theorem Y9.lt{base:Nat}{w:L}{v:N}{l:List Xo}(h:Y9 base w v l):∀k,v.ownBlock=O k->base<=k∧k<w.heap.size:=by
 obtain⟨a,_,h,_⟩:=h;exact sJ h
theorem Y9.grownNone{base:Nat}{w w':L}{v:N}{l:List Xo}(h:Y9 base w v l)(hg:Y w w' M):Y9 base w' v l:=by
 obtain⟨f,b,c,a,d⟩:=h;refine⟨f,b,tX c hg ?_,a,fun x e=>(d x e).kept hg (.inl rfl)⟩;cases hv:v.ownBlock with|none=>exact .inl rfl|some k=>exact .inr (by simp)
theorem Y9.shape{base:Nat}{w:L}{v:N}{l:List Xo}(h:Y9 base w v l):∃a cap,v=S a l.length cap:=by
 obtain⟨d,_,h,_⟩:=h;rcases h.2with⟨rfl,c⟩|⟨g,cap,b,rfl,_⟩;·exact⟨M,0,by rw[c]⟩
 ·exact⟨_,cap,rfl⟩
theorem Af{base:Nat}{w W w1:L}{v:N}{l:List Xo}(h:Y w W M)(ho:Y9 base W v l)(hb:w.heap.size<=base)(hg:Y W w1 v.ownBlock):Y w w1 M:=⟨hg.os.trans h.os,hg.tape.trans h.tape,hg.output.trans h.output,tS h.size hg.size,fun i a b=>(hg.block i (tK a h.size) (fun e=>by
 have:=(ho.lt i e.symm).1;omega)).trans (h.block i a b)⟩
theorem Rx{w:L}{o:rP}{a:Act}{K:Act->L->Prop}{Q:Exit->Act->L->Prop}(s x:rK)(ho:o.op=.call {callee:=.builtin .append,args:=#[s,x],argTypes:=#[70,70]})(base:Nat)(v:N)(l:List Xo)(hs:a.eval s=v)(hown:Y9 base w v l)(vw:N)(c:Xo)(hw:Xm 0 w vw c.writes)(nb:Nat)(hb:w.heap[nb]?=O (tD #[tE tH c.turn,vw] 131))(hx:a.eval x=S (O ⟨nb,0,M⟩) 1 1)(hl:(l.length+1)*32<=140737488355328)(hbase:base<=w.heap.size)(h:∀v' w',Y9 base w' v' (l++[c])->Y w w' v.ownBlock->K (a.put o.dst v') w'):o.wp tC a w K Q:=by
 obtain⟨z,q,i,j,k⟩:=pD dW;have b:=hown.row0;obtain⟨p,f,t,_,r⟩:=hown;refine wp_append_lies w s x 70 ho base 131 z (sW #[tE tH 0,S M 0 0]) 2 32 Tryz.underlying70 q i j k rfl (by decide) v l.length (kA p) hs t ⟨nb,0,M⟩ 1 1 (kA [(c,vw)]) hx rfl (rF (cs:=#[tE tH c.turn,vw]) hb) ?_ (by omega) (by unfold pN;omega) hl hbase _ rfl ?_;·intro u n;simp only[kA,tR,rN,rT,tP,tU,or_false]at n;rcases n with rfl|rfl;(·rfl);·exact hw.oneCell
 ·intro g cap w' A m _ _;refine h _ w' ⟨p++[(c,vw)],by simp[f],?_,fun e=>by simp at e,?_⟩ m;(·rw[NS,tG];exact A);·intro y d;rcases sD.1 d with d|d;(·exact(r y d).kept m b);·simp only[tP,tU,or_false]at d;subst d;exact hw.kept m b
theorem kN{w:L}{ops:Array rP}{rest:List rP}{o:rP}{a:Act}{Q:Exit->Act->L->Prop}(hgd:o.guard=M)(s x:rK)(ho:o.op=.call {callee:=.builtin .append,args:=#[s,x],argTypes:=#[70,70]})(base:Nat)(v:N)(l:List Xo)(hs:a.eval s=v)(hown:Y9 base w v l)(vw:N)(c:Xo)(hw:Xm 0 w vw c.writes)(nb:Nat)(hb:w.heap[nb]?=O (tD #[tE tH c.turn,vw] 131))(hx:a.eval x=S (O ⟨nb,0,M⟩) 1 1)(hl:(l.length+1)*32<=140737488355328)(hbase:base<=w.heap.size)(h:∀v' w',Y9 base w' v' (l++[c])->Y w w' v.ownBlock->wpList tC ops Q rest (a.put o.dst v') w'):wpList tC ops Q (o::rest) a w:=wpList_plain hgd fun _ e=>Rx s x ho base v l hs hown vw c hw nb hb hx hl hbase fun v' w' b d=>e _ _ (h v' w' b d)
theorem Y9.ne{base:Nat}{w:L}{v:N}{l:List Xo}(h:Y9 base w v l){b:Nat}{cs:Array N}{t:sB}{fz:Nat×Nat}(hb:w.heap[b]?=O (tD cs t fz))(ht:t≠131):v.ownBlock≠O b:=by
 intro e;obtain⟨d,_,h,_⟩:=h;rcases h.2with⟨rfl,_⟩|⟨g,cap,c,rfl,_,a,_⟩;·cases e
 ·cases e;rw[hb]at a;simp only[tF,sA]at a;exact ht a.2.1
theorem Y9.setOther{base:Nat}{w:L}{v:N}{l:List Xo}(h:Y9 base w v l){b i:Nat}{cs:Array N}{t:sB}{fz:Nat×Nat}(hb:w.heap[b]?=O (tD cs t fz))(ht:t≠5)(ht2:t≠118)(ht3:t≠131)(u:N):Y9 base (tI w ⟨b,i,M⟩ u) v l:=by
 have a:=h.ne hb ht3;obtain⟨j,d,e,c,f⟩:=h;exact⟨j,d,tX e (YJ w b i u) (.inr a),c,fun x g=>(f x g).kept (YJ w b i u) (.inr ⟨b,cs,t,fz,rfl,tV _,hb,ht,ht2⟩)⟩
theorem Y9.other{base:Nat}{w w':L}{v:N}{l:List Xo}(h:Y9 base w v l)(hg:Y w w' v.ownBlock){b:Nat}{cs:Array N}{t:sB}{fz:Nat×Nat}(hb:w.heap[b]?=O (tD cs t fz))(ht:t≠131):w'.heap[b]?=O (tD cs t fz):=by
 rw[hg.block b (tM.1 hb).1 (fun e=>h.ne hb ht e.symm)];exact hb
def WS:Prop:=∀(w:L)(v u:N)(t:Tx)(r:Rd),G2 w v t->xM t->Yq w u r->PG r->rB tC 56 #[v,u] w fun e w'=>∃x,e=tJ (sK #[x,tE tH (Xa t r)])∧GW w' x (XI t r)∧Y w w' M
theorem Qh(w:L)(o:Obj):∃W:L,Hid (W=w.alloc o)∧Y w W M∧Hid (W.heap[w.heap.size]?=O o):=⟨w.alloc o,rfl,rA _ _ _,oK w o⟩
theorem Z4{x y:Int}(h:x=y):tJ (tE tH y)=tJ (tE tH x):=by
 rw[h]
theorem YK{x y:Bool}(h:x=y):tJ (tQ y)=tJ (tQ x):=by
 rw[h]
theorem XC{W w:L}{b:Nat}{x y z:N}{t:sB}(hg:Y W w M)(h:W.heap[b]?=O (tD #[x,y,z] t)):w.cell? ⟨b,0,M⟩=O x∧w.cell? ⟨b,1,M⟩=O y∧w.cell? ⟨b,2,M⟩=O z:=by
 have a:w.heap[b]?=O (tD #[x,y,z] t):=by rw[hg.block b (tM.1 h).1 (by simp)];exact h
 refine⟨?_,?_,?_⟩<;>simp[tY,a]
def Ma(p:List Rd)(r:Rd):Int:=if Xr r=0then(if p.any (fun q=>XE q r)=tA then 3 else 0)else Xr r
def ME(p:List Q8)(w:Q8):Int:=if Qx w=0then(if p.any (fun q=>ZG q w)=tA then 3 else 0)else Qx w
theorem aN(l:List Rd)(m:Nat)(h:m<l.length):G0 (l.take m) (l.drop m)=if Ma (l.take m) (l.getD m Zf)=0then G0 (l.take (m+1)) (l.drop (m+1))else Ma (l.take m) (l.getD m Zf):=by
 rw[sY h,G0,sZ h,show l[m]=l.getD m Zf by simp[h]];unfold Ma;by_cases a:Xr (l.getD m Zf)=0;·rw[if_pos a,if_pos a];by_cases b:(l.take m).any (fun q=>XE q (l.getD m Zf))=tA;(·rw[if_pos b,if_pos b,if_neg (by omega)]);·rw[if_neg b,if_neg b,if_pos rfl]
 ·rw[if_neg a,if_neg a,if_neg a]
theorem aZ(l:List Q8)(m:Nat)(h:m<l.length):xY (l.take m) (l.drop m)=if ME (l.take m) (l.getD m Qo)=0then xY (l.take (m+1)) (l.drop (m+1))else ME (l.take m) (l.getD m Qo):=by
 rw[sY h,xY,sZ h,show l[m]=l.getD m Qo by simp[h]];unfold ME;by_cases a:Qx (l.getD m Qo)=0;·rw[if_pos a,if_pos a];by_cases b:(l.take m).any (fun q=>ZG q (l.getD m Qo))=tA;(·rw[if_pos b,if_pos b,if_neg (by omega)]);·rw[if_neg b,if_neg b,if_pos rfl]
 ·rw[if_neg a,if_neg a,if_neg a]
theorem PD{α:Type}(d:α)(f:α->Bool)(l:List α)(k:Nat)(h:k<l.length):(l.take (k+1)).any f=((l.take k).any f||f (l.getD k d)):=by
 rw[sZ h,List.any_append,show l[k]=l.getD k d by simp[h]];simp
theorem Eu{α:Type}(d:α)(f:α->Bool)(l:List α)(k m:Nat)(hk:k<m)(hm:m<=l.length)(h:f (l.getD k d)=tA):(l.take m).any f=tA:=by
 rw[sO];refine⟨l.getD k d,?_,h⟩;rw[show l.getD k d=(l.take m)[k]'(by rw[rM];omega)by rw[List.getElem_take];simp[show k<l.length by omega]];exact sM _
theorem xA{w:L}{a:Option rD}{n cap:Nat}{l:List Rd}(h:Z9 w (S a n cap) l)(i:Nat)(hi:i<l.length):∃b o,a=O ⟨b,o,M⟩∧∃u1 u2 u3 u4 u5 u6,(w.cell? ⟨b,o+i*4,M⟩=O (S u1 (l.getD i Zf).name.length u2)∧w.cell? ⟨b,o+i*4+1,M⟩=O (S u3 (l.getD i Zf).key.length u4)∧w.cell? ⟨b,o+i*4+2,M⟩=O (tQ (l.getD i Zf).wide)∧w.cell? ⟨b,o+i*4+3,M⟩=O (S u5 (l.getD i Zf).last.length u6))∧Yq w (sW #[S u1 (l.getD i Zf).name.length u2,S u3 (l.getD i Zf).key.length u4,tQ (l.getD i Zf).wide,S u5 (l.getD i Zf).last.length u6]) (l.getD i Zf):=by
 obtain⟨b,o,rfl,c⟩:=h.at i hi;obtain⟨r,p,q,g,j,k,m,d,e,f⟩:=c;obtain⟨u1,u2,rfl⟩:=d.shape;obtain⟨u3,u4,rfl⟩:=e.shape;obtain⟨u5,u6,rfl⟩:=f.shape;exact⟨b,o,rfl,u1,u2,u3,u4,u5,u6,⟨g,j,k,m⟩,⟨_,_,_,rfl,d,e,f⟩⟩
theorem Yc{w:L}{a:Option rD}{n cap:Nat}{l:List Q8}(h:QO w (S a n cap) l)(i:Nat)(hi:i<l.length):∃b o,a=O ⟨b,o,M⟩∧∃u1 u2 u3 u4 u5 u6,(w.cell? ⟨b,o+i*4,M⟩=O (S u1 (l.getD i Qo).name.length u2)∧w.cell? ⟨b,o+i*4+1,M⟩=O (S u3 (l.getD i Qo).key.length u4)∧w.cell? ⟨b,o+i*4+2,M⟩=O (tQ (l.getD i Qo).gone)∧w.cell? ⟨b,o+i*4+3,M⟩=O (S u5 (l.getD i Qo).value.length u6))∧Xb w (sW #[S u1 (l.getD i Qo).name.length u2,S u3 (l.getD i Qo).key.length u4,tQ (l.getD i Qo).gone,S u5 (l.getD i Qo).value.length u6]) (l.getD i Qo):=by
 obtain⟨b,o,rfl,c⟩:=h.at i hi;obtain⟨r,p,q,g,j,k,m,d,e,f⟩:=c;obtain⟨u1,u2,rfl⟩:=d.shape;obtain⟨u3,u4,rfl⟩:=e.shape;obtain⟨u5,u6,rfl⟩:=f.shape;exact⟨b,o,rfl,u1,u2,u3,u4,u5,u6,⟨g,j,k,m⟩,⟨_,_,_,rfl,d,e,f⟩⟩
theorem RJ{x y:Bool}{a b:Int}(h:x=y)(k:a=b):tJ (sK #[tQ y,tE tH b])=tJ (sK #[tQ x,tE tH a]):=by
 rw[h,k]
theorem Ob{α:Type}(f:α->Bool)(l:List α)(d:α)(i:Nat)(hi:i<l.length)(h:f (l.getD i d)=tA):l.any f=tA:=by
 have:=Eu d f l i l.length hi (sC _) h;rw[sH]at this;exact this
theorem zJ:(74:Nat)≠5:=by
 decide
theorem kD:(74:Nat)≠137:=by
 decide
theorem G6:(74:Nat)≠118:=by
 decide
theorem ZL.block{rb pb:Nat}{W w':L}{v:N}{l:List Rd}(ho:ZL rb pb W v l)(hg:Y W w' v.ownBlock){b:Nat}{cs:Array N}{t:sB}{fz:Nat×Nat}(h:W.heap[b]?=O (tD cs t fz))(ht:t≠137):w'.heap[b]?=O (tD cs t fz):=by
 rw[hg.block b (tM.1 h).1 (fun e=>ho.ne h ht e.symm)];exact h
theorem QW.block{rb pb:Nat}{W w':L}{v:N}{l:List Q8}(ho:QW rb pb W v l)(hg:Y W w' v.ownBlock){b:Nat}{cs:Array N}{t:sB}{fz:Nat×Nat}(h:W.heap[b]?=O (tD cs t fz))(ht:t≠118):w'.heap[b]?=O (tD cs t fz):=by
 rw[hg.block b (tM.1 h).1 (fun e=>ho.ne h ht e.symm)];exact h
theorem ZL.keptV{rb rb':Nat}{W w':L}{v u:N}{l:List Rd}{k:List Q8}(hR:ZL rb 0 W v l)(hV:QW rb' 0 W u k)(hg:Y W w' u.ownBlock):ZL rb 0 w' v l:=by
 refine hR.kept hg ?_ ?_;·rcases hR.row with h|⟨g,a,b,e,_,h⟩;(·exact .inl h);·refine .inr ?_;rw[e];exact fun c=>hV.ne h (fun e=>iB e) c.symm
 ·rcases hV.row with h|⟨g,a,b,e,_,h⟩;(·exact .inl h);·exact .inr ⟨g,a,_,b,e,tV _,h,kZ⟩
theorem QG{w:L}{b:Nat}{x y z:N}{t:sB}(h:w.heap[b]?=O (tD #[x,y,z] t)):(w.cell? ⟨b,0,M⟩=O x∧w.cell? ⟨b,1,M⟩=O y∧w.cell? ⟨b,2,M⟩=O z)∧w.frozen? ⟨b,0,M⟩=tB∧w.frozen? ⟨b,1,M⟩=tB∧w.frozen? ⟨b,2,M⟩=tB:=by
 refine⟨⟨?_,?_,?_⟩,?_,?_,?_⟩<;>simp[tY,r7,h]
theorem UW{rb:Nat}{w wr:L}{RB:Nat}{x y z:N}{st:Int}{va ua:Option rD}{n m vc uc:Nat}{R:List Rd}{V:List Q8}(h:wr.heap[RB]?=O (tD #[x,y,z] 74))(hR:ZL rb 0 wr (S va n vc) R)(hV:QW rb 0 wr (S ua m uc) V)(hg:Y w wr M)(hw:w.heap.size<=RB):((((tI wr ⟨RB,0,M⟩ (tE tH st)).setCell ⟨RB,1,M⟩ (S va n vc)).setCell ⟨RB,2,M⟩ (S ua m uc)).cell? ⟨RB,0,M⟩=O (tE tH st)∧(((tI wr ⟨RB,0,M⟩ (tE tH st)).setCell ⟨RB,1,M⟩ (S va n vc)).setCell ⟨RB,2,M⟩ (S ua m uc)).cell? ⟨RB,1,M⟩=O (S va n vc)∧(((tI wr ⟨RB,0,M⟩ (tE tH st)).setCell ⟨RB,1,M⟩ (S va n vc)).setCell ⟨RB,2,M⟩ (S ua m uc)).cell? ⟨RB,2,M⟩=O (S ua m uc))∧ZL rb 0 (((tI wr ⟨RB,0,M⟩ (tE tH st)).setCell ⟨RB,1,M⟩ (S va n vc)).setCell ⟨RB,2,M⟩ (S ua m uc)) (S va n vc) R∧QW rb 0 (((tI wr ⟨RB,0,M⟩ (tE tH st)).setCell ⟨RB,1,M⟩ (S va n vc)).setCell ⟨RB,2,M⟩ (S ua m uc)) (S ua m uc) V∧Y w (((tI wr ⟨RB,0,M⟩ (tE tH st)).setCell ⟨RB,1,M⟩ (S va n vc)).setCell ⟨RB,2,M⟩ (S ua m uc)) M:=by
 have a:=Qk (i:=0) (u:=tE tH st) h;have b:=Qk (i:=1) (u:=S va n vc) a;have c:=Qk (i:=2) (u:=S ua m uc) b;exact⟨(QG (x:=tE tH st) (y:=S va n vc) (z:=S ua m uc) c).1,((hR.setOther h zJ kD (tV _) _).setOther a zJ kD (tV _) _).setOther b zJ kD (tV _) _,((hV.setOther h zJ G6 (tV _) _).setOther a zJ G6 (tV _) _).setOther b zJ G6 (tV _) _,Qc (Qc (Qc hg _ hw _ _) _ hw _ _) _ hw _ _⟩
theorem QW.keptR{rb rb':Nat}{W w':L}{v u:N}{l:List Q8}{k:List Rd}(hV:QW rb 0 W v l)(hR:ZL rb' 0 W u k)(hg:Y W w' u.ownBlock):QW rb 0 w' v l:=by
 refine hV.kept hg ?_ ?_;·rcases hV.row with h|⟨g,a,b,e,_,h⟩;(·exact .inl h);·refine .inr ?_;rw[e];exact fun c=>hR.ne h (fun e=>iB e.symm) c.symm
 ·rcases hR.row with h|⟨g,a,b,e,_,h⟩;(·exact .inl h);·exact .inr ⟨g,a,_,b,e,tV _,h,gP⟩
theorem GF{w:L}{v1 v2:N}{st:Int}{R:List Rd}{V:List Q8}{rb:Nat}{t:Tx}(e:t=⟨st,R,V⟩)(h1:ZL rb 0 w v1 R)(h2:QW rb 0 w v2 V):GW w (sW #[tE tH st,v1,v2]) t:=by
 subst e;exact⟨_,_,rfl,h1.down 0 (tV _),h2.down 0 (tV _)⟩
theorem UU{v:N}{a b:Int}(h:a=b):tJ (sK #[v,tE tH b])=tJ (sK #[v,tE tH a]):=by
 rw[h]
theorem Lq:∀(l:List Q8)(w:Q8)(m:Nat),m<l.length->(l.take m).any (fun q=>ZG q w)=tB->ZG (l.getD m Qo) w=tA->GQ l w=l.set m w|[],_,_,h,_,_=>by simp at h|a::l,w,0,_,_,h=>by have b:ZG a w=tA:=h;rw[GQ,if_pos b];rfl|a::l,w,m+1,h0,h1,h2=>by rw[rG,pG,rS]at h1;rw[GQ,if_neg (by rw[h1.1];decide),pU,Lq l w m (by simpa using h0) h1.2 (by simpa using h2)]
theorem MV:∀(l:List Q8)(w:Q8),l.any (fun q=>ZG q w)=tB->GQ l w=l++[w]|[],_,_=>rfl|a::l,w,h=>by rw[pG,rS]at h;rw[GQ,if_neg (by rw[h.1];decide),MV l w h.2];rfl
theorem QW.zero{rb:Nat}{w:L}{b o n cap:Nat}{l:List Q8}(h:QW rb 0 w (S (O ⟨b,o,M⟩) n cap) l):o=0:=by
 obtain⟨k,j,d,i⟩:=h;rcases d.2with⟨e,_⟩|⟨f,a,c,e,_⟩;·cases e
 ·simp only[tL,tF,rJ]at e;exact e.1.2.1
theorem QW.frozenT{rb:Nat}{w:L}{g n cap:Nat}{l:List Q8}(h:QW rb 0 w (S (O ⟨g,0,M⟩) n cap) l)(j:Nat):w.frozen? ⟨g,j,M⟩=tB:=by
 obtain⟨o,m,d,i⟩:=h;rcases d.2with⟨e,_⟩|⟨f,a,b,e,k,c,_⟩;·cases e
 ·simp only[tL,tF,rJ]at e;obtain⟨⟨rfl,_⟩,_⟩:=e;simp[r7,c]
theorem RQ:∀(us:List WV)(i:Nat)(x:WV),Y8 (us.set i x)=((((Y8 us).set (i*4) x.2.1).set (i*4+1) x.2.2.1).set (i*4+2) (tQ x.1.gone)).set (i*4+3) x.2.2.2|[],i,x=>by simp[Y8]|y::us,0,x=>by simp[Y8]|y::us,i+1,x=>by have a:=RQ us i x;(have e:∀us:List WV,Y8 (y::us)=y.2.1::y.2.2.1::tQ y.1.gone::y.2.2.2::Y8 us:=fun us=>by simp[Y8]);rw[pU,e,e,a,show(i+1)*4=i*4+4by omega];rfl
theorem QW.setT{rb:Nat}{w:L}{g n cap:Nat}{l:List Q8}(h:QW rb 0 w (S (O ⟨g,0,M⟩) n cap) l)(i:Nat)(vn vk vv:N)(p:Q8)(h1:Qg 0 w vn p.name)(h2:Qg 0 w vk p.key)(h3:Qg 0 w vv p.value):QW rb 0 ((((tI w ⟨g,i*4,M⟩ vn).setCell ⟨g,i*4+1,M⟩ vk).setCell ⟨g,i*4+2,M⟩ (tQ p.gone)).setCell ⟨g,i*4+3,M⟩ vv) (S (O ⟨g,0,M⟩) n cap) (l.set i p):=by
 obtain⟨r,d,y,k⟩:=h;have b:Y w ((((tI w ⟨g,i*4,M⟩ vn).setCell ⟨g,i*4+1,M⟩ vk).setCell ⟨g,i*4+2,M⟩ (tQ p.gone)).setCell ⟨g,i*4+3,M⟩ vv) (O g):=Qf (Qf (Qf (Qf (Qb _ _) _ _) _ _) _ _) _ _;rcases y.2with⟨e,_⟩|⟨j,o,c,e,s,q,v,u,z,A⟩;·cases e
 ·simp only[tL,tF,rJ]at e;obtain⟨⟨rfl,_⟩,rfl,rfl⟩:=e;have a:(O g:Option Nat)=M∨∃j c t fz,(O g:Option Nat)=O j∧0<=j∧w.heap[j]?=O (tD c t fz)∧t≠5:=.inr ⟨g,c,_,_,rfl,tV _,q,kZ⟩;(have m:r.length=l.length:=by rw[<-d];simp);refine⟨r.set i (p,vn,vk,vv),by rw[List.map_set,d],⟨by rw[Hm,rU,rU,m],.inr ⟨g,cap,_,by rw[rU],s,Qk (Qk (Qk (Qk q))),by rw[rU];exact v,u,by simpa using z,?_⟩⟩,?_⟩;(·rw[RQ,rU];simp only[Array.toList_setIfInBounds];rw[pH,pH,pH,pH,A]);·intro x f;rcases List.mem_or_eq_of_mem_set f with f|rfl;(·exact⟨(k x f).1.keptT b a,(k x f).2.1.keptT b a,(k x f).2.2.keptT b a⟩);·exact⟨h1.keptT b a,h2.keptT b a,h3.keptT b a⟩
def Ua(n k:List UInt8)(q:Q8):Bool:=tT (q.name=n)&&tT (q.key=k)
theorem CQ{α:Type}(p:α->Bool)(d:α):∀(l:List α)(m:Nat),m<l.length->(l.take m).any p=tB->p (l.getD m d)=tA->l.find? p=O (l.getD m d)|[],_,h,_,_=>by simp at h|a::l,0,_,_,h=>by have b:p a=tA:=h;rw[List.find?_cons_of_pos b];rfl|a::l,m+1,h0,h1,h2=>by rw[rG,pG,rS]at h1;rw[List.find?_cons_of_neg (by rw[h1.1];decide),CQ p d l m (by simpa using h0) h1.2 (by simpa using h2)];simp
theorem LG{α:Type}(p:α->Bool)(l:List α)(h:l.any p=tB):l.find? p=M:=by
 rw[List.find?_eq_none];intro x b a;rw[List.any_eq_false]at h;exact h x b a
theorem fY{l:List Q8}{n k:List UInt8}{m:Nat}(h:m<l.length)(h1:(l.take m).any (Ua n k)=tB)(h2:Ua n k (l.getD m Qo)=tA):fM l n k=O (l.getD m Qo):=CQ (Ua n k) Qo l m h h1 h2
theorem cL{l:List Q8}{n k:List UInt8}(h:l.any (Ua n k)=tB):fM l n k=M:=LG (Ua n k) l h
theorem IV{l:FL}{t:Tx}{n k:List UInt8}(h:Kh l t n k≠0):KX l t n k=tB∧K8 l t n k=tB∧KS l t n k=[]:=by
 rw[KX,K8,KS,if_neg h,if_neg h,if_neg h];exact⟨rfl,rfl,rfl⟩
theorem dI{l:FL}{t:Tx}{n k:List UInt8}(h:z8 l t≠0):Kh l t n k=z8 l t:=by
 rw[Kh,if_neg h]
theorem M4{l:FL}{t:Tx}(h:z8 l t=0):ZN l∧qK t:=by
 unfold z8 at h;by_cases a:Q4 l=0;·rw[if_pos a]at h;exact⟨(Xi l).1 a,(zI t).1 h⟩
 ·rw[if_neg a]at h;exact absurd h a
theorem aK{l:FL}{t:Tx}{n k:List UInt8}(h:z8 l t=0){m:Nat}(hm:m<t.writes.length)(h1:(t.writes.take m).any (Ua n k)=tB)(h2:Ua n k (t.writes.getD m Qo)=tA):Kh l t n k=0∧KX l t n k=tA∧K8 l t n k=!(t.writes.getD m Qo).gone∧KS l t n k=(t.writes.getD m Qo).value:=by
 obtain⟨f,e⟩:=M4 h;have b:=fY hm h1 h2;have c:=I9 b;have d:=(XK _).1 (e.wrs _ c.1);rw[c.2.1,c.2.2]at d;have a:=NJ f e d.1 d.2.1;refine⟨a,?_,?_,?_⟩;·rw[KX,if_pos a,b];rfl
 ·rw[K8,if_pos a,b]
 ·rw[KS,if_pos a,b]
theorem aH{l:FL}{t:Tx}{n k:List UInt8}(h:z8 l t=0)(h1:t.writes.any (Ua n k)=tB):Kh l t n k=U2 l n k∧KX l t n k=tB∧K8 l t n k=Uo l n k∧KS l t n k=Ut l n k:=by
 obtain⟨f,g⟩:=M4 h;have d:=cL h1;have e:=(Xi l).2 f;have c:Kh l t n k=U2 l n k:=by rw[Kh,if_pos h,U2,GJ,if_pos e];by_cases b:Qs n.length=0;(·rw[if_pos b,if_pos b,Xc,if_pos ((YP _).2 (J4 f n))]);·rw[if_neg b,if_neg b]
 refine⟨c,?_,?_,?_⟩;·rw[KX,d];by_cases a:Kh l t n k=0;(·rw[if_pos a];rfl);·rw[if_neg a]
 ·rw[K8,d];by_cases a:Kh l t n k=0;(·rw[if_pos a]);·rw[if_neg a];rw[c]at a;rw[Uo];by_cases b:GJ l n=0;(·rw[U2,if_pos b]at a;rw[if_pos b,Tk];simp[a]);·rw[if_neg b]
 ·rw[KS,d];by_cases a:Kh l t n k=0;(·rw[if_pos a]);·rw[if_neg a];rw[c]at a;rw[Ut];by_cases b:GJ l n=0;(·rw[U2,if_pos b]at a;rw[if_pos b,TO,if_neg a]);·rw[if_neg b]
theorem Ip{X:PL}(h:Zy X)(k:List UInt8):Zy (zX X k):=⟨tS (SK X k) h.room,fun p hp=>h.pairs p (oF.1 hp).1,Nc X k h.rises⟩
theorem MW{X:PL}(h:Zy X)(f u:List UInt8):Zy (Ve X f u):=⟨tS (Wr X f u) h.room,fun p a=>h.pairs p (oF.1 a).1,CA X f u h.rises⟩
theorem LR{X:PL}(h:Zy X){p:Pr}(hp:(1<=p.1.length∧p.1.length<=16)∧p.2.length<=32)(hl:(JB X p).length<=60):Zy (JB X p):=⟨hl,EC X p h.pairs hp,Pb X p h.rises⟩
theorem kE(n a b:List UInt8)(w:Q8):Xh ⟨n,a,tA,b⟩ w=tA↔w.name=n∧iD a b w.key=tA:=by
 show(tT (n=w.name)&&iD a b w.key)=tA↔_;rw[rC,decide_eq_true_iff];exact⟨fun h=>⟨h.1.symm,h.2⟩,fun h=>⟨h.1.symm,h.2⟩⟩
theorem II{n a b:List UInt8}{w:Q8}(h:Xh ⟨n,a,tA,b⟩ w=tB)(X:PL):KR n a b X w=X:=by
 rw[KR,if_neg];intro e;rw[(kE n a b w).2 e]at h;cases h
theorem OP{n a b:List UInt8}{w:Q8}(h:Xh ⟨n,a,tA,b⟩ w=tA)(hg:w.gone=tA){X:PL}(hX:Zy X)(hw:Qx w=0):Xc X w.key=0∧zZ X w.key=KR n a b X w∧Zy (KR n a b X w):=by
 have d:=((XK w).1 hw).2.1;have c:=jH hX d;have e:KR n a b X w=zX X w.key:=by rw[KR,if_pos ((kE n a b w).1 h),if_pos hg]
 refine⟨c,by rw[e,zZ,if_pos c],by rw[e];exact Ip hX _⟩
theorem aE{n a b:List UInt8}{w:Q8}(h:Xh ⟨n,a,tA,b⟩ w=tA)(hg:w.gone=tB){X:PL}(hX:Zy X)(hw:Qx w=0):KR n a b X w=JB X (w.key,w.value)∧(60<(KR n a b X w).length->Kb X (w.key,w.value)=11)∧(¬60<(KR n a b X w).length->Kb X (w.key,w.value)=0∧Vo X (w.key,w.value)=KR n a b X w∧Zy (KR n a b X w)):=by
 have d:=(XK w).1 hw;have i:w.value.length<=32:=by have:=d.2.2;rw[hg,if_neg (by decide)]at this;exact this
 have e:KR n a b X w=JB X (w.key,w.value):=by rw[KR,if_pos ((kE n a b w).1 h),hg,if_neg (by decide)]
 have f:VZ X (w.key,w.value)=0:=by rw[VZ,if_pos ((YP X).2 hX)];exact(Jv _).2 ⟨d.2.1,i⟩
 refine⟨e,fun c=>?_,fun c=>?_⟩;·rw[e]at c;rw[Kb,if_pos f,if_pos c]
 ·rw[e]at c;(have g:Kb X (w.key,w.value)=0:=by rw[Kb,if_pos f,if_neg c]);refine⟨g,by rw[e,Vo,if_pos g],?_⟩;rw[e];exact LR hX ⟨d.2.1,i⟩ (by omega)
def Jy(n a b:List UInt8)(X:PL)(ws:List Q8):Int×PL:=(kW n a b X ws,if kW n a b X ws=0then A9 n a b X ws else[])
theorem Sq(n a b:List UInt8)(X:PL):Jy n a b X []=(0,X):=rfl
theorem Pk{n a b:List UInt8}{X:PL}{ws:List Q8}{m:Nat}(hm:m<ws.length)(h:¬60<(KR n a b X (ws.getD m Qo)).length):Jy n a b X (ws.drop m)=Jy n a b (KR n a b X (ws.getD m Qo)) (ws.drop (m+1)):=by
 rw[sY hm,show ws[m]=ws.getD m Qo by simp[hm]];rw[Jy,Jy,kW,if_neg h];rfl
theorem DK{n a b:List UInt8}{X:PL}{ws:List Q8}{m:Nat}(hm:m<ws.length)(h:60<(KR n a b X (ws.getD m Qo)).length):Jy n a b X (ws.drop m)=(11,[]):=by
 rw[sY hm,show ws[m]=ws.getD m Qo by simp[hm]];rw[Jy,kW,if_pos h,if_neg (by decide)]
theorem cG{l:FL}{t:Tx}{n a b:List UInt8}(h:z8 l t≠0):JP l t n a b=z8 l t∧VY l t n a b=[]:=by
 have e:JP l t n a b=z8 l t:=by rw[JP,if_neg h]
 exact⟨e,by rw[VY,e,if_neg h]⟩
theorem AO{l:FL}{t:Tx}{n a b:List UInt8}(h:z8 l t=0)(h1:Yx l n a b≠0):JP l t n a b=Yx l n a b∧VY l t n a b=[]:=by
 obtain⟨j,k⟩:=M4 h;have f:=(Xi l).2 j;have e:JP l t n a b=Yx l n a b:=by(have g:Yx l n a b=if Qs n.length=0then(if Qn a.length=0then Qn b.length else Qn a.length)else Qs n.length:=by rw[Yx,GJ,if_pos f];by_cases c:Qs n.length=0;(·rw[if_pos c,if_pos c,Yw,Xc,if_pos ((YP _).2 (J4 j n))]);·rw[if_neg c,if_neg c]);rw[JP,if_pos h,g];by_cases c:Qs n.length=0;(·rw[if_pos c,if_pos c];by_cases d:Qn a.length=0;(·rw[if_pos d,if_pos d];by_cases i:Qn b.length=0;(·rw[g,if_pos c,if_pos d]at h1;exact absurd i h1);·rw[if_neg i]);·rw[if_neg d,if_neg d]);·rw[if_neg c,if_neg c]
 exact⟨e,by rw[VY,e,if_neg h1]⟩
theorem BJ{l:FL}{t:Tx}{n a b:List UInt8}(h:z8 l t=0)(h1:Yx l n a b=0):Jy n a b (Kd l n a b) t.writes=(JP l t n a b,VY l t n a b)∧Zy (Kd l n a b):=by
 obtain⟨g,p⟩:=M4 h;have o:=(Xi l).2 g;have c:GJ l n=0:=by by_cases c:GJ l n=0;(·exact c);·rw[Yx,if_neg c]at h1;exact absurd h1 c
 have d:Yw (Yi l n) a b=0:=by rw[Yx,if_pos c]at h1;exact h1
 have i:=Bj d;have m:Qn b.length=0:=by rw[Yw,if_pos i]at d;exact d
 have k:Qn a.length=0:=(Zs _).2 (Om i);have f:Qs n.length=0:=(Zl _).2 (qW c).2;have e:Kd l n a b=Ve (Yi l n) a b:=by rw[Kd,if_pos c,KH,if_pos d]
 have j:JP l t n a b=kW n a b (Ve (Yi l n) a b) t.writes:=by rw[JP,if_pos h,if_pos f,if_pos k,if_pos m]
 refine⟨?_,by rw[e];exact MW (J4 g n) a b⟩;rw[e,Jy,VY,j]
def Wq:Prop:=∀(w:L)(v:N)(t:Tx),G2 w v t->xM t->rB tC 60 #[v] w fun e w'=>e=tJ (tE tH (Ga t))∧Y w w' M
def IE:Prop:=∀(w:L)(v:N)(l:PL),Qp w v l->uC l->rB tC 101 #[v] w fun e w'=>e=tJ (tE tH (Qz l))∧Y w w' M
theorem Fx{w:L}{o:rP}{a:Act}{K:Act->L->Prop}{Q:Exit->Act->L->Prop}(s x:rK)(ho:o.op=.call {callee:=.builtin .append,args:=#[s,x],argTypes:=#[32,32]})(rb base:Nat)(hrb:base<=rb)(v:N)(l:PL)(hs:a.eval s=v)(hown:Kl rb base w v l)(vk vv:N)(p:Pr)(hk:Qg base w vk p.1)(hv:Qg base w vv p.2)(nb:Nat)(hb:w.heap[nb]?=O (tD #[vk,vv] 35))(hx:a.eval x=S (O ⟨nb,0,M⟩) 1 1)(hl:(l.length+1)*48<=140737488355328)(hbase:rb<=w.heap.size)(h:∀v' w',Kl rb base w' v' (l++[p])->Y w w' v.ownBlock->K (a.put o.dst v') w'):o.wp tC a w K Q:=by
 obtain⟨z,f,j,k,m⟩:=pD DY;have b:=hown.row hrb;obtain⟨r,e,y,n⟩:=hown;refine wp_append_lies w s x 32 ho rb 35 z (sW #[S M 0 0,S M 0 0]) 2 48 Tryz.underlying32 f j k m rfl (by decide) v l.length (flat r) hs y ⟨nb,0,M⟩ 1 1 (flat [(vk,vv)]) hx rfl (rF (cs:=#[vk,vv]) hb) ?_ (by omega) (by unfold pN;omega) hl hbase _ rfl ?_;·intro u q;simp only[flat,tR,rN,rT,tP,tU,or_false]at q;rcases q with rfl|rfl;(·exact ZH hk);·exact ZH hv
 ·intro g cap w' t d _ _;refine h _ w' ⟨r++[(vk,vv)],by simp[e],?_,?_⟩ d;(·rw[JR,tG];exact t);·intro i f;rw[Ji,Ji,e];by_cases c:i<l.length;(·rw[if_pos c,if_pos c];exact⟨(n i c).1.kept d b,(n i c).2.kept d b⟩);·rw[if_neg c,if_neg c];(obtain rfl:i=l.length:=by simp at f;omega);rw[oJ];exact⟨hk.kept d b,hv.kept d b⟩
theorem Ge{w:L}{ops:Array rP}{o:rP}{a:Act}{K:Act->L->Prop}{Q:Exit->Act->L->Prop}{E:Prop}(hgd:o.guard=M)(s x:rK)(ho:o.op=.call {callee:=.builtin .append,args:=#[s,x],argTypes:=#[32,32]})(rb base:Nat)(hrb:base<=rb)(v:N)(l:PL)(hs:a.eval s=v)(hown:Kl rb base w v l)(vk vv:N)(p:Pr)(hk:Qg base w vk p.1)(hv:Qg base w vv p.2)(nb:Nat)(hb:w.heap[nb]?=O (tD #[vk,vv] 35))(hx:a.eval x=S (O ⟨nb,0,M⟩) 1 1)(hl:(l.length+1)*48<=140737488355328)(hbase:rb<=w.heap.size)(h:∀v' w',Kl rb base w' v' (l++[p])->Y w w' v.ownBlock->K (a.put o.dst v') w'):if sI o (pE ops a.tmps)=tA then Oper.wp tC o a w K Q else E:=by
 have b:sI o (pE ops a.tmps)=tA:=by simp[sI,hgd]
 rw[if_pos b];exact Fx s x ho rb base hrb v l hs hown vk vv p hk hv nb hb hx hl hbase h
theorem Rm(w:L):(sizeOf (tC.elem 32)).run tC w=.ok 2 w:=by
 kernel_rfl
theorem Qp.sliced{w:L}{a:Option rD}{cap:Nat}{l:PL}(h:Qp w (S a l.length cap) l)(i j:Nat)(hij:i<=j)(hj:j<=l.length):Qp w (sU a i j cap 2) ((l.take j).drop i):=by
 obtain⟨m,f,e,n,h⟩:=h;simp only[tL,true_and]at e;obtain⟨rfl,rfl⟩:=e;have c:((l.take j).drop i).length=j-i:=by simp;omega
 refine⟨if cap=i then a else a.map (·.add (i*2)),cap-i,by rw[c];rfl,by rw[c];omega,?_⟩;by_cases d:cap=i;·left;exact⟨tN (by rw[c];omega),fun _=>by omega⟩
 ·rw[if_neg d];rcases h with⟨rfl,h⟩|⟨b,o,rfl,h⟩;(·left;refine⟨by simp,fun e=>?_⟩;cases a with|none=>have:=h rfl;simp at hj;omega|some x=>cases e);·right;refine⟨b,o+i*2,by simp[Z6],fun k g=>?_⟩;rw[c]at g;have:=h (i+k) (by omega);(have e:((l.take j).drop i).getD k ([],[])=l.getD (i+k) ([],[]):=by simp[show i+k<j by omega]);rw[e,show o+i*2+k*2=o+(i+k)*2by omega];exact this
theorem vI(a:Option rD)(cap:Nat)(l:PL)(n:Nat)(hn:n<=l.length)(hc:l.length<=cap):∃a1 c1,(∀W,(rW 32 (S a l.length cap) M (O (tE tH (n:Int))) M).run tC W=.ok (S a1 n c1) W)∧∀W,Qp W (S a l.length cap) l->Qp W (S a1 n c1) (l.take n):=by
 refine⟨if cap=0then a else a.map (·.add (0*2)),cap-0,fun W=>?_,fun W h=>?_⟩;·rw[run_slice_h _ _ _ _ _ (by kernel_rfl) _ _ (by omega) (by omega),Rm];simp only[rI,sU,sR,pI]
 ·have:=h.sliced 0 n (by omega) hn;simpa only[sU,oI,pI]using this
theorem vU(a:Option rD)(cap:Nat)(l:PL)(n:Nat)(hn:n<=l.length):∃a1 c1,(∀W,(rW 32 (S a l.length cap) (O (tE tH (n:Int))) M M).run tC W=.ok (S a1 (l.length-n) c1) W)∧∀W,Qp W (S a l.length cap) l->Qp W (S a1 (l.length-n) c1) (l.drop n):=by
 refine⟨if cap=n then a else a.map (·.add (n*2)),cap-n,fun W=>?_,fun W h=>?_⟩;·rw[run_slice_l _ _ _ _ _ (by kernel_rfl) _ _ (by omega) (by omega),Rm];simp only[rI,sU,sR]
 ·have:=h.sliced n l.length hn (sC _);simpa only[sU,sH]using this
theorem Nt(a:Option rD)(cap:Nat)(l:PL)(i j:Nat)(hij:i<=j)(hj:j<=l.length)(hc:l.length<=cap):∃a1 c1,(∀W,(rW 32 (S a l.length cap) (O (tE tH (i:Int))) (O (tE tH (j:Int))) M).run tC W=.ok (S a1 (j-i) c1) W)∧∀W,Qp W (S a l.length cap) l->Qp W (S a1 (j-i) c1) ((l.take j).drop i):=by
 refine⟨if cap=i then a else a.map (·.add (i*2)),cap-i,fun W=>?_,fun W h=>?_⟩;·rw[run_slice_lh _ _ _ _ _ (by kernel_rfl) _ _ _ _ (by omega) (by omega) (by omega),Rm];simp only[rI,sU,sR]
 ·have:=h.sliced i j hij hj;simpa only[sU]using this
theorem Qp.cap{w:L}{a:Option rD}{n cap:Nat}{l:PL}(h:Qp w (S a n cap) l):l.length<=cap:=by
 obtain⟨d,b,e,c,_⟩:=h;simp only[tL]at e;obtain⟨_,_,rfl⟩:=e;exact c
def aB:Prop:=∀(w:L)(v:N)(l:FL),ZI w v l->Gh l->rB tC 69 #[v] w fun e w'=>e=tJ (tE tH (Q4 l))∧Y w w' M
def M5:Prop:=∀(w:L)(v u:N)(l:FL)(ws:List Q8),ZI w v l->QO w u ws->Gh l->uF ws->rB tC 65 #[v,u] w fun e w'=>∃x,e=tJ (sK #[x,tE tH (QK l ws)])∧ZI w' x (ZY l ws)∧Y w w' M
theorem Zx.down{base:Nat}{w:L}{v:N}{l:FL}(h:Zx base w v l)(b2:Nat)(hb:b2<=base):Zx b2 w v l:=by
 obtain⟨i,d,c,f⟩:=h;refine⟨i,d,⟨c.1,?_⟩,f⟩;rcases c.2with h|⟨g,cap,a,e,b,rest⟩;·exact .inl h
 ·exact .inr ⟨g,cap,a,e,tS hb b,rest⟩
def yK:Prop:=∀(w:L)(v u:N)(l:FL)(ws:List Q8),ZI w v l->QO w u ws->Gh l->uF ws->rB tC 65 #[v,u] w fun e w'=>∃x,e=tJ (sK #[x,tE tH (QK l ws)])∧Zx w.heap.size w' x (ZY l ws)∧Y w w' M
theorem yK.ok(h:yK):M5:=fun w v u l i a b c d=>(h w v u l i a b c d).mono (by
 rintro e j⟨x,rfl,g,f⟩;exact⟨x,rfl,g.list,f⟩)
theorem zC(w:L)(b i:Nat)(u:N):∃W:L,Hid (W=tI w ⟨b,i,M⟩ u)∧Y w W (O b):=⟨_,rfl,YJ w b i u⟩
theorem zO{w:L}{ops:Array rP}{o:rP}{a:Act}{K:Act->L->Prop}{Q:Exit->Act->L->Prop}{E:Prop}(hgd:o.guard=M)(s x:rK)(ho:o.op=.call {callee:=.builtin .append,args:=#[s,x],argTypes:=#[72,72]})(rb:Nat)(v:N)(l:List Q8)(hs:a.eval s=v)(hown:QW rb 0 w v l)(vn vk vv:N)(p:Q8)(h1:Qg 0 w vn p.name)(h2:Qg 0 w vk p.key)(h3:Qg 0 w vv p.value)(nb:Nat)(hb:w.heap[nb]?=O (tD #[vn,vk,tQ p.gone,vv] 118))(hx:a.eval x=S (O ⟨nb,0,M⟩) 1 1)(hl:(l.length+1)*80<=140737488355328)(hbase:rb<=w.heap.size)(h:∀v' w',QW rb 0 w' v' (l++[p])->Y w w' v.ownBlock->K (a.put o.dst v') w'):if sI o (pE ops a.tmps)=tA then Oper.wp tC o a w K Q else E:=by
 have C:sI o (pE ops a.tmps)=tA:=by simp[sI,hgd]
 rw[if_pos C];obtain⟨D,A,m,n,q⟩:=pD aU;have b:v.ownBlock=M∨∃g d t i,v.ownBlock=O g∧0<=g∧w.heap[g]?=O (tD d t i)∧t≠5:=by rcases hown.row with h|⟨g,d,i,e,_,h⟩;(·exact .inl h);·exact .inr ⟨g,d,_,i,e,tV _,h,kZ⟩
 obtain⟨z,k,B,j⟩:=hown;refine wp_append_lies w s x 72 ho rb 118 D (sW #[S M 0 0,S M 0 0,tQ tB,S M 0 0]) 4 80 Tryz.underlying72 A m n q rfl (by decide) v l.length (Y8 z) hs B ⟨nb,0,M⟩ 1 1 (Y8 [(p,vn,vk,vv)]) hx rfl (rF (cs:=#[vn,vk,tQ p.gone,vv]) hb) ?_ (by omega) (by unfold pN;omega) hl hbase _ rfl ?_;·intro u r;simp only[Y8,tR,rN,rT,tP,tU,or_false]at r;rcases r with rfl|rfl|rfl|rfl;(·exact ZH h1);(·exact ZH h2);(·rfl);·exact ZH h3
 ·intro g cap w' F f _ _;refine h _ w' ⟨z++[(p,vn,vk,vv)],by simp[k],?_,?_⟩ f;(·rw[uM,tG];exact F);·intro y c;rcases sD.1 c with c|c;(·exact⟨(j y c).1.keptT f b,(j y c).2.1.keptT f b,(j y c).2.2.keptT f b⟩);·simp only[tP,tU,or_false]at c;subst c;exact⟨h1.keptT f b,h2.keptT f b,h3.keptT f b⟩
theorem xZ{w:L}{ops:Array rP}{o:rP}{a:Act}{K:Act->L->Prop}{Q:Exit->Act->L->Prop}{E:Prop}(hgd:o.guard=M)(s x:rK)(ho:o.op=.call {callee:=.builtin .append,args:=#[s,x],argTypes:=#[71,71]})(rb:Nat)(v:N)(l:List Rd)(hs:a.eval s=v)(hown:ZL rb 0 w v l)(vn vk vv:N)(p:Rd)(h1:Qg 0 w vn p.name)(h2:Qg 0 w vk p.key)(h3:Qg 0 w vv p.last)(nb:Nat)(hb:w.heap[nb]?=O (tD #[vn,vk,tQ p.wide,vv] 137))(hx:a.eval x=S (O ⟨nb,0,M⟩) 1 1)(hl:(l.length+1)*80<=140737488355328)(hbase:rb<=w.heap.size)(h:∀v' w',ZL rb 0 w' v' (l++[p])->Y w w' v.ownBlock->K (a.put o.dst v') w'):if sI o (pE ops a.tmps)=tA then Oper.wp tC o a w K Q else E:=by
 have C:sI o (pE ops a.tmps)=tA:=by simp[sI,hgd]
 rw[if_pos C];obtain⟨D,A,m,n,q⟩:=pD gN;have b:v.ownBlock=M∨∃g d t i,v.ownBlock=O g∧0<=g∧w.heap[g]?=O (tD d t i)∧t≠5:=by rcases hown.row with h|⟨g,d,i,e,_,h⟩;(·exact .inl h);·exact .inr ⟨g,d,_,i,e,tV _,h,gP⟩
 obtain⟨z,k,B,j⟩:=hown;refine wp_append_lies w s x 71 ho rb 137 D (sW #[S M 0 0,S M 0 0,tQ tB,S M 0 0]) 4 80 Tryz.underlying71 A m n q rfl (by decide) v l.length (Gp z) hs B ⟨nb,0,M⟩ 1 1 (Gp [(p,vn,vk,vv)]) hx rfl (rF (cs:=#[vn,vk,tQ p.wide,vv]) hb) ?_ (by omega) (by unfold pN;omega) hl hbase _ rfl ?_;·intro u r;simp only[Gp,tR,rN,rT,tP,tU,or_false]at r;rcases r with rfl|rfl|rfl|rfl;(·exact ZH h1);(·exact ZH h2);(·rfl);·exact ZH h3
 ·intro g cap w' F f _ _;refine h _ w' ⟨z++[(p,vn,vk,vv)],by simp[k],?_,?_⟩ f;(·rw[NK,tG];exact F);·intro y c;rcases sD.1 c with c|c;(·exact⟨(j y c).1.keptT f b,(j y c).2.1.keptT f b,(j y c).2.2.keptT f b⟩);·simp only[tP,tU,or_false]at c;subst c;exact⟨h1.keptT f b,h2.keptT f b,h3.keptT f b⟩
def aO:Prop:=∀(w:L)(v:N)(r:Rq),UC w->Ux w v r->yQ r->rB tC 55 #[v] w fun e w'=>∃x,e=tJ (sK #[x,tE tH (Uh r)])∧Yq w' x (Q9 r)∧Y w w' M
def ZX(K:Int)(n q l v:Nat):Nat->Bool|0=>tB|1=>!QQ K 0&&tT (0<n)|2=>(!QQ K 0&&tT (0<n))||(!QQ K 1&&tT (0<q))|3=>((!QQ K 0&&tT (0<n))||(!QQ K 1&&tT (0<q)))||(!QQ K 2&&tT (0<l))|_=>(((!QQ K 0&&tT (0<n))||(!QQ K 1&&tT (0<q)))||(!QQ K 2&&tT (0<l)))||(!QQ K 3&&tT (0<v))
def iW(K:Int)(n q l v:Nat):Int:=if(tT (Qs n≠0)&&QQ K 0)=tA then Qs n else if(tT (Qn q≠0)&&QQ K 1)=tA then Qn q else if(tT (Qn l≠0)&&QQ K 2)=tA then Qn l else if 32<v then 1 else if ZX K n q l v 4=tA then 4 else 0
theorem gM(r:Rq)(hk:1<=r.kind∧r.kind<=8):Yf r=iW r.kind r.name.length r.key.length r.last.length r.value.length:=by
 rw[Yf,if_pos hk];have k:RI r=if ZX r.kind r.name.length r.key.length r.last.length r.value.length 4=tA then 4 else 0:=by unfold RI;by_cases d:QS r.kind=tB∧0<r.name.length+r.key.length;(·rw[if_pos d,if_pos];by_cases a:0<r.name.length;(·simp[ZX,QQ,d.1,a]);·(have c:0<r.key.length:=by omega);simp[ZX,QQ,d.1,c]);·rw[if_neg d];by_cases a:(r.kind≠3∧0<r.last.length)∨(r.kind≠4∧0<r.value.length);(·rw[if_pos a,if_pos];rcases a with⟨a,c⟩|⟨a,c⟩;(·simp[ZX,QQ,a,c]);·simp[ZX,QQ,a,c]);·rw[if_neg a,if_neg];intro b;simp only[ZX,QQ,Bool.or_eq_true,rC,Bool.not_eq_true',decide_eq_true_iff,decide_eq_false_iff_not]at b;rcases b with((b|b)|b)|b;(·exact d ⟨b.1,by omega⟩);(·exact d ⟨b.1,by omega⟩);(·exact a (.inl b));·exact a (.inr b)
 rw[k];unfold yX iW;generalize ZX r.kind r.name.length r.key.length r.last.length r.value.length 4=B;show _=if(tT (Qs r.name.length≠0)&&QS r.kind)=tA then _ else if(tT (Qn r.key.length≠0)&&QS r.kind)=tA then _ else if(tT (Qn r.last.length≠0)&&tT (r.kind=3))=tA then _ else _;have c:r.kind=3->QS r.kind=tA:=fun h=>by rw[h];decide
 generalize Qs r.name.length=A at*;generalize Qn r.key.length=C at*;generalize Qn r.last.length=D at*;cases hN:QS r.kind with|false=>(have g:¬r.kind=3:=fun h=>by rw[c h]at hN;cases hN);simp[g]|true=>by_cases e:A=0;(·by_cases f:C=0;(·by_cases i:r.kind=3;(·by_cases j:D=0;(·simp[e,f,i,j]);·simp[e,f,i,j]);·simp[e,f,i]);·simp[e,f]);·simp[e]
theorem gB(r:Rq)(hk:¬(1<=r.kind∧r.kind<=8)):Yf r=5:=by
 rw[Yf,if_neg hk]
def LQ:Prop:=∀(w:L)(v u a b:N)(l:FL)(t:Tx)(n k:List UInt8),ZI w v l->Gh l->G2 w u t->xM t->Qe w a n->Qe w b k->n.length<=140737488355328->k.length<=140737488355328->rB tC 42 #[v,u,a,b] w fun e w'=>∃x,e=tJ (sK #[sW #[tQ (K8 l t n k),x],tQ (KX l t n k),tE tH (Kh l t n k)])∧Qg 0 w' x (KS l t n k)∧Y w w' M
theorem XN{w:L}{b:Nat}{x y:N}{t:sB}(h:w.heap[b]?=O (tD #[x,y] t)):w.cell? ⟨b,0,M⟩=O x∧w.cell? ⟨b,1,M⟩=O y∧w.frozen? ⟨b,0,M⟩=tB∧w.frozen? ⟨b,1,M⟩=tB:=by
 refine⟨?_,?_,?_,?_⟩<;>simp[tY,r7,h]
section
variable{D:List UInt8->List UInt8}{v u:Sv}
theorem Ds(hD:∀x,(D x).length=4)(h:Zz D v)(hs:v.synced=v.commits.length){k:Int}(hk:0<=k):Uu D v k=V8 tB v.tape v.commits v.out:=by
 obtain⟨j,c,d,b,_⟩:=Vt hD h hk;obtain rfl:j=v.commits.length:=by omega
 rw[b,sH];have a:=h.mark;rw[hs,sH]at a;have:(⟨QR D v.commits,((QR D v.commits).length:Int)⟩:V5)=v.tape:=by rw[<-a,<-h.data]
 rw[this]
end
section
variable{D:List UInt8->List UInt8}{v:Sv}
def QY(s:Nat)(r:Rq):Ac:=⟨1,(s:Int),0,XH r⟩
def YF:Ac:=⟨2,0,0,[]⟩
def Xn(k:Int):Ac:=⟨3,0,k,[]⟩
def J6:Ac:=⟨4,0,0,[]⟩
def Vp(k:Int):Rq:=⟨k,[],[],[],[]⟩
theorem YW{s:Nat}(hs:s<=7){r:Rq}(hr:JI r):XT (QY s r):=⟨⟨(by
 decide:(1:Int)<=1),(by
 decide:(1:Int)<=4)⟩,fun _=>⟨Int.natCast_nonneg _,by
 show(s:Int)<=7;omega⟩,(fun h=>by
 cases h),(by
 have:=(F6 hr).1;show(XH r).length<=4000;omega),(fun h=>absurd rfl h),(fun _=>rfl),(fun h=>absurd rfl h)⟩
theorem EH:XT YF:=⟨⟨by
 decide,by
 decide⟩,(fun h=>by
 cases h),(fun h=>by
 cases h),(by
 decide),(fun _=>rfl),(fun _=>rfl),(fun _=>rfl)⟩
theorem As:XT J6:=⟨⟨by
 decide,by
 decide⟩,(fun h=>by
 cases h),(fun h=>by
 cases h),(by
 decide),(fun _=>rfl),(fun _=>rfl),(fun _=>rfl)⟩
theorem A8{k:Int}(h0:0<=k)(h1:k<=200000):XT (Xn k):=⟨⟨(by
 decide:(1:Int)<=3),(by
 decide:(3:Int)<=4)⟩,(fun h=>by
 cases h),(fun _=>⟨h0,h1⟩),(by
 decide:(0:Nat)<=4000),(fun _=>rfl),(fun h=>absurd rfl h),(fun _=>rfl)⟩
theorem FF(v:Sv)(s:Nat){r:Rq}(hr:JI r):ZS D v (QY s r)=if v.up=tB then Zq v (Uw s 13)else Vu D v s r:=by
 show(if(1:Int)=1then Ue D v (s:Int).toNat (XH r)else _)=_;rw[if_pos rfl,sR,Ue,(Rg hr).1,(Rg hr).2,if_pos rfl]
theorem OG(v:Sv):ZS D v YF=if v.up=tA then Vh v else v:=by
 show(if(2:Int)=1then _ else if(2:Int)=2then _ else _)=_;rw[if_neg (by decide),if_pos rfl]
theorem Es(v:Sv)(k:Int):ZS D v (Xn k)=if v.up=tA then Uu D v k else v:=by
 show(if(3:Int)=1then _ else if(3:Int)=2then _ else if(3:Int)=3then _ else _)=_;rw[if_neg (by decide),if_neg (by decide),if_pos rfl];rfl
theorem Iy(v:Sv):ZS D v J6={v with up:=tA}:=by
 show(if(4:Int)=1then _ else if(4:Int)=2then _ else if(4:Int)=3then _ else _)=_;rw[if_neg (by decide),if_neg (by decide),if_neg (by decide)]
theorem uA(v:Sv)(s:Nat){r:Rq}(hr:JI r)(hk:r.kind≠6):bM s v (ZS D v (QY s r)):=by
 have e:ZS D v (QY s r)=Ue D v s (XH r):=by show(if(1:Int)=1then Ue D v (s:Int).toNat (XH r)else _)=_;rw[if_pos rfl,sR]
 rw[e];rcases Bh D v s (XH r)with h|⟨_,_,h,_⟩;·exact h
 ·rw[(Rg hr).2]at h;exact absurd h hk
theorem Vn{k:Int}(h:k=1∨k=6∨k=7):JI (Vp k):=by
 have a:QS k=tB:=by rcases h with h|h|h<;>subst h<;>decide
 exact⟨by rcases h with h|h|h<;>subst h<;>decide,(fun e=>by rw[show(Vp k).kind=k from rfl,a]at e;cases e),(fun e=>by rw[show(Vp k).kind=k from rfl,a]at e;cases e),(fun e=>by have:k=3:=e;omega),(by decide:(0:Nat)<=32),fun _=>rfl,fun _=>rfl,fun _=>rfl,fun _=>rfl⟩
theorem Wa{cs:List Xo}{j n:Nat}(h:n<=j):(cs.take j).take n=cs.take n:=by
 rw[pL,pA h]
theorem D0(hD:∀x,(D x).length=4)(h:Zz D v){k:Int}(hk:0<=k):∃j,v.synced<=j∧j<=v.synced+v.queue.length∧(k=0->j=v.synced)∧ZS D (ZS D v (Xn k)) J6={(ZS D v (Xn k))with up:=tA}∧(ZS D v (Xn k)).up=tB∧(ZS D v (Xn k)).synced=j∧(ZS D v (Xn k)).queue=[]∧(ZS D v (Xn k)).out=v.out∧(ZS D v (Xn k)).commits=v.commits.take j:=by
 rw[Iy];by_cases a:v.up=tA;·obtain⟨j,d,f,g,i⟩:=Vt hD h hk;rw[Es,if_pos a,g];refine⟨j,d,by have:=h.turn;omega,i,rfl,rfl,?_,rfl,rfl,rfl⟩;show(v.commits.take j).length=j;rw[rM,pA f]
 ·(have b:v.up=tB:=by simpa using a);(have e:ZS D v (Xn k)=v:=by rw[Es,if_neg a]);rw[e];have c:=(h.down b).1;refine⟨v.synced,sC _,by omega,fun _=>rfl,rfl,b,rfl,c,rfl,?_⟩;rw[pP (by have:=h.turn;rw[c]at this;simp at this;omega)]
end
section
structure Se where
  begun : Bool
  start : Int
  writes : List Q8
structure Md where
  ses : Nat -> Se
  states : List FL
variable{D:List UInt8->List UInt8}{v:Sv}{m:Md}
theorem Gt(v:Sv)(n:Nat):ZN (Qv v n):=Vv _ _ UE
end
section
variable{D:List UInt8->List UInt8}{v:Sv}{m:Md}
theorem DD{r:Rq}(hr:JI r)(hk:r.kind=2∨r.kind=3):(1<=r.name.length∧r.name.length<=8)∧(1<=r.key.length∧r.key.length<=16):=by
 have:QS r.kind=tA:=by rcases hk with e|e<;>rw[e]<;>decide
 exact⟨hr.name this,hr.key this⟩
end
def Wu:Prop:=∀(w:L)(v u:N)(t:Tx)(l:List Xo),G2 w v t->xM t->Jc w u l->By l->rB tC 64 #[v,u] w fun e w'=>e=tJ (sK #[tQ (Jz t l),tE tH (Th t)])∧Y w w' M
def d9:Prop:=∀(w:L)(v:N)(c:Xo),JW w v c->Nh c->rB tC 94 #[v] w fun e w'=>∃x,e=tJ (sK #[x,tE tH (QU c)])∧Qe w' x (To c)∧Y w w' M
def LP:Prop:=∀(w:L)(v:N)(c:Xo),JW w v c->Nh c->rB tC 105 #[v] w fun e w'=>e=tJ (tE tH (QU c))∧Y w w' M
theorem Td(w:L):(sizeOf (tC.elem 25)).run tC w=.ok 1 w:=by
 kernel_rfl
theorem Qe.cap{w:L}{a:Option rD}{n cap:Nat}{bs:List UInt8}(h:Qe w (S a n cap) bs):bs.length<=cap∧n=bs.length:=by
 obtain⟨d,b,e,c,_⟩:=h;simp only[tL]at e;obtain⟨_,rfl,rfl⟩:=e;exact⟨c,rfl⟩
theorem Qe.byte{w:L}{a:Option rD}{n cap:Nat}{bs:List UInt8}(h:Qe w (S a n cap) bs)(i:Nat)(hi:i<bs.length):∃b o,a=O ⟨b,o,M⟩∧KF w b o bs:=by
 obtain⟨d,c,e,f,h⟩:=h;simp only[tL]at e;obtain⟨rfl,rfl,rfl⟩:=e;rcases h with⟨rfl,_⟩|⟨b,o,rfl,h⟩;·simp at hi
 ·exact⟨b,o,rfl,h⟩
theorem Qe.sliced{w:L}{a:Option rD}{cap:Nat}{l:List UInt8}(h:Qe w (S a l.length cap) l)(i j:Nat)(hij:i<=j)(hj:j<=l.length):Qe w (sU a i j cap 1) ((l.take j).drop i):=by
 obtain⟨m,f,e,n,h⟩:=h;simp only[tL,true_and]at e;obtain⟨rfl,rfl⟩:=e;have c:((l.take j).drop i).length=j-i:=by simp;omega
 refine⟨if cap=i then a else a.map (·.add (i*1)),cap-i,by rw[c];rfl,by rw[c];omega,?_⟩;by_cases d:cap=i;·left;exact⟨tN (by rw[c];omega),fun _=>by omega⟩
 ·rw[if_neg d];rcases h with⟨rfl,h⟩|⟨b,o,rfl,h⟩;(·left;refine⟨by simp,fun e=>?_⟩;cases a with|none=>have:=h rfl;simp at hj;omega|some x=>cases e);·right;refine⟨b,o+i,by simp[Z6],fun k g=>?_⟩;rw[c]at g;have:=h (i+k) (by omega);(have e:((l.take j).drop i).getD k 0=l.getD (i+k) 0:=by simp[show i+k<j by omega]);rw[e,show o+i+k=o+(i+k)by omega];exact this
theorem xH(a:Option rD)(cap:Nat)(l:List UInt8)(n:Nat)(hn:n<=l.length)(hc:l.length<=cap):∃a1 c1,(∀W,(rW 25 (S a l.length cap) M (O (tE tH (n:Int))) M).run tC W=.ok (S a1 n c1) W)∧∀W,Qe W (S a l.length cap) l->Qe W (S a1 n c1) (l.take n):=by
 refine⟨if cap=0then a else a.map (·.add (0*1)),cap-0,fun W=>?_,fun W h=>?_⟩;·rw[run_slice_h _ _ _ _ _ (by kernel_rfl) _ _ (by omega) (by omega),Td];simp only[rI,sU,sR,pI]
 ·have:=h.sliced 0 n (by omega) hn;simpa only[sU,oI,pI]using this
theorem GU(a:Option rD)(cap:Nat)(l:List UInt8)(i j:Nat)(hij:i<=j)(hj:j<=l.length)(hc:l.length<=cap):∃a1 c1,(∀W,(rW 25 (S a l.length cap) (O (tE tH (i:Int))) (O (tE tH (j:Int))) M).run tC W=.ok (S a1 (j-i) c1) W)∧∀W,Qe W (S a l.length cap) l->Qe W (S a1 (j-i) c1) ((l.take j).drop i):=by
 refine⟨if cap=i then a else a.map (·.add (i*1)),cap-i,fun W=>?_,fun W h=>?_⟩;·rw[run_slice_lh _ _ _ _ _ (by kernel_rfl) _ _ _ _ (by omega) (by omega) (by omega),Td];simp only[rI,sU,sR]
 ·have:=h.sliced i j hij hj;simpa only[sU]using this
theorem VR(a:Option rD)(cap:Nat)(l:List UInt8)(n:Nat)(hn:n<=l.length):∃a1 c1,(∀W,(rW 25 (S a l.length cap) (O (tE tH (n:Int))) M M).run tC W=.ok (S a1 (l.length-n) c1) W)∧∀W,Qe W (S a l.length cap) l->Qe W (S a1 (l.length-n) c1) (l.drop n):=by
 refine⟨if cap=n then a else a.map (·.add (n*1)),cap-n,fun W=>?_,fun W h=>?_⟩;·rw[run_slice_l _ _ _ _ _ (by kernel_rfl) _ _ (by omega) (by omega),Td];simp only[rI,sU,sR]
 ·have:=h.sliced n l.length hn (sC _);simpa only[sU,sH]using this
theorem DH{ws:List Q8}(hn:ws.length<=1000)(h:∀w∈ws,Qx w=0):uF ws:=⟨by
 omega,fun j b=>by
 have a:=h ws[j] (sM b);rw[show ws[j]=ws.getD j Qo by simp[b]]at a;have c:=(XK _).1 a;have d:(ws.getD j Qo).value.length<=32:=by have:=c.2.2;split at this;(·rw[this];simp);·exact this
 exact⟨by omega,by omega,by omega⟩⟩
theorem MQ{c:Xo}(h:QU c=0):Nh c:=by
 obtain⟨b,d,a⟩:=(KM c).1 h;exact⟨by omega,DH (by omega) a⟩
def WU:Prop:=∀(w:L)(v u a b c:N)(l:FL)(t:Tx)(n k m:List UInt8),ZI w v l->Gh l->G2 w u t->xM t->Qe w a n->Qe w b k->Qe w c m->n.length<=140737488355328->k.length<=140737488355328->m.length<=140737488355328->rB tC 44 #[v,u,a,b,c] w fun e w'=>∃x,e=tJ (sK #[x,tE tH (JP l t n k m)])∧QJ 0 w' x (VY l t n k m)∧Y w w' M
def Iw:Prop:=∀(w:L)(v u x:N)(l:PL)(f t:List UInt8),Qp w v l->Qe w u f->Qe w x t->uC l->f.length<=140737488355328->t.length<=140737488355328->rB tC 82 #[v,u,x] w fun e w'=>∃y,e=tJ (sK #[y,tE tH (Yw l f t)])∧QJ 0 w' y (KH l f t)∧Y w w' M
def WX:Prop:=∀(w:L)(v r u t:N)(l:FL)(n k m:List UInt8),ZI w v l->Qe w r n->Qe w u k->Qe w t m->Gh l->n.length<=140737488355328->k.length<=140737488355328->m.length<=140737488355328->rB tC 57 #[v,r,u,t] w fun e w'=>∃x,e=tJ (sK #[x,tE tH (Yx l n k m)])∧QJ 0 w' x (Kd l n k m)∧Y w w' M
def Nw:Prop:=∀(w:L)(v:N)(bs:List UInt8)(i:Int),Qe w v bs->rB tC 125 #[v,tE tH i] w fun e w'=>e=tJ (sK #[tQ (BP bs i).1,tE tH (BP bs i).2])∧Y w w' M
theorem Nw.of(hB:Nw)(w:L)(v:N)(k:List UInt8)(i:Nat)(hv:Qe w v k)(hk:1<=k.length∧k.length<=16)(hi:i<145):rB tC 125 #[v,tE tH (i:Int)] w fun e w'=>e=tJ (sK #[tQ (ZQ k i),tE tH 0])∧Y w w' M:=by
 have:=hB w v k i hv;rw[cT k i hk hi]at this;exact this
def Rw:Prop:=∀(w:L)(v u:N)(a b:List UInt8),Qe w v a->Qe w u b->rB tC 136 #[v,u] w fun e w'=>e=tJ (sK #[tE tH (FY a b).1,tE tH (FY a b).2])∧Y w w' M
theorem Rw.of(hP:Rw)(w:L)(v u:N)(a b:List UInt8)(hv:Qe w v a)(hu:Qe w u b)(ha:1<=a.length∧a.length<=16)(hb:1<=b.length∧b.length<=16):rB tC 136 #[v,u] w fun e w'=>e=tJ (sK #[tE tH (JE a b),tE tH 0])∧Y w w' M:=by
 have:=hP w v u a b hv hu;rw[OK a b ha hb]at this;exact this
def Si:Prop:=∀(w:L)(v u:N)(t:Tx)(r:Q8),G2 w v t->xM t->Xb w u r->YQ r->rB tC 46 #[v,u] w fun e w'=>∃x,e=tJ (sK #[x,tE tH (ZP t r)])∧GW w' x (Ye t r)∧Y w w' M
def L0:Prop:=∀(w:L)(v:N)(r:Rq),UC w->Ux w v r->yQ r->rB tC 45 #[v] w fun e w'=>∃x,e=tJ (sK #[x,tE tH (YN r)])∧Xb w' x (ZW r)∧Y w w' M
def OL:Prop:=∀(w:L)(n t:Int),-9223372036854775808<=n->n<=9223372036854775807->-9223372036854775808<=t->t<=9223372036854775807->rB tC 41 #[tE tH n,tE tH t] w fun e w'=>e=tJ (tQ (Yv n t))∧Y w w' M
def b7:Prop:=∀(w:L)(v:N)(b:List UInt8),UC w->Qe w v b->b.length<=140737488355328->rB tC 28 #[v] w fun e w'=>∃x,e=tJ (sK #[x,tE tH (Xx b)])∧Ux w' x (JF b)∧Y w w' M
theorem Ib(b:List UInt8)(n:Nat)(h:n<b.length):Zr (b.drop n)=if n+1+(b.getD n 0).toNat<=b.length then O ((b.take (n+1+(b.getD n 0).toNat)).drop (n+1),b.drop (n+1+(b.getD n 0).toNat))else M:=by
 rw[sY h,Zr,show b[n]=b.getD n 0 by simp[h],pJ];by_cases a:n+1+(b.getD n 0).toNat<=b.length;·rw[if_pos (by omega),if_pos a,List.drop_take,List.drop_drop,Nat.add_sub_cancel_left]
 ·rw[if_neg (by omega),if_neg a]
def Ri(ws:List Q8):Prop:=∀p∈ws,p.name.length<=255∧p.key.length<=255∧p.value.length<=255
theorem Cy{ws:List Q8}{p:Q8}(h:Ri ws)(hp:p.name.length<=255∧p.key.length<=255∧p.value.length<=255):Ri (ws++[p]):=fun q a=>by
 rcases sD.1 a with a|a;·exact h q a
 ·simp only[tP,tU,or_false]at a;rw[a];exact hp
theorem Wm{b:List UInt8}(h:4000<b.length):YD b=1∧Jx b=Zj:=by
 have:YD b=1:=by rw[YD,if_pos h]
 exact⟨this,by rw[Jx,this,if_neg (by decide)]⟩
theorem Sf{b:List UInt8}(h:b.length<4):YD b=14∧Jx b=Zj:=by
 have:YD b=14:=by rw[YD,if_neg (by omega),if_pos h]
 exact⟨this,by rw[Jx,this,if_neg (by decide)]⟩
theorem L5{b:List UInt8}(h1:¬4000<b.length)(h2:¬b.length<4)(h:G7 b=M):YD b=14∧Jx b=Zj:=by
 have:YD b=14:=by rw[YD,if_neg h1,if_neg h2,h]
 exact⟨this,by rw[Jx,this,if_neg (by decide)]⟩
theorem LM{b r:List UInt8}{ws:List Q8}(h1:¬4000<b.length)(h2:¬b.length<4)(h:G7 b=O (ws,r))(hr:r.length≠0):YD b=4∧Jx b=Zj:=by
 have:YD b=4:=by rw[YD,if_neg h1,if_neg h2,h];show(if r.length=0then _ else(4:Int))=4;rw[if_neg hr]
 exact⟨this,by rw[Jx,this,if_neg (by decide)]⟩
theorem WI{b r:List UInt8}{ws:List Q8}(h1:¬4000<b.length)(h2:¬b.length<4)(h:G7 b=O (ws,r))(hr:r.length=0):YD b=QU ⟨(Gb b:Int),ws⟩∧(YD b=0->Jx b=⟨(Gb b:Int),ws⟩)∧(YD b≠0->Jx b=Zj):=by
 have:YD b=QU ⟨(Gb b:Int),ws⟩:=by rw[YD,if_neg h1,if_neg h2,h];show(if r.length=0then _ else(4:Int))=_;rw[if_pos hr]
 refine⟨this,fun a=>?_,fun a=>?_⟩;·rw[Jx,if_pos a,h]
 ·rw[Jx,if_neg a]
def Xf(k:Int)(m:Nat)(p0 p1 p2 p3 r:List UInt8):Option (Rq×List UInt8):=match m with|0=>Yb k r|1=>Vi k p0 r|2=>Vk k p0 p1 r|3=>Vj k p0 p1 p2 r|_=>O (⟨k,p0,p1,p2,p3⟩,r)
theorem JV(r:List UInt8):Jh tA r=Zr r:=rfl
theorem yY(r:List UInt8)(h:r.length=0):Zr r=M:=by
 rw[tN h];rfl
theorem uI(r:List UInt8)(h:0<r.length):Zr r=if 1+(r.getD 0 0).toNat<=r.length then O ((r.take (1+(r.getD 0 0).toNat)).drop 1,r.drop (1+(r.getD 0 0).toNat))else M:=by
 have:=Ib r 0 h;rw[sS]at this;exact this
theorem qI(k:Int)(p0 p1 p2 p3 r:List UInt8):(QQ k 0=tB->Xf k 0 p0 p1 p2 p3 r=Xf k 1 [] p1 p2 p3 r)∧(QQ k 1=tB->Xf k 1 p0 p1 p2 p3 r=Xf k 2 p0 [] p2 p3 r)∧(QQ k 2=tB->Xf k 2 p0 p1 p2 p3 r=Xf k 3 p0 p1 [] p3 r)∧(QQ k 3=tB->Xf k 3 p0 p1 p2 p3 r=Xf k 4 p0 p1 p2 [] r):=by
 refine⟨fun h=>?_,fun h=>?_,fun h=>?_,fun h=>?_⟩;·show Yb k r=Vi k [] r;rw[Yb,show QS k=tB from h];rfl
 ·show Vi k p0 r=Vk k p0 [] r;rw[Vi,show QS k=tB from h];rfl
 ·show Vk k p0 p1 r=Vj k p0 p1 [] r;rw[Vk,show tT (k=3)=tB from h];rfl
 ·show Vj k p0 p1 p2 r=O (⟨k,p0,p1,p2,[]⟩,r);rw[Vj,show tT (k=4)=tB from h];rfl
theorem Gc(k:Int)(p0 p1 p2 p3 r:List UInt8)(h0:Zr r=M)(m:Nat)(hm:m<4)(h:QQ k m=tA):Xf k m p0 p1 p2 p3 r=M:=by
 match m,hm with|0,_=>show Yb k r=M;rw[Yb,show QS k=tA from h,JV,h0]|1,_=>show Vi k p0 r=M;rw[Vi,show QS k=tA from h,JV,h0]|2,_=>show Vk k p0 p1 r=M;rw[Vk,show tT (k=3)=tA from h,JV,h0]|3,_=>show Vj k p0 p1 p2 r=M;rw[Vj,show tT (k=4)=tA from h,JV,h0]
theorem Gd(k:Int)(p0 p1 p2 p3 r p r2:List UInt8)(h0:Zr r=O (p,r2)):(QQ k 0=tA->Xf k 0 p0 p1 p2 p3 r=Xf k 1 p p1 p2 p3 r2)∧(QQ k 1=tA->Xf k 1 p0 p1 p2 p3 r=Xf k 2 p0 p p2 p3 r2)∧(QQ k 2=tA->Xf k 2 p0 p1 p2 p3 r=Xf k 3 p0 p1 p p3 r2)∧(QQ k 3=tA->Xf k 3 p0 p1 p2 p3 r=Xf k 4 p0 p1 p2 p r2):=by
 refine⟨fun h=>?_,fun h=>?_,fun h=>?_,fun h=>?_⟩;·show Yb k r=Vi k p r2;rw[Yb,show QS k=tA from h,JV,h0]
 ·show Vi k p0 r=Vk k p0 p r2;rw[Vi,show QS k=tA from h,JV,h0]
 ·show Vk k p0 p1 r=Vj k p0 p1 p r2;rw[Vk,show tT (k=3)=tA from h,JV,h0]
 ·show Vj k p0 p1 p2 r=O (⟨k,p0,p1,p2,p⟩,r2);rw[Vj,show tT (k=4)=tA from h,JV,h0]
def Wp(k:Int)(b:List UInt8):Int:=match Yb k b with|none=>14|O (_,x)=>if x.length=0then 0 else 4
def Tp(k:Int)(b:List UInt8):Rq:=match Yb k b with|none=>V6|O (r,x)=>if x.length=0then r else V6
theorem FJ{k:Int}{b:List UInt8}(h:Yb k b=M):Wp k b=14∧Tp k b=V6:=by
 unfold Wp Tp;rw[h];exact⟨rfl,rfl⟩
theorem FO{k:Int}{b x:List UInt8}{r:Rq}(h:Yb k b=O (r,x))(hx:0<x.length):Wp k b=4∧Tp k b=V6:=by
 unfold Wp Tp;rw[h];exact⟨if_neg (by omega),if_neg (by omega)⟩
theorem FH{k:Int}{b x:List UInt8}{r:Rq}(h:Yb k b=O (r,x))(hx:x.length=0):Wp k b=0∧Tp k b=r:=by
 unfold Wp Tp;rw[h];exact⟨if_pos hx,if_pos hx⟩
theorem dE{k:Int}{b:List UInt8}(h:Wp k b=0):(Tp k b).kind=k:=by
 match hD:Yb k b with|none=>rw[(FJ hD).1]at h;cases h|O (r,x)=>by_cases a:x.length=0;(·rw[(FH hD a).2];exact(Tl hD).2);·rw[(FO hD (by omega)).1]at h;cases h
theorem cX{b:List UInt8}(h1:¬4000<b.length)(h2:¬b.length=0)(hk:1<=Uq b∧Uq b<=8):Xx b=(if Wp (Uq b) (b.drop 1)=0then Yf (Tp (Uq b) (b.drop 1))else Wp (Uq b) (b.drop 1))∧(Xx b=0->JF b=Tp (Uq b) (b.drop 1)):=by
 match hD:Yb (Uq b) (b.drop 1)with|none=>obtain⟨a,d⟩:=FJ hD;(have:Xx b=14:=by rw[Xx,if_neg h1,if_neg h2,if_pos hk,hD]);rw[a,this];exact⟨rfl,fun h=>by cases h⟩|O (r,x)=>(have c:Xx b=if x.length=0then Yf r else 4:=by rw[Xx,if_neg h1,if_neg h2,if_pos hk,hD]);by_cases e:x.length=0;(·obtain⟨a,d⟩:=FH hD e;rw[if_pos e]at c;rw[a,d,if_pos rfl];exact⟨c,fun h=>by rw[JF,if_pos h,hD]⟩);·obtain⟨a,d⟩:=FO hD (by omega);rw[if_neg e]at c;rw[a,c];exact⟨rfl,fun h=>by cases h⟩
theorem b8{k:Int}{b:List UInt8}(hb:b.length<=4000):(Tp k b).name.length<=4000∧(Tp k b).key.length<=4000∧(Tp k b).last.length<=4000∧(Tp k b).value.length<=4000:=by
 match hD:Yb k b with|none=>rw[(FJ hD).2];simp[V6]|O (r,x)=>by_cases j:x.length=0;(·rw[(FH hD j).2];obtain⟨_,q,a,s,e,f,g,i⟩:=kX hD;(have key:∀{c:Bool}{r p a:List UInt8},Jh c r=O (p,a)->p.length<=r.length∧a.length<=r.length:=by intro c r p a h;have d:=VO h;cases c with|false=>have:=WC h rfl;subst this;rw[d];exact⟨tV _,by simp[Xl]⟩|true=>rw[d];simp[Xl,XM];omega);have l:=key e;have m:=key f;have n:=key g;have o:=key i;omega);·rw[(FO hD (by omega)).2];simp[V6]
section
variable{D:List UInt8->List UInt8}{v:Sv}
theorem S9(hD:∀x,(D x).length=4):∀(cs:List Xo),(∀c∈cs,QU c=0)->(QR D cs).length<=600*cs.length|[],_=>by simp[QR]|c::cs,h=>by have b:=(yP hD (h c sG)).2;have d:=S9 hD cs (fun x a=>h x (tW _ a));(have e:QR D (c::cs)=ZA D c++QR D cs:=by simp[QR]);rw[e,tG,sL];omega
theorem Zz.each(h:Zz D v):∀c∈v.commits,QU c=0:=fun c b=>by
 obtain⟨i,a,e⟩:=pT b;have:=(h.goes.at i a).1;rw[List.getD_eq_getElem?_getD,List.getElem?_eq_getElem a,e]at this;exact this
theorem bF(hD:∀x,(D x).length=4)(h:Zz D v){s:Nat}(hb:v.begun s=tA)(hw:¬(v.txns s).writes.length=0):Va D v.tape (YV v s)=0:=by
 have c:=h.many;have a:QU (YV v s)=0:=Ff (h.tx s hb).1 hw v.commits.length c;have d:=(yP hD a).2;have e:=S9 hD v.commits h.each;have b:=h.data;rw[Va,if_pos h.may,if_pos a,if_neg (by rw[b];omega)]
def NY(v:Sv)(s:Nat):Sv:=if(v.txns s).writes.length=0then Zq (Xk v s) (Au s (v.txns s).start)else if v.queue.length=6∨v.commits.length=300then Zq v (Uw s 11)else if Jz (v.txns s) v.commits=tA then Zq (Xk v s) (Uw s 9)else if QK (Qv v v.commits.length) (v.txns s).writes≠0then Zq (Xk v s) (Uw s (QK (Qv v v.commits.length) (v.txns s).writes))else{Xk v s with commits:=v.commits++[YV v s],queue:=v.queue++[s],waits:=Ko v.waits s tA}
def fZ(v:Sv)(s:Nat)(r:Rq):Sv:=if r.kind=8then E7 v s r else if Zb v s r=tA then Zq v (Uw s 6)else if r.kind=1then Zq {v with begun:=Ko v.begun s tA,txns:=Ko v.txns s ⟨(v.synced:Int),[],[]⟩} (Au s (v.synced:Int))else if r.kind=7then Zq (Xk v s) (Uw s 0)else if Yv (v.synced:Int) (v.txns s).start=tB then Zq (Xk v s) (Uw s 10)else if r.kind=6then NY v s else VU v s r
def gZ(v:Sv)(s:Nat)(data:List UInt8):Sv:=if v.up=tB then Zq v (Uw s 13)else if Xx data=0then fZ v s (JF data)else Zq v (Uw s (Xx data))
def iU(v:Sv):Sv:={v with synced:=v.synced+v.queue.length,waits:=UG v.waits v.queue,queue:=[],out:=v.out++Vl v.synced v.queue}
def dK(v:Sv)(a:Ac):Sv:=if a.kind=1then gZ v a.sess.toNat a.data else if a.kind=2then(if v.up=tA then iU v else v)else{v with up:=tA}
def dC(l:List Ac):Sv:=l.foldl dK Am
def Vb(v:Sv):Sv:={v with tape:=VL}
theorem Nd(v:Sv)(s:Nat)(x:Rd)(o:Rp):Vb (KV v s x o)=KV (Vb v) s x o:=by
 unfold KV;show Vb (if Xa (v.txns s) x=0then _ else _)=if Xa (v.txns s) x=0then _ else _;split<;>rfl
theorem LZ(v:Sv)(s:Nat)(r:Rq):Vb (VU v s r)=VU (Vb v) s r:=by
 unfold VU;split;·unfold GH;show Vb (Zq (if ZP (v.txns s) _=0then _ else _) _)=Zq (if ZP (v.txns s) _=0then _ else _) _;split<;>rfl
 ·split;(·unfold RY;show Vb (if KX (Qv v (v.txns s).start.toNat) (v.txns s) r.name r.key=tA then _ else _)=if KX (Qv v (v.txns s).start.toNat) (v.txns s) r.name r.key=tA then _ else _;split;(·rfl);·exact Nd v s _ _);·unfold vJ;show Vb (if JP (Qv v (v.txns s).start.toNat) (v.txns s) r.name r.key r.last=0then _ else _)=if JP (Qv v (v.txns s).start.toNat) (v.txns s) r.name r.key r.last=0then _ else _;split;(·exact Nd v s _ _);·rfl
theorem Dx(hD:∀x,(D x).length=4)(h:Zz D v){s:Nat}(hb:v.begun s=tA):Vb (Ja D v s)=NY (Vb v) s:=by
 unfold Ja NY;show Vb (if(v.txns s).writes.length=0then _ else if v.queue.length=6∨v.commits.length=300then _ else if Jz (v.txns s) v.commits=tA then _ else if QK (Qv v v.commits.length) (v.txns s).writes≠0then _ else _)=if(v.txns s).writes.length=0then _ else if v.queue.length=6∨v.commits.length=300then _ else if Jz (v.txns s) v.commits=tA then _ else if QK (Qv v v.commits.length) (v.txns s).writes≠0then _ else _;by_cases a:(v.txns s).writes.length=0;·rw[if_pos a,if_pos a];rfl
 ·rw[if_neg a,if_neg a];by_cases b:v.queue.length=6∨v.commits.length=300;(·rw[if_pos b,if_pos b];rfl);·rw[if_neg b,if_neg b];by_cases c:Jz (v.txns s) v.commits=tA;(·rw[if_pos c,if_pos c];rfl);·rw[if_neg c,if_neg c];by_cases d:QK (Qv v v.commits.length) (v.txns s).writes≠0;(·rw[if_pos d,if_pos d];rfl);·rw[if_neg d,if_neg d,if_neg (fun e=>e (bF hD h hb a))];rfl
theorem O2(hD:∀x,(D x).length=4)(h:Zz D v)(s:Nat)(r:Rq):Vb (Vu D v s r)=fZ (Vb v) s r:=by
 unfold Vu fZ;have g:Zb (Vb v) s r=Zb v s r:=rfl;rw[g];by_cases c:r.kind=8;·rw[if_pos c,if_pos c];rfl
 ·rw[if_neg c,if_neg c];by_cases a:Zb v s r=tA;(·rw[if_pos a,if_pos a];rfl);·rw[if_neg a,if_neg a];by_cases b:r.kind=1;(·rw[if_pos b,if_pos b];rfl);·rw[if_neg b,if_neg b];(have i:v.begun s=tA:=by unfold Zb at a;rw[if_neg b]at a;cases hw:v.waits s<;>cases hv:v.begun s<;>simp[hw,hv]at a⊢);by_cases d:r.kind=7;(·rw[if_pos d,if_pos d];rfl);·rw[if_neg d,if_neg d];show Vb (if Yv (v.synced:Int) (v.txns s).start=tB then _ else _)=if Yv (v.synced:Int) (v.txns s).start=tB then _ else _;by_cases e:Yv (v.synced:Int) (v.txns s).start=tB;(·rw[if_pos e,if_pos e];rfl);·rw[if_neg e,if_neg e];by_cases f:r.kind=6;(·rw[if_pos f,if_pos f];exact Dx hD h i);·rw[if_neg f,if_neg f];exact LZ v s r
theorem bA(hD:∀x,(D x).length=4)(h:Zz D v){a:Ac}(ha:a.kind≠3):Vb (ZS D v a)=dK (Vb v) a:=by
 unfold ZS dK;by_cases b:a.kind=1;·rw[if_pos b,if_pos b];unfold Ue gZ;show Vb (if v.up=tB then _ else _)=if v.up=tB then _ else _;split;(·rfl);·split;(·exact O2 hD h _ _);·rfl
 ·rw[if_neg b,if_neg b];by_cases c:a.kind=2;(·rw[if_pos c,if_pos c];show Vb (if v.up=tA then _ else _)=if v.up=tA then _ else _;split<;>rfl);·rw[if_neg c,if_neg c,if_neg ha];rfl
theorem EP(hD:∀x,(D x).length=4):∀(l:List Ac)(v:Sv),Zz D v->(∀a∈l,XT a∧a.kind≠3)->Vb (l.foldl (ZS D) v)=l.foldl dK (Vb v)|[],_,_,_=>rfl|a::l,v,h,ha=>by have b:=ha a sG;rw[oG,oG,EP hD l _ (h.act hD b.1) (fun x c=>ha x (tW _ c)),bA hD h b.2]
end
def XQ(r:Rq):Nat->List UInt8|0=>[rX r.kind.toNat]|1=>[rX r.kind.toNat]++Xl (QQ r.kind 0) r.name|2=>[rX r.kind.toNat]++Xl (QQ r.kind 0) r.name++Xl (QQ r.kind 1) r.key|3=>[rX r.kind.toNat]++Xl (QQ r.kind 0) r.name++Xl (QQ r.kind 1) r.key++Xl (QQ r.kind 2) r.last|_=>[rX r.kind.toNat]++Xl (QQ r.kind 0) r.name++Xl (QQ r.kind 1) r.key++Xl (QQ r.kind 2) r.last++Xl (QQ r.kind 3) r.value
theorem Wj(r:Rq):XQ r 4=XH r:=by
 show[rX r.kind.toNat]++Xl (QS r.kind) r.name++Xl (QS r.kind) r.key++Xl (tT (r.kind=3)) r.last++Xl (tT (r.kind=4)) r.value=_;rw[XH,zT];simp[List.append_assoc]
theorem Ha{r:Rq}(h:JI r)(m:Nat):(XQ r m).length<=200:=by
 have a:r.name.length<=8:=by by_cases e:QS r.kind=tA;(·exact(h.name e).2);·rw[h.noName (by simpa using e)];simp
 have b:r.key.length<=16:=by by_cases e:QS r.kind=tA;(·exact(h.key e).2);·rw[h.noKey (by simpa using e)];simp
 have c:r.last.length<=16:=by by_cases e:r.kind=3;(·exact(h.last e).2);·rw[h.noLast e];simp
 have d:=h.value;have f:=KW (QQ r.kind 0) r.name;have g:=KW (QQ r.kind 1) r.key;have i:=KW (QQ r.kind 2) r.last;have j:=KW (QQ r.kind 3) r.value;match m with|0=>simp[XQ]|1=>simp only[XQ,tG,sE];omega|2=>simp only[XQ,tG,sE];omega|3=>simp only[XQ,tG,sE];omega|m+4=>simp only[XQ,tG,sE];omega
structure Vr where
  rest : List UInt8
  short : Bool
def Fq(r:Vr)(n:Nat):List UInt8:=if r.short=tA∨r.rest.length<n then[]else r.rest.take n
def Ba(r:Vr)(n:Nat):Vr:=if r.short=tA∨r.rest.length<n then⟨r.rest,tA⟩else⟨r.rest.drop n,tB⟩
theorem FX{r:Vr}{n:Nat}(h:r.short=tA∨r.rest.length<n):Fq r n=[]∧Ba r n=⟨r.rest,tA⟩:=⟨if_pos h,if_pos h⟩
theorem vG{r:Vr}{n:Nat}(h:¬(r.short=tA∨r.rest.length<n)):Fq r n=r.rest.take n∧Ba r n=⟨r.rest.drop n,tB⟩:=⟨if_neg h,if_neg h⟩
theorem bV(r:Vr)(n:Nat):(Fq r n).length<=n:=by
 unfold Fq;split;·simp
 ·rw[rM];omega
def Xe(r:Vr):Vr:=Ba r 1
def JA(r:Vr):Nat:=if(Xe r).short=tA then 0 else((Fq r 1).getD 0 0).toNat
theorem Ym(r:Vr):JA r<256:=by
 unfold JA;split;·omega
 ·exact((Fq r 1).getD 0 0).toNat_lt
theorem YX(x:UInt8)(l:List UInt8):Xe ⟨x::l,tB⟩=⟨l,tB⟩∧JA ⟨x::l,tB⟩=x.toNat:=by
 have h:¬((⟨x::l,tB⟩:Vr).short=tA∨(⟨x::l,tB⟩:Vr).rest.length<1):=by simp
 obtain⟨b,c⟩:=vG h;have a:Xe ⟨x::l,tB⟩=⟨l,tB⟩:=c;refine⟨a,?_⟩;rw[JA,a,b,if_neg (by simp)];rfl
theorem Pa{r:Vr}(h:r.short=tA)(n:Nat):(Ba r n).short=tA:=by
 rw[(FX (.inl h)).2]
theorem Ka{r:Vr}(h:r.short=tA):(Xe r).short=tA:=Pa h 1
theorem yS:(Xe ⟨[],tB⟩).short=tA:=rfl
def SZ(r:Vr):List UInt8:=Fq (Xe r) (JA r)
def KA(r:Vr):Vr:=Ba (Xe r) (JA r)
theorem VG{r:Vr}(h:r.short=tA):(KA r).short=tA:=Pa (Ka h) _
theorem vR{l p l2:List UInt8}(h:Zr l=O (p,l2)):SZ ⟨l,tB⟩=p∧KA ⟨l,tB⟩=⟨l2,tB⟩:=by
 cases l with|nil=>cases h|cons x l=>rw[Zr]at h;obtain⟨b,c⟩:=YX x l;unfold SZ KA;rw[b,c];by_cases a:x.toNat<=l.length;(·rw[if_pos a]at h;simp only[tF,rY]at h;obtain⟨rfl,rfl⟩:=h;exact vG (by simp;omega));·rw[if_neg a]at h;cases h
theorem FK{l:List UInt8}(h:Zr l=M):(KA ⟨l,tB⟩).short=tA:=by
 cases l with|nil=>exact Pa yS _|cons x l=>rw[Zr]at h;obtain⟨a,b⟩:=YX x l;unfold KA;rw[a,b];by_cases c:x.toNat<=l.length;(·rw[if_pos c]at h;cases h);·rw[(FX (.inr (by show l.length<x.toNat;omega))).2]
theorem Ra(r:Vr):(SZ r).length<=255:=tS (bV _ _) (pY (Ym r))
def FZ(r:Vr):Q8:=if JA (KA (KA r))=255then⟨SZ r,SZ (KA r),[],tA⟩else⟨SZ r,SZ (KA r),SZ (KA (KA r)),tB⟩
def CZ(r:Vr):Vr:=if JA (KA (KA r))=255then Xe (KA (KA r))else KA (KA (KA r))
theorem DW{r:Vr}(h:r.short=tA):(CZ r).short=tA:=by
 unfold CZ;split;·exact Ka (VG (VG h))
 ·exact VG (VG (VG h))
theorem TY{r:Vr}(h:(KA (KA r)).short=tA):(CZ r).short=tA:=by
 unfold CZ;split;·exact Ka h
 ·exact VG h
theorem cZ{l l2:List UInt8}{p:Q8}(h:Jd l=O (p,l2)):FZ ⟨l,tB⟩=p∧CZ ⟨l,tB⟩=⟨l2,tB⟩:=by
 unfold Jd at h;cases h1:Zr l with|none=>rw[h1]at h;cases h|some q=>obtain⟨n,f⟩:=q;rw[h1]at h;have h:Mt n f=O (p,l2):=h;unfold Mt at h;obtain⟨g,i⟩:=vR h1;cases h2:Zr f with|none=>rw[h2]at h;cases h|some q=>obtain⟨k,a⟩:=q;rw[h2]at h;have h:uT n k a=O (p,l2):=h;unfold uT at h;obtain⟨j,m⟩:=vR h2;unfold FZ CZ;rw[g,i,j,m];cases a with|nil=>cases h|cons x a=>obtain⟨o,d⟩:=YX x a;by_cases c:(x::a).head?=O 255;(·rw[if_pos c]at h;simp only[tF,rY]at h;obtain⟨rfl,rfl⟩:=h;have:x=255:=oL c;subst this;rw[d,o,if_pos (by rfl),if_pos (by rfl)];exact⟨rfl,rfl⟩);·rw[if_neg c]at h;have b:¬x.toNat=255:=fun e=>c (by rw[show x=255from pZ.1 e];rfl);rw[d,if_neg b,if_neg b];cases h3:Zr (x::a)with|none=>rw[h3]at h;cases h|some q=>obtain⟨v,t⟩:=q;rw[h3]at h;simp only[tF,rY]at h;obtain⟨rfl,rfl⟩:=h;obtain⟨r,s⟩:=vR h3;rw[r,s];exact⟨rfl,rfl⟩
theorem cJ{l:List UInt8}(h:Jd l=M):(CZ ⟨l,tB⟩).short=tA:=by
 unfold Jd at h;cases h1:Zr l with|none=>exact TY (VG (FK h1))|some q=>obtain⟨n,f⟩:=q;rw[h1]at h;have h:Mt n f=M:=h;unfold Mt at h;obtain⟨j,d⟩:=vR h1;cases h2:Zr f with|none=>exact TY (by rw[d];exact FK h2)|some q=>obtain⟨k,a⟩:=q;rw[h2]at h;have h:uT n k a=M:=h;unfold uT at h;obtain⟨m,g⟩:=vR h2;unfold CZ;rw[d,g];cases a with|nil=>split;(·exact yS);·exact FK rfl|cons x a=>obtain⟨o,i⟩:=YX x a;by_cases c:(x::a).head?=O 255;(·rw[if_pos c]at h;cases h);·rw[if_neg c]at h;have b:¬x.toNat=255:=fun e=>c (by rw[show x=255from pZ.1 e];rfl);rw[i,if_neg b];cases h3:Zr (x::a)with|none=>exact FK h3|some q=>obtain⟨v,p⟩:=q;rw[h3]at h;cases h
theorem I8(r:Vr):(FZ r).name.length<=255∧(FZ r).key.length<=255∧(FZ r).value.length<=255:=by
 unfold FZ;split;·exact⟨Ra _,Ra _,by simp⟩
 ·exact⟨Ra _,Ra _,Ra _⟩
def UI:Nat->Vr->Vr|0,r=>r|n+1,r=>CZ (UI n r)
def Uz:Nat->Vr->List Q8|0,_=>[]|n+1,r=>Uz n r++[FZ (UI n r)]
theorem Mz:∀(n:Nat)(r:Vr),(Uz n r).length=n|0,_=>rfl|n+1,r=>by rw[Uz,tG,Mz n r];rfl
theorem EW:∀(n:Nat)(r:Vr),Ri (Uz n r)|0,_=>fun p a=>by simp[Uz]at a|n+1,r=>Cy (EW n r) (I8 _)
theorem EQ:∀(n:Nat){r:Vr},r.short=tA->(UI n r).short=tA|0,_,h=>h|n+1,_,h=>DW (EQ n h)
theorem vE:∀(n:Nat){l l2:List UInt8}{ws:List Q8},ZR n l=O (ws,l2)->Uz n ⟨l,tB⟩=ws∧UI n ⟨l,tB⟩=⟨l2,tB⟩|0,l,l2,ws,h=>by rw[ZR]at h;simp only[tF,rY]at h;obtain⟨rfl,rfl⟩:=h;exact⟨rfl,rfl⟩|n+1,l,l2,ws,h=>by rw[xI]at h;cases h1:ZR n l with|none=>rw[h1]at h;cases h|some q=>obtain⟨a,b⟩:=q;rw[h1]at h;have h:(match Jd b with|O (w,r2)=>O (a++[w],r2)|none=>M)=O (ws,l2):=h;obtain⟨e,f⟩:=vE n h1;cases h2:Jd b with|none=>rw[h2]at h;cases h|some q=>obtain⟨p,g⟩:=q;rw[h2]at h;simp only[tF,rY]at h;obtain⟨rfl,rfl⟩:=h;obtain⟨c,d⟩:=cZ h2;rw[Uz,UI,e,f,c,d];exact⟨rfl,rfl⟩
theorem DN:∀(n:Nat){l:List UInt8},ZR n l=M->(UI n ⟨l,tB⟩).short=tA|0,l,h=>by rw[ZR]at h;cases h|n+1,l,h=>by rw[xI]at h;cases h1:ZR n l with|none=>exact DW (DN n h1)|some q=>obtain⟨a,b⟩:=q;rw[h1]at h;have h:(match Jd b with|O (w,r2)=>O (a++[w],r2)|none=>M)=M:=h;obtain⟨d,c⟩:=vE n h1;cases h2:Jd b with|none=>rw[UI,c];exact cJ h2|some q=>obtain⟨p,e⟩:=q;rw[h2]at h;cases h
def Ej(r:Vr):Vr:=UI (JA (Xe (Xe (Xe r)))) (Xe (Xe (Xe (Xe r))))
def Et(r:Vr):Xo:=⟨((65536*JA r+256*JA (Xe r)+JA (Xe (Xe r)):Nat):Int),Uz (JA (Xe (Xe (Xe r)))) (Xe (Xe (Xe (Xe r))))⟩
theorem Dh(r:Vr):Ri (Et r).writes∧(Et r).writes.length<=255:=⟨EW _ _,by
 show(Uz _ _).length<=255;rw[Mz];exact pY (Ym _)⟩
theorem Lx(b:List UInt8)(h:¬b.length<4):JA ⟨b,tB⟩=(b.getD 0 0).toNat∧JA (Xe ⟨b,tB⟩)=(b.getD 1 0).toNat∧JA (Xe (Xe ⟨b,tB⟩))=(b.getD 2 0).toNat∧JA (Xe (Xe (Xe ⟨b,tB⟩)))=(b.getD 3 0).toNat∧Xe (Xe (Xe (Xe ⟨b,tB⟩)))=⟨b.drop 4,tB⟩:=by
 match b,h with|[],h=>exact absurd (by simp) h|[_],h=>exact absurd (by simp) h|[_,_],h=>exact absurd (by simp) h|[_,_,_],h=>exact absurd (by simp) h|x0::x1::x2::x3::b,_=>obtain⟨a,c⟩:=YX x0 (x1::x2::x3::b);obtain⟨d,e⟩:=YX x1 (x2::x3::b);obtain⟨f,g⟩:=YX x2 (x3::b);obtain⟨i,j⟩:=YX x3 b;rw[a,d,f,i];exact⟨c,e,g,j,rfl⟩
theorem gI(b:List UInt8)(h:b.length<4):(Ej ⟨b,tB⟩).short=tA:=by
 unfold Ej;refine EQ _ ?_;match b,h with|[],_=>exact Ka (Ka (Ka yS))|[x],_=>rw[(YX x []).1];exact Ka (Ka yS)|[x,y],_=>rw[(YX x [y]).1,(YX y []).1];exact Ka yS|[x,y,z],_=>rw[(YX x [y,z]).1,(YX y [z]).1,(YX z []).1];exact yS|_::_::_::_::_,h=>exact absurd h (by simp only[sL];omega)
theorem I0{b:List UInt8}(h0:¬4000<b.length)(h:(Ej ⟨b,tB⟩).short=tA):YD b=14∧Jx b=Zj:=by
 by_cases a:b.length<4;·exact Sf a
 ·obtain⟨_,_,_,c,d⟩:=Lx b a;cases hb:G7 b with|none=>exact L5 h0 a hb|some q=>obtain⟨f,l⟩:=q;obtain⟨_,e⟩:=vE _ hb;unfold Ej at h;rw[c,d,e]at h;cases h
theorem M6{b:List UInt8}(h:(Ej ⟨b,tB⟩).short=tB):¬b.length<4∧G7 b=O ((Et ⟨b,tB⟩).writes,(Ej ⟨b,tB⟩).rest)∧(Gb b:Int)=(Et ⟨b,tB⟩).turn:=by
 by_cases a:b.length<4;·rw[gI b a]at h;cases h
 ·obtain⟨e,f,g,c,d⟩:=Lx b a;refine⟨a,?_,?_⟩;(·cases hb:G7 b with|none=>have:=DN _ hb;unfold Ej at h;rw[c,d,this]at h;cases h|some q=>obtain⟨k,l⟩:=q;obtain⟨i,j⟩:=vE _ hb;unfold Ej Et;rw[c,d,i,j]);·unfold Et;rw[e,f,g];rfl
theorem eG{b:List UInt8}(h0:¬4000<b.length)(h:(Ej ⟨b,tB⟩).short=tB)(hr:(Ej ⟨b,tB⟩).rest.length≠0):YD b=4∧Jx b=Zj:=by
 obtain⟨a,c,_⟩:=M6 h;exact LM h0 a c hr
theorem dV{b:List UInt8}(h0:¬4000<b.length)(h:(Ej ⟨b,tB⟩).short=tB)(hr:(Ej ⟨b,tB⟩).rest.length=0):YD b=QU (Et ⟨b,tB⟩)∧(YD b=0->Jx b=Et ⟨b,tB⟩)∧(YD b≠0->Jx b=Zj):=by
 obtain⟨a,c,d⟩:=M6 h;have:=WI h0 a c hr;rw[d]at this;exact this
theorem ZD(w:L)(o:Obj):∃W:L,Hid (W=w.alloc o)∧Y w W M∧Hid (W.heap[w.heap.size]?=O o):=⟨w.alloc o,rfl,rA _ _ _,oK w o⟩
theorem kH(w:L)(b i:Nat)(u:N):∃W:L,Hid (W=tI w ⟨b,i,M⟩ u)∧Y w W (O b):=⟨_,rfl,YJ w b i u⟩
theorem iX:(194:Nat)≠5:=by
 decide
theorem eR:(194:Nat)≠118:=by
 decide
theorem Qe.rdr{w w':L}{b:Nat}{a0:Option rD}{n0 c0:Nat}{s:Bool}{t:sB}{v:N}{bs:List UInt8}(h:Qe w v bs)(hb:w.heap[b]?=O (tD #[S a0 n0 c0,tQ s] t))(hg:Y w w' (O b)):Qe w' v bs:=by
 obtain⟨a,cap,rfl,f,h⟩:=h;refine⟨a,cap,rfl,f,?_⟩;rcases h with h|⟨g,o,rfl,h⟩;·exact .inl h
 ·by_cases d:bs=[];(·exact .inl ⟨d,fun e=>by cases e⟩);·refine .inr ⟨g,o,rfl,h.grown hg ?_⟩;intro e;cases e;have c:=h 0 (rV.2 d);simp only[tY,hb,Nat.add_zero]at c;match o,c with|0,c=>simp at c|1,c=>simp at c|o+2,c=>simp at c
structure Zd (w0 w : L) (b : Nat) (r : Vr) : Prop where
  at_ : ∃ a cap, w.heap[b]? = O (tD #[S a r.rest.length cap, tQ r.short] 194) ∧ Qe w0 (S a r.rest.length cap) r.rest
  old : ∃ a n c s, w0.heap[b]? = O (tD #[S a n c, tQ s] 194)
  grown : Y w0 w (O b)
theorem Zd.lt{w0 w:L}{b:Nat}{r:Vr}(h:Zd w0 w b r):b<w.heap.size:=by
 obtain⟨a,cap,h,_⟩:=h.at_;exact(tM.1 h).1
theorem Zd.now{w0 w:L}{b:Nat}{r:Vr}(h:Zd w0 w b r){v:N}{bs:List UInt8}(hv:Qe w0 v bs):Qe w v bs:=by
 obtain⟨a,n,c,s,d⟩:=h.old;exact hv.rdr d h.grown
theorem Zd.row{w0 w:L}{b:Nat}{r:Vr}(h:Zd w0 w b r):O b=M∨∃g cur t fz,O b=O g∧0<=g∧w.heap[g]?=O (tD cur t fz)∧t≠5:=by
 obtain⟨a,cap,h,_⟩:=h.at_;exact .inr ⟨b,_,_,_,rfl,tV _,h,iX⟩
theorem Qg.rdr{w0 w w':L}{b:Nat}{r:Vr}{v:N}{bs:List UInt8}(h:Qg 0 w v bs)(hb:Zd w0 w b r)(hg:Y w w' (O b)):Qg 0 w' v bs:=h.keptT hg hb.row
theorem Xp{w w':L}(hg:Y w w' M)(r:Option Nat):Y w w' r:=⟨hg.os,hg.tape,hg.output,hg.size,fun i hi _=>hg.block i hi (by
 simp)⟩
theorem Zd.kept{w0 w w':L}{b:Nat}{r:Vr}(h:Zd w0 w b r)(hg:Y w w' M):Zd w0 w' b r:=by
 have d:=h.lt;obtain⟨a,cap,c,e⟩:=h.at_;exact⟨⟨a,cap,by rw[hg.block b d (by simp)];exact c,e⟩,h.old,Qa h.grown (Xp hg _)⟩
theorem Xd{w w':L}{b:Nat}(hg:Y w w' (O b)){c:Nat}{o:Obj}(hc:w.heap[c]?=O o)(hne:c≠b):w'.heap[c]?=O o:=by
 rw[hg.block c (tM.1 hc).1 (by simpa using hne)];exact hc
theorem Zd.apart{w0 w w':L}{b:Nat}{r:Vr}(h:Zd w0 w b r){c:Nat}(hne:b≠c)(hc:w0.heap.size<=c)(hg:Y w w' (O c)):Zd w0 w' b r:=by
 have e:=h.lt;obtain⟨a,cap,d,f⟩:=h.at_;exact⟨⟨a,cap,by rw[hg.block b e (by simpa using hne)];exact d,f⟩,h.old,Ju h.grown hc hg⟩
theorem QW.rdr{rb:Nat}{w0 w w':L}{b:Nat}{r:Vr}{v:N}{l:List Q8}(h:QW rb 0 w v l)(hb:Zd w0 w b r)(hg:Y w w' (O b)):QW rb 0 w' v l:=by
 obtain⟨a,cap,c,_⟩:=hb.at_;exact h.kept hg (.inr (h.ne c eR)) hb.row
theorem Zd.ownV{rb:Nat}{w0 w w':L}{b:Nat}{r:Vr}{v:N}{l:List Q8}(h:Zd w0 w b r)(ho:QW rb 0 w v l)(hb:w0.heap.size<=rb)(hg:Y w w' v.ownBlock):Zd w0 w' b r:=by
 obtain⟨a,cap,f,i⟩:=h.at_;have d:=ho.ne f eR;cases hv:v.ownBlock with|none=>rw[hv]at hg;exact h.kept hg|some g=>rw[hv]at hg d;exact h.apart (c:=g) (fun e=>d (by rw[e])) (tS hb (ho.lt g hv).1) hg
section
open Go.ChangeShapes Go.WideShapes Go.ChangeAt Go.RowKit
theorem own:ownKnob tC.godebug=M:=by
 kernel_rfl
theorem cK:laidOutB tC=tA:=by
 kernel_rfl
theorem VW{n:Int}(h:(Lit.int tH n).wf=tA):-9223372036854775808<=n∧n<=9223372036854775807:=bounds_i64 h
theorem OI{w w':L}(h:Y w w' M):Below w.heap.size w w':=⟨h.os,h.tape,h.output,h.size,fun k hk=>h.block k hk (by
 simp)⟩
end
structure Bm(g:Gr):Prop where kind:-9223372036854775808<=g.kind∧g.kind<=9223372036854775807sess:-9223372036854775808<=g.sess∧g.sess<=9223372036854775807name:-9223372036854775808<=g.name∧g.name<=9223372036854775807key:-9223372036854775808<=g.key∧g.key<=9223372036854775807value:-9223372036854775808<=g.value∧g.value<=9223372036854775807
def bK(w:L)(b o:Nat)(g:Gr):Prop:=w.cell? ⟨b,o,M⟩=O (tE tH g.kind)∧w.cell? ⟨b,o+1,M⟩=O (tE tH g.sess)∧w.cell? ⟨b,o+2,M⟩=O (tE tH g.name)∧w.cell? ⟨b,o+3,M⟩=O (tE tH g.key)∧w.cell? ⟨b,o+4,M⟩=O (tE tH g.value)
theorem bK.grown{w w':L}{b o:Nat}{g:Gr}(h:bK w b o g)(hg:Y w w' M):bK w' b o g:=⟨hg.cell h.1 (by
 simp),hg.cell h.2.1 (by
 simp),hg.cell h.2.2.1 (by
 simp),hg.cell h.2.2.2.1 (by
 simp),hg.cell h.2.2.2.2 (by
 simp)⟩
def KD(w:L)(v:N)(l:List Gr):Prop:=∃a cap,v=S a l.length cap∧l.length<=cap∧(l=[]∨∃b o,a=O ⟨b,o,M⟩∧∀i,i<l.length->bK w b (o+i*5) (l.getD i Ws))
theorem KD.shape{w:L}{v:N}{l:List Gr}(h:KD w v l):∃a cap,v=S a l.length cap:=by
 obtain⟨a,cap,rfl,_⟩:=h;exact⟨a,cap,rfl⟩
theorem KD.grown{w w':L}{v:N}{l:List Gr}(h:KD w v l)(hg:Y w w' M):KD w' v l:=by
 obtain⟨a,cap,rfl,c,h⟩:=h;refine⟨a,cap,rfl,c,?_⟩;rcases h with h|⟨b,o,rfl,h⟩;·exact .inl h
 ·exact .inr ⟨b,o,rfl,fun i d=>(h i d).grown hg⟩
theorem KD.at{w:L}{a:Option rD}{n cap:Nat}{l:List Gr}(h:KD w (S a n cap) l)(i:Nat)(hi:i<l.length):∃b o,a=O ⟨b,o,M⟩∧bK w b (o+i*5) (l.getD i Ws):=by
 obtain⟨d,c,e,_,h⟩:=h;simp only[tL]at e;obtain⟨rfl,_,_⟩:=e;rcases h with rfl|⟨b,o,rfl,h⟩;·simp at hi
 ·exact⟨b,o,rfl,h i hi⟩
def Lr(l:List Gr):Prop:=∀g∈l,Bm g
def In:Prop:=∀(w:L)(v:N)(t:V5),KO w v t->yE t->rB tC 26 #[v] w fun e w'=>∃x,e=tJ (sK #[x,tE tH (Rf t)])∧Ys w' x (Ki t)∧Y w w' M
def BN:Prop:=∀(w:L)(v:N)(t:V5)(keep:Int),KO w v t->yE t->-9223372036854775808<=keep->keep<=9223372036854775807->rB tC 38 #[v,tE tH keep] w fun e w'=>∃x,e=tJ (sK #[x,tE tH (Un t keep)])∧Ys w' x (Xq t keep)∧Y w w' M
theorem Er:(69:Nat)≠5:=by
 decide
theorem Lk:(69:Nat)≠118:=by
 decide
theorem El:(69:Nat)≠131:=by
 decide
def If:Prop:=∀(w:L)(v:N)(a:Ac),Hk w v a->At a->rB tC 16 #[v] w fun e w'=>e=tJ (tE tH (Y0 a))∧Y w w' M
theorem I1(s q:Int)(d:List UInt8):Y0 ⟨1,s,q,d⟩=if 0<=s∧s<=7then(if 4000<d.length then 1 else if q=0then 0 else 4)else 2:=by
 unfold Y0;rw[if_pos (by show(1:Int)<=1∧(1:Int)<=4;omega)];by_cases a:0<=s∧s<=7;·rw[if_pos a,if_neg (by rintro(⟨_,h⟩|⟨h,_⟩);exact h a;cases h)];by_cases b:4000<d.length;(·rw[if_pos b,if_pos b]);·rw[if_neg b,if_neg b];by_cases c:q=0;(·rw[if_pos c,if_neg];rintro(⟨h,_⟩|⟨_,h⟩|⟨h,_⟩);(·exact h rfl);(·exact h c);·exact h rfl);·rw[if_neg c,if_pos (.inr (.inl ⟨by show(1:Int)≠3;decide,c⟩))]
 ·rw[if_neg a,if_pos (.inl ⟨rfl,a⟩)]
theorem AX(s q:Int)(d:List UInt8):Y0 ⟨3,s,q,d⟩=if 0<=q∧q<=200000then(if 4000<d.length then 1 else if s=0then(if 0<d.length then 4 else 0)else 4)else 2:=by
 unfold Y0;rw[if_pos (by show(1:Int)<=3∧(3:Int)<=4;omega)];by_cases a:0<=q∧q<=200000;·rw[if_pos a,if_neg (by rintro(⟨h,_⟩|⟨_,h⟩);cases h;exact h a)];by_cases b:4000<d.length;(·rw[if_pos b,if_pos b]);·rw[if_neg b,if_neg b];by_cases c:s=0;(·rw[if_pos c];by_cases e:0<d.length;(·rw[if_pos e,if_pos (.inr (.inr ⟨by show(3:Int)≠1;decide,e⟩))]);·rw[if_neg e,if_neg];rintro(⟨_,h⟩|⟨h,_⟩|⟨_,h⟩);(·exact h c);(·exact h rfl);·exact e h);·rw[if_neg c,if_pos (.inl ⟨by show(3:Int)≠1;decide,c⟩)]
 ·rw[if_neg a,if_pos (.inr ⟨rfl,a⟩)]
theorem CS(k s q:Int)(d:List UInt8)(hk:k=2∨k=4):Y0 ⟨k,s,q,d⟩=if 4000<d.length then 1 else if s=0then(if q=0then(if 0<d.length then 4 else 0)else 4)else 4:=by
 unfold Y0;have f:¬k=1:=by omega
 have g:¬k=3:=by omega
 rw[if_pos (by show 1<=k∧k<=4;omega),if_neg (by rintro(⟨h,_⟩|⟨h,_⟩);exact f h;exact g h)];by_cases a:4000<d.length;·rw[if_pos a,if_pos a]
 ·rw[if_neg a,if_neg a];by_cases b:s=0;(·rw[if_pos b];by_cases e:q=0;(·rw[if_pos e];by_cases c:0<d.length;(·rw[if_pos c,if_pos (.inr (.inr ⟨f,c⟩))]);·rw[if_neg c,if_neg];rintro(⟨_,h⟩|⟨_,h⟩|⟨_,h⟩);(·exact h b);(·exact h e);·exact c h);·rw[if_neg e,if_pos (.inr (.inl ⟨g,e⟩))]);·rw[if_neg b,if_pos (.inl ⟨f,b⟩)]
end Go.Proofs.YtpimcmbjdcjmlaaGreatDoor
