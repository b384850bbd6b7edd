/-
  Texts of this proof, joined, with few blanks: AcM0, PairM0, PairB, WrMem, CmtMem, TapeA, TapeB, TapeK, HistF, HistC, TxnF, TxnG, SrvF, SrvI, SrvO, TopF, TenMem, CmtSet, RdMem, StepMem, SvK, SvG, CmtTy, CmtRow, CmtRowD, TxNote, TxM, TxnL, TxCheck, TCCheck, PairStepQ, PairSlice, FCCheck, FCApply, TxMs, RqRd, WrCkF, TxLook, FindM, SrvS, SrvL, SrvM, SrvN, TxClash, TpEnc, TpCheck, BSlice, CmtFit, TxScan, TCRange, FCRange, BitC, PartC, TxWrite, RqWt, HsKept, RqDe, TapeH, WrDtF, SrvT, AcMem, RdrF, RdrMem, WrEnF, TpSync, TpCrash, TapTy, LnCk, LineH, GearM, FrameB.
-/
import Derived.Deep.AppendLies
import Derived.Test.YtpdbpagohccbpaaGreatDoorQ1
import Derived.Laws.AppendOwnNone
import Derived.Maps.AppendAt
import Derived.Deep.RegionWith
import Derived.Handy
import Derived.ProofKit
import Derived.OpenShut
import Derived.ShutString
import Derived.ChangeOld
import Derived.Deep.DeepHandedRow
import Derived.SizedLaws
import Derived.Test.YtpdbpagohccbpaaGreatDoorRows
set_option maxRecDepth 100000
set_option maxHeartbeats 8000000
open Array renaming getElem?_eq_some_iff->tJ,getElem?_modify->tY,getElem?_toList->pB
open Bool renaming true->tA,false->tB,and_eq_true->rP,or_eq_false_iff->rT
open Classical renaming byContradiction->sV
open Decidable renaming decide->tV
open Go renaming World->L,Value->N,TypeId->sA,undef->sL,sliced->sS,Calls->rB,Addr->rH,Operand->rI,Oper->rK,info_parts->rY,yielded->pE,maxLen->pJ,heap_alloc_new->oJ
open Go.Addr.mk renaming injEq->rO
open Go.Ending renaming returned->tK
open Go.Instr renaming slice->rW
open Go.IntKind renaming i64->tG,u8->pD
open Go.Obj renaming cells->tD
open Go.Obj.cells renaming injEq->tZ
open Go.Proofs.Tryz renaming prog->tC
open Go.Region renaming wanted->sH
open Go.Result renaming andThen->rN
open Go.Value renaming slice->S,int->tE,bool->tR,tuple->sJ,agg->sU,ownBlock->pK
open Go.Value.slice renaming injEq->tM
open Go.World renaming grownBy->Y,setCell->tI,cell?->tX,cell?_of_block->sM,ownsRow_nil->sN,grownBy_alloc->sO,news_of_block->rA,frozen?->r7,cell?_setCell_same'->pL
open Go.World.ownsRow renaming kept->tW,lt->sI
open Int renaming toNat_natCast->rD,emod_lt_of_pos->pR,emod_nonneg->oF
open List renaming length_append->tH,mem_cons->tN,eq_nil_of_length_eq_zero->tP,not_mem_nil->tQ,flatMap_cons->tT,mem_append->sB,length_singleton->sC,append_nil->sD,getElem?_take->sF,take_length->sG,getElem?_eq_some_iff->sK,getElem_mem->sQ,length_cons->sR,drop_eq_getElem_cons->sX,mem_cons_of_mem->sY,take_succ_eq_append_getElem->sZ,pairwise_cons->rC,any_eq_true->rF,flatMap_nil->rG,take_succ_cons->rJ,mem_cons_self->rM,length_set->rU,length_pos_iff->rV,length_take->r8,take_append_drop->pC,any_cons->pG,take_set->pH,getElem?_append_left->pM,getElem?_append->pN,drop_succ_cons->pO,set_cons_succ->pP,nodup_append->pQ,append_assoc->pS,cons_append->pT,length_drop->pU,length_nil->pX,nil_append->pY,nodup_cons->pZ,mem_filter->oC,take_take->oD,drop_zero->oG,map_cons->oH
open Nat renaming lt_of_lt_of_le->tL,le_trans->tS,zero_le->tU,le_refl->sE,zero_add->sP,succ_mul->pA,mul_le_mul_right->pF,sub_zero->pI,le_of_lt_succ->pV,min_eq_left->oE,sub_self->oI
open Option renaming none->M,some->O,map_some->rS
open Option.some renaming injEq->tF,inj->oK
open Prod.mk renaming injEq->rX
open UInt8 renaming ofNat->sW,toNat_inj->pW
namespace Go.Proofs.YtpdbpagohccbpaaGreatDoor
open Go.RowKit
def LM(w:L)(v:N)(a:Ac):Prop:=∃vd,v=sU #[tE tG a.kind,tE tG a.sess,tE tG a.keep,vd]∧Qe w vd a.data
theorem LM.grown{w w':L}{v:N}{a:Ac}(h:LM w v a)(hg:Y w w' M):LM w' v a:=by
 obtain⟨c,rfl,b⟩:=h;exact⟨c,rfl,b.grown hg⟩
theorem LM.agg{w:L}{v:N}{a:Ac}(h:LM w v a):∃da dc,v=sU #[tE tG a.kind,tE tG a.sess,tE tG a.keep,S da a.data.length dc]∧Qe w (S da a.data.length dc) a.data:=by
 obtain⟨c,rfl,b⟩:=h;obtain⟨da,dc,rfl⟩:=b.shape;exact⟨da,dc,rfl,b⟩
def D8(w:L)(b o:Nat)(a:Ac):Prop:=∃vd,w.cell? ⟨b,o,M⟩=O (tE tG a.kind)∧w.cell? ⟨b,o+1,M⟩=O (tE tG a.sess)∧w.cell? ⟨b,o+2,M⟩=O (tE tG a.keep)∧w.cell? ⟨b,o+3,M⟩=O vd∧Qe w vd a.data
theorem D8.grown{w w':L}{b o:Nat}{a:Ac}(h:D8 w b o a)(hg:Y w w' M):D8 w' b o a:=by
 obtain⟨i,c,d,e,f,g⟩:=h;exact⟨i,hg.cell c (by simp),hg.cell d (by simp),hg.cell e (by simp),hg.cell f (by simp),g.grown hg⟩
def XG(w:L)(v:N)(l:List Ac):Prop:=∃a cap,v=S a l.length cap∧l.length<=cap∧((l=[]∧(a=M->cap=0))∨∃b o,a=O ⟨b,o,M⟩∧∀i,i<l.length->D8 w b (o+i*4) (l.getD i XP))
theorem T6(w:L):XG w (S M 0 0) []:=⟨M,0,rfl,sE _,.inl ⟨rfl,fun _=>rfl⟩⟩
theorem XG.shape{w:L}{v:N}{l:List Ac}(h:XG w v l):∃a cap,v=S a l.length cap:=by
 obtain⟨a,cap,rfl,_⟩:=h;exact⟨a,cap,rfl⟩
theorem XG.grown{w w':L}{v:N}{l:List Ac}(h:XG w v l)(hg:Y w w' M):XG w' v l:=by
 obtain⟨a,cap,rfl,c,h⟩:=h;refine⟨a,cap,rfl,c,?_⟩;rcases h with h|⟨b,o,rfl,h⟩;·exact .inl h
 ·exact .inr ⟨b,o,rfl,fun i d=>(h i d).grown hg⟩
theorem XG.at{w:L}{a:Option rH}{n cap:Nat}{l:List Ac}(h:XG w (S a n cap) l)(i:Nat)(hi:i<l.length):∃b o,a=O ⟨b,o,M⟩∧D8 w b (o+i*4) (l.getD i XP):=by
 obtain⟨d,c,e,f,h⟩:=h;simp only[tM]at e;obtain⟨rfl,rfl,rfl⟩:=e;rcases h with⟨rfl,_⟩|⟨b,o,rfl,h⟩;·simp at hi
 ·exact⟨b,o,rfl,h i hi⟩
structure Aa(a:Ac):Prop where kind:-9223372036854775808<=a.kind∧a.kind<=9223372036854775807sess:-9223372036854775808<=a.sess∧a.sess<=9223372036854775807keep:-9223372036854775808<=a.keep∧a.keep<=9223372036854775807data:a.data.length<=140737488355328
structure TG (l : List Ac) : Prop where
  many : l.length * 48 <= 140737488355328
  each : ∀ i, i < l.length -> Aa (l.getD i XP)
theorem SN{a:Ac}(h:XT a):Aa a:=by
 have b:=h.kind;have c:=h.data;have d:0<=a.sess∧a.sess<=7:=by by_cases e:a.kind=1;(·exact h.sess e);·rw[h.noSess e];omega
 have f:0<=a.keep∧a.keep<=200000:=by by_cases e:a.kind=3;(·exact h.keep e);·rw[h.noKeep e];omega
 exact⟨by omega,by omega,by omega,by omega⟩
abbrev AV:=Ac×N
def Aq:AV:=(XP,sL)
def V5(us:List AV):List N:=us.flatMap fun x=>[tE tG x.1.kind,tE tG x.1.sess,tE tG x.1.keep,x.2]
theorem N8(a b:List AV):V5 (a++b)=V5 a++V5 b:=by
 simp[V5]
theorem E5:∀(us:List AV)(i:Nat),i<us.length->(V5 us)[i*4]?=O (tE tG (us.getD i Aq).1.kind)∧(V5 us)[i*4+1]?=O (tE tG (us.getD i Aq).1.sess)∧(V5 us)[i*4+2]?=O (tE tG (us.getD i Aq).1.keep)∧(V5 us)[i*4+3]?=O (us.getD i Aq).2|[],i,h=>by simp at h|x::us,0,_=>⟨rfl,rfl,rfl,rfl⟩|x::us,i+1,h=>by have:=E5 us i (by simpa using h);rw[show(i+1)*4=i*4+4by omega];exact this
theorem bX:(37:Nat)≠5:=by
 decide
def VH(rb:Nat)(w:L)(v:N)(l:List Ac):Prop:=∃us:List AV,us.map (·.1)=l∧w.ownsRow rb 37 4 v l.length (V5 us)∧∀x∈us,Qh 0 w x.2 x.1.data
theorem It(rb:Nat)(w:L):VH rb w (S M 0 0) []:=⟨[],rfl,sN _ _ _ _,fun x hx=>by
 simp at hx⟩
theorem VH.row{rb:Nat}{w:L}{v:N}{l:List Ac}(h:VH rb w v l):v.ownBlock=M∨∃g cur fz,v.ownBlock=O g∧rb<=g∧w.heap[g]?=O (tD cur 37 fz):=by
 obtain⟨c,_,h,_⟩:=h;rcases h.2with⟨rfl,_⟩|⟨g,cap,cur,rfl,a,b,_⟩;·exact .inl rfl
 ·exact .inr ⟨g,cur,_,rfl,a,b⟩
theorem VH.lt{rb:Nat}{w:L}{v:N}{l:List Ac}(h:VH rb w v l):∀k,v.ownBlock=O k->rb<=k∧k<w.heap.size:=by
 obtain⟨a,_,h,_⟩:=h;exact sI h
theorem VH.grownNone{rb:Nat}{w w':L}{v:N}{l:List Ac}(h:VH rb w v l)(hg:Y w w' M):VH rb w' v l:=by
 obtain⟨e,a,b,c⟩:=h;refine⟨e,a,tW b hg ?_,fun x d=>(c x d).keptT hg (.inl rfl)⟩;cases hv:v.ownBlock with|none=>exact .inl rfl|some k=>exact .inr (by simp)
theorem VH.alloc{rb:Nat}{w:L}{v:N}{l:List Ac}(h:VH rb w v l)(o:Obj):VH rb (w.alloc o) v l:=h.grownNone (sO _ _ _)
theorem VH.shape{rb:Nat}{w:L}{v:N}{l:List Ac}(h:VH rb w v l):∃a cap,v=S a l.length cap:=by
 obtain⟨d,_,h,_⟩:=h;rcases h.2with⟨rfl,c⟩|⟨g,cap,b,rfl,_⟩;·exact⟨M,0,by rw[c]⟩
 ·exact⟨_,cap,rfl⟩
theorem LZ{us:List AV}{l:List Ac}(h:us.map (·.1)=l)(i:Nat)(hi:i<l.length):(us.getD i Aq).1=l.getD i XP∧us.getD i Aq∈us:=by
 subst h;have a:i<us.length:=by simpa using hi
 refine⟨by simp[a],?_⟩;rw[show us.getD i Aq=us[i]by simp[a]];exact sQ a
theorem VH.list{rb:Nat}{w:L}{v:N}{l:List Ac}(h:VH rb w v l):XG w v l:=by
 obtain⟨c,o,r,y⟩:=h;rcases r.2with⟨rfl,x⟩|⟨g,cap,d,rfl,D,z,B,E,F,C⟩;·have:l=[]:=tP x;rw[this];exact T6 w
 ·(have a:∀j u,(V5 c)[j]?=O u->w.cell? ⟨g,j,M⟩=O u:=by intro j u n;(have e:j<l.length*4:=by have:=(sK.1 n).1;rw[r.1]at this;exact this);(have b:(d.toList.take (l.length*4))[j]?=(V5 c)[j]?:=by rw[C]);rw[sF,if_pos e,n]at b;simp[tX,z];simpa using b);refine⟨_,cap,rfl,B,.inr ⟨g,0,rfl,fun i A=>?_⟩⟩;obtain⟨t,b⟩:=LZ o i A;(have p:c.length=l.length:=by rw[<-o];simp);obtain⟨f,k,m,s⟩:=E5 c i (by omega);have q:=y _ b;rw[t]at f k m q;rw[sP];exact⟨_,a _ _ f,a _ _ k,a _ _ m,a _ _ s,q.1⟩
theorem CO{rb:Nat}{w W w1:L}{v:N}{l:List Ac}(h:Y w W M)(ho:VH rb W v l)(hb:w.heap.size<=rb)(hg:Y W w1 v.ownBlock):Y w w1 M:=⟨hg.os.trans h.os,hg.tape.trans h.tape,hg.output.trans h.output,tS h.size hg.size,fun i a b=>(hg.block i (tL a h.size) (fun e=>by
 have:=(ho.lt i e.symm).1;omega)).trans (h.block i a b)⟩
theorem eP:(tC.info? 37).map (fun i=>(i.zero,i.size,i.bytes))=O (O (sU #[tE tG 0,tE tG 0,tE tG 0,S M 0 0]),4,48):=by
 kernel_rfl
def Ma(w:L)(v:N)(p:Pr):Prop:=∃vk vv,v=sU #[vk,vv]∧Qe w vk p.1∧Qe w vv p.2
theorem Ma.grown{w w':L}{v:N}{p:Pr}(h:Ma w v p)(hg:Y w w' M):Ma w' v p:=by
 obtain⟨c,d,rfl,a,b⟩:=h;exact⟨c,d,rfl,a.grown hg,b.grown hg⟩
def Pj(w:L)(b o:Nat)(p:Pr):Prop:=∃vk vv,w.cell? ⟨b,o,M⟩=O vk∧w.cell? ⟨b,o+1,M⟩=O vv∧Qe w vk p.1∧Qe w vv p.2
theorem Pj.grown{w w':L}{b o:Nat}{p:Pr}(h:Pj w b o p)(hg:Y w w' M):Pj w' b o p:=by
 obtain⟨f,g,a,c,d,e⟩:=h;exact⟨f,g,hg.cell a (by simp),hg.cell c (by simp),d.grown hg,e.grown hg⟩
def Qq(w:L)(v:N)(l:PL):Prop:=∃a cap,v=S a l.length cap∧l.length<=cap∧((l=[]∧(a=M->cap=0))∨∃b o,a=O ⟨b,o,M⟩∧∀i,i<l.length->Pj w b (o+i*2) (l.getD i ([],[])))
theorem Yd(w:L):Qq w (S M 0 0) []:=⟨M,0,rfl,sE _,.inl ⟨rfl,fun _=>rfl⟩⟩
theorem Qq.grown{w w':L}{v:N}{l:PL}(h:Qq w v l)(hg:Y w w' M):Qq w' v l:=by
 obtain⟨a,cap,rfl,c,h⟩:=h;refine⟨a,cap,rfl,c,?_⟩;rcases h with h|⟨b,o,rfl,h⟩;·exact .inl h
 ·exact .inr ⟨b,o,rfl,fun i d=>(h i d).grown hg⟩
theorem Qq.shape{w:L}{v:N}{l:PL}(h:Qq w v l):∃a cap,v=S a l.length cap:=by
 obtain⟨a,cap,rfl,_⟩:=h;exact⟨a,cap,rfl⟩
theorem Qq.at{w:L}{a:Option rH}{n cap:Nat}{l:PL}(h:Qq w (S a n cap) l)(i:Nat)(hi:i<l.length):∃b o,a=O ⟨b,o,M⟩∧Pj w b (o+i*2) (l.getD i ([],[])):=by
 obtain⟨d,c,e,f,h⟩:=h;simp only[tM]at e;obtain⟨rfl,rfl,rfl⟩:=e;rcases h with⟨rfl,_⟩|⟨b,o,rfl,h⟩;·simp at hi
 ·exact⟨b,o,rfl,h i hi⟩
theorem Qh.kept{base:Nat}{w w':L}{v:N}{bs:List UInt8}(h:Qh base w v bs){row:Option Nat}(hg:Y w w' row)(hrow:row=M∨∃g cur fz,row=O g∧base<=g∧w.heap[g]?=O (tD cur 50 fz)):Qh base w' v bs:=by
 obtain⟨q,u⟩:=h;rcases u with rfl|⟨b,l,j,c⟩;·obtain⟨a,cap,rfl,c,h⟩:=q;refine⟨⟨a,cap,rfl,c,?_⟩,.inl rfl⟩;rcases h with h|⟨b,o,rfl,h⟩;(·exact .inl h);·exact .inr ⟨b,o,rfl,fun i n=>by simp at n⟩
 ·(have k:O b≠row:=by intro e;rcases hrow with rfl|⟨g,cur,fz,rfl,t,f⟩;(·cases e);·cases e;rcases c with c|⟨p,s,c⟩;(·omega);·rw[c]at f;simp at f);have d:=hg.block b j k;refine⟨?_,.inr ⟨b,l,tL j hg.size,?_⟩⟩;(·obtain⟨a,cap,rfl,m,h⟩:=q;refine⟨a,cap,rfl,m,?_⟩;rcases h with h|⟨r,o,rfl,h⟩;(·exact .inl h);·refine .inr ⟨r,o,rfl,fun i n=>?_⟩;simp[pK]at l;subst l;exact hg.cell (h i n) (by simpa using k));·rcases c with c|⟨cur,fz,c⟩;(·exact .inl c);·exact .inr ⟨cur,fz,by rw[d];exact c⟩
def flat(vs:List (N×N)):List N:=vs.flatMap fun x=>[x.1,x.2]
theorem Ke(vs:List (N×N)):(flat vs).length=vs.length*2:=by
 induction vs with|nil=>rfl|cons x r ih=>simp only[flat,tT,tH,sR,pX]at ih⊢;omega
theorem JE(a b:List (N×N)):flat (a++b)=flat a++flat b:=by
 simp[flat]
theorem zZ:∀(vs:List (N×N))(i:Nat),i<vs.length->(flat vs)[i*2]?=O (vs.getD i (sL,sL)).1∧(flat vs)[i*2+1]?=O (vs.getD i (sL,sL)).2|[],i,h=>by simp at h|x::r,0,_=>by simp[flat]|x::r,i+1,h=>by have:=zZ r i (by simpa using h);rw[show(i+1)*2=i*2+2by omega,show i*2+2+1=(i*2+1)+2by omega];simpa[flat]using this
def Gk(base:Nat)(w:L)(v:N)(l:PL):Prop:=∃vs:List (N×N),vs.length=l.length∧w.ownsRow base 50 2 v l.length (flat vs)∧∀i,i<l.length->Qh base w (vs.getD i (sL,sL)).1 (l.getD i ([],[])).1∧Qh base w (vs.getD i (sL,sL)).2 (l.getD i ([],[])).2
theorem Gk.row{base:Nat}{w:L}{v:N}{l:PL}(h:Gk base w v l):v.ownBlock=M∨∃g cur fz,v.ownBlock=O g∧base<=g∧w.heap[g]?=O (tD cur 50 fz):=by
 obtain⟨c,_,h,_⟩:=h;rcases h.2with⟨rfl,_⟩|⟨g,cap,cur,rfl,a,b,_⟩;·exact .inl rfl
 ·exact .inr ⟨g,cur,_,rfl,a,b⟩
theorem Gk.lt{base:Nat}{w:L}{v:N}{l:PL}(h:Gk base w v l):∀k,v.ownBlock=O k->base<=k∧k<w.heap.size:=by
 obtain⟨a,_,h,_⟩:=h;exact sI h
theorem Gk.grownNone{base:Nat}{w w':L}{v:N}{l:PL}(h:Gk base w v l)(hg:Y w w' M):Gk base w' v l:=by
 obtain⟨e,c,d,a⟩:=h;refine⟨e,c,tW d hg ?_,fun i b=>⟨((a i b).1).kept hg (.inl rfl),((a i b).2).kept hg (.inl rfl)⟩⟩;cases hv:v.ownBlock with|none=>exact .inl rfl|some k=>exact .inr (by simp)
theorem Gk.alloc{base:Nat}{w:L}{v:N}{l:PL}(h:Gk base w v l)(o:Obj):Gk base (w.alloc o) v l:=h.grownNone (sO _ _ _)
theorem Gk.shape{base:Nat}{w:L}{v:N}{l:PL}(h:Gk base w v l):∃a cap,v=S a l.length cap:=by
 obtain⟨d,_,h,_⟩:=h;rcases h.2with⟨rfl,c⟩|⟨g,cap,b,rfl,_⟩;·exact⟨M,0,by rw[c]⟩
 ·exact⟨_,cap,rfl⟩
theorem dH{base:Nat}{w W w1:L}{v:N}{l:PL}(h:Y w W M)(ho:Gk base W v l)(hb:w.heap.size<=base)(hg:Y W w1 v.ownBlock):Y w w1 M:=⟨hg.os.trans h.os,hg.tape.trans h.tape,hg.output.trans h.output,tS h.size hg.size,fun i a b=>(hg.block i (tL a h.size) (fun e=>by
 have:=(ho.lt i e.symm).1;omega)).trans (h.block i a b)⟩
theorem DI:(tC.info? 50).map (fun i=>(i.zero,i.size,i.bytes))=O (O (sU #[S M 0 0,S M 0 0]),2,48):=by
 kernel_rfl
theorem Y6{α:Type}(a b:List α)(i:Nat)(d:α):(a++b).getD i d=if i<a.length then a.getD i d else b.getD (i-a.length) d:=by
 by_cases h:i<a.length;·rw[if_pos h];simp[pN,h]
 ·rw[if_neg h];simp[pN,h]
theorem yJ(vs:List (N×N))(k:Nat):flat (vs.take k)=(flat vs).take (k*2):=by
 induction vs generalizing k with|nil=>simp[flat]|cons x r ih=>cases k with|zero=>simp[flat]|succ k=>rw[rJ,show(k+1)*2=k*2+2by omega];have:=ih k;simp only[flat,tT,pT,pY,rJ]at this⊢;rw[this]
theorem Ee(vs:List (N×N))(k:Nat):flat (vs.drop k)=(flat vs).drop (k*2):=by
 induction vs generalizing k with|nil=>simp[flat]|cons x r ih=>cases k with|zero=>simp[flat]|succ k=>rw[pO,show(k+1)*2=k*2+2by omega];have:=ih k;simp only[flat,tT,pT,pY,pO]at this⊢;rw[this]
theorem Gk.cells{base:Nat}{w:L}{g n cap:Nat}{vs:List (N×N)}{l:PL}(hr:w.ownsRow base 50 2 (S (O ⟨g,0,M⟩) n cap) l.length (flat vs)):∀j u,(flat vs)[j]?=O u->w.cell? ⟨g,j,M⟩=O u:=by
 intro j u f;rcases hr.2with⟨e,_⟩|⟨k,c,a,e,m,h,p,o,q,i⟩;·cases e
 ·simp only[tM,tF,rO]at e;obtain⟨⟨rfl,_⟩,_,_⟩:=e;(have b:j<l.length*2:=by have:=(sK.1 f).1;rw[hr.1]at this;exact this);(have d:(a.toList.take (l.length*2))[j]?=(flat vs)[j]?:=by rw[i]);rw[sF,if_pos b,f]at d;simp[tX,h];simpa using d
theorem Q6.setOther{base:Nat}{w:L}{v:N}{bs:List UInt8}(h:Q6 base w v bs)(c i:Nat)(x:N)(hc:c<base):Q6 base (tI w ⟨c,i,M⟩ x) v bs:=by
 refine h.grown (row:=O c) (Qg (Qb _ _) i x) ?_;cases hv:v.ownBlock with|none=>exact .inl rfl|some k=>have:=(h.lt k hv).1;exact .inr (by simp;omega)
theorem UK{W w:L}{b:Nat}{x y:N}{t:sA}(hg:Y W w M)(h:W.heap[b]?=O (tD #[x,y] t))(u v:N):(tI w ⟨b,0,M⟩ u).cell? ⟨b,0,M⟩=O u∧((tI w ⟨b,0,M⟩ u).setCell ⟨b,1,M⟩ v).cell? ⟨b,1,M⟩=O v:=by
 have a:w.heap[b]?=O (tD #[x,y] t):=by rw[hg.block b (tJ.1 h).1 (by simp)];exact h
 have c:w.cell? ⟨b,0,M⟩=O x:=by simp[tX,a]
 have d:w.cell? ⟨b,1,M⟩=O y:=by simp[tX,a]
 refine⟨pL _ _ _ (by rw[c];rfl),pL _ _ _ ?_⟩;rw[World.cell?_setCell_other _ _ _ _ (by simp),d];rfl
theorem V8{base:Nat}{W:L}{pb:Nat}{x y:N}(h:W.heap[pb]?=O (tD #[x,y] 50))(hb:base<=pb)(u v:N):((tI W ⟨pb,0,M⟩ u).setCell ⟨pb,1,M⟩ v).heap[pb]?=O (tD #[u,v] 50)∧(∀z bs,Qh base W z bs->Qh base ((tI W ⟨pb,0,M⟩ u).setCell ⟨pb,1,M⟩ v) z bs)∧∀w0:L,w0.heap.size<=pb->Y w0 W M->Y w0 ((tI W ⟨pb,0,M⟩ u).setCell ⟨pb,1,M⟩ v) M:=by
 refine⟨?_,fun z bs c=>?_,fun w0 a b=>Qc (Qc b _ a _ _) _ a _ _⟩;·simp only[tI,tY,if_true,h,rS];first|rfl|simp
 ·exact c.kept (Qg (Qg (Qb _ _) _ _) _ _) (.inr ⟨pb,_,_,rfl,hb,h⟩)
def Ka(rb pb:Nat)(w:L)(v:N)(l:PL):Prop:=∃vs:List (N×N),vs.length=l.length∧w.ownsRow rb 50 2 v l.length (flat vs)∧∀i,i<l.length->Qh pb w (vs.getD i (sL,sL)).1 (l.getD i ([],[])).1∧Qh pb w (vs.getD i (sL,sL)).2 (l.getD i ([],[])).2
theorem Cw(rb pb:Nat)(w:L):Ka rb pb w (S M 0 0) []:=⟨[],rfl,sN _ _ _ _,fun i hi=>by
 simp at hi⟩
theorem Ka.p{rb pb:Nat}{w:L}{v:N}{l:PL}(h:Ka rb pb w v l)(hb:pb<=rb):Gk pb w v l:=by
 obtain⟨e,c,a,d⟩:=h;refine⟨e,c,⟨a.1,?_⟩,d⟩;rcases a.2with h|⟨g,cap,b,c,a,d⟩;·exact .inl h
 ·exact .inr ⟨g,cap,b,c,tS hb a,d⟩
theorem Ka.row{rb base:Nat}{w:L}{v:N}{l:PL}(h:Ka rb base w v l)(hb:base<=rb):v.ownBlock=M∨∃g cur fz,v.ownBlock=O g∧base<=g∧w.heap[g]?=O (tD cur 50 fz):=(h.p hb).row
theorem Ka.lt{rb pb:Nat}{w:L}{v:N}{l:PL}(h:Ka rb pb w v l):∀k,v.ownBlock=O k->rb<=k∧k<w.heap.size:=by
 obtain⟨a,_,h,_⟩:=h;exact sI h
theorem Ka.grownNone{rb pb:Nat}{w w':L}{v:N}{l:PL}(h:Ka rb pb w v l)(hg:Y w w' M):Ka rb pb w' v l:=by
 obtain⟨e,c,d,a⟩:=h;refine⟨e,c,tW d hg ?_,fun i b=>⟨((a i b).1).kept hg (.inl rfl),((a i b).2).kept hg (.inl rfl)⟩⟩;cases hv:v.ownBlock with|none=>exact .inl rfl|some k=>exact .inr (by simp)
theorem Ka.alloc{rb pb:Nat}{w:L}{v:N}{l:PL}(h:Ka rb pb w v l)(o:Obj):Ka rb pb (w.alloc o) v l:=h.grownNone (sO _ _ _)
theorem Ka.shape{rb pb:Nat}{w:L}{v:N}{l:PL}(h:Ka rb pb w v l):∃a cap,v=S a l.length cap:=by
 obtain⟨d,_,h,_⟩:=h;rcases h.2with⟨rfl,c⟩|⟨g,cap,b,rfl,_⟩;·exact⟨M,0,by rw[c]⟩
 ·exact⟨_,cap,rfl⟩
theorem TC{rb pb:Nat}{w W w1:L}{v:N}{l:PL}(h:Y w W M)(ho:Ka rb pb W v l)(hb:w.heap.size<=rb)(hg:Y W w1 v.ownBlock):Y w w1 M:=⟨hg.os.trans h.os,hg.tape.trans h.tape,hg.output.trans h.output,tS h.size hg.size,fun i a b=>(hg.block i (tL a h.size) (fun e=>by
 have:=(ho.lt i e.symm).1;omega)).trans (h.block i a b)⟩
def eO(base:Nat)(w:L)(b o:Nat)(p:Pr):Prop:=∃vk vv,w.cell? ⟨b,o,M⟩=O vk∧w.cell? ⟨b,o+1,M⟩=O vv∧Qh base w vk p.1∧Qh base w vv p.2
def QJ(base:Nat)(w:L)(v:N)(l:PL):Prop:=∃a cap,v=S a l.length cap∧l.length<=cap∧((l=[]∧(a=M->cap=0))∨∃b o,a=O ⟨b,o,M⟩∧(b<base∨∃cur fz,w.heap[b]?=O (tD cur 50 fz))∧∀i,i<l.length->eO base w b (o+i*2) (l.getD i ([],[])))
theorem QJ.list{base:Nat}{w:L}{v:N}{l:PL}(h:QJ base w v l):Qq w v l:=by
 obtain⟨a,cap,rfl,g,h⟩:=h;refine⟨a,cap,rfl,g,?_⟩;rcases h with h|⟨b,o,rfl,_,h⟩;·exact .inl h
 ·refine .inr ⟨b,o,rfl,fun i j=>?_⟩;obtain⟨k,m,c,d,e,f⟩:=h i j;exact⟨k,m,c,d,e.1,f.1⟩
theorem Qq.pairsB{w w':L}{v:N}{l:PL}(h:Qq w v l)(hg:Y w w' M)(base:Nat)(hb:w.heap.size<=base):QJ base w' v l:=by
 obtain⟨a,cap,rfl,n,h⟩:=h;refine⟨a,cap,rfl,n,?_⟩;rcases h with h|⟨b,o,rfl,h⟩;·exact .inl h
 ·by_cases d:l=[];(·exact .inl ⟨d,fun e=>by cases e⟩);·have q:0<l.length:=rV.2 d;refine .inr ⟨b,o,rfl,.inl ?_,fun i p=>?_⟩;(·obtain⟨f,g,c,_⟩:=h 0 q;exact tL (Vj c) hb);·obtain⟨f,g,c,j,k,m⟩:=h i p;exact⟨f,g,hg.cell c (by simp),hg.cell j (by simp),k.part hg base hb,m.part hg base hb⟩
theorem Gk.pairsB{base:Nat}{w:L}{v:N}{l:PL}(h:Gk base w v l):QJ base w v l:=by
 obtain⟨c,p,j,d⟩:=h;have a:=j;rcases j.2with⟨rfl,k⟩|⟨g,cap,b,rfl,o,m,n,q,r,s⟩;·have:l=[]:=tP k;subst this;exact⟨M,0,rfl,sE _,.inl ⟨rfl,fun _=>rfl⟩⟩
 ·refine⟨_,cap,rfl,n,.inr ⟨g,0,rfl,.inr ⟨b,_,m⟩,fun i f=>?_⟩⟩;have e:=zZ c i (by omega);refine⟨(c.getD i (sL,sL)).1,(c.getD i (sL,sL)).2,?_,?_,(d i f).1,(d i f).2⟩;(·have:=Gk.cells a _ _ e.1;rw[sP];exact this);·have:=Gk.cells a _ _ e.2;rw[sP];exact this
theorem QJ.kept{base:Nat}{w w':L}{v:N}{l:PL}(h:QJ base w v l){row:Option Nat}(hg:Y w w' row)(hrow:row=M∨∃g cur t fz,row=O g∧base<=g∧w.heap[g]?=O (tD cur t fz)∧t≠5∧t≠50):QJ base w' v l:=by
 obtain⟨a,cap,rfl,D,h⟩:=h;refine⟨a,cap,rfl,D,?_⟩;rcases h with h|⟨b,o,rfl,d,h⟩;·exact .inl h
 ·by_cases s:l=[];(·exact .inl ⟨s,fun e=>by cases e⟩);·have F:0<l.length:=rV.2 s;(have p:b<w.heap.size:=by obtain⟨u,x,k,_⟩:=h 0 F;exact Vj k);(have j:O b≠row:=by intro e;rcases hrow with rfl|⟨g,cur,t,fz,rfl,C,f,G,q⟩;(·cases e);·cases e;rcases d with d|⟨r,z,d⟩;(·omega);·rw[d]at f;simp only[tF,tZ]at f;exact q f.2.1.symm);(have c:row=M∨∃g cur t fz,row=O g∧base<=g∧w.heap[g]?=O (tD cur t fz)∧t≠5:=by rcases hrow with h|⟨g,cur,t,fz,m,n,A,B,_⟩;(·exact .inl h);·exact .inr ⟨g,cur,t,fz,m,n,A,B⟩);refine .inr ⟨b,o,rfl,?_,fun i E=>?_⟩;(·rcases d with d|⟨cur,fz,d⟩;(·exact .inl d);·exact .inr ⟨cur,fz,by rw[hg.block b p j];exact d⟩);·obtain⟨u,x,k,y,m,n⟩:=h i E;exact⟨u,x,hg.cell k (by simpa using j),hg.cell y (by simpa using j),m.keptT hg c,n.keptT hg c⟩
theorem QJ.grown{base:Nat}{w w':L}{v:N}{l:PL}(h:QJ base w v l)(hg:Y w w' M):QJ base w' v l:=h.kept hg (.inl rfl)
theorem xL{base:Nat}{w:L}{v:N}{l:PL}(h:QJ base w v l):v.oneCell'=tA:=by
 obtain⟨a,cap,rfl,_⟩:=h;rfl
theorem Yp(base:Nat)(w:L):QJ base w (S M 0 0) []:=⟨M,0,rfl,sE _,.inl ⟨rfl,fun _=>rfl⟩⟩
theorem QJ.shape{base:Nat}{w:L}{v:N}{l:PL}(h:QJ base w v l):∃a cap,v=S a l.length cap:=by
 obtain⟨a,cap,rfl,_⟩:=h;exact⟨a,cap,rfl⟩
theorem QJ.mono{base base':Nat}{w:L}{v:N}{l:PL}(h:QJ base w v l)(hb:base<=base'):QJ base' w v l:=by
 obtain⟨a,cap,rfl,g,h⟩:=h;refine⟨a,cap,rfl,g,?_⟩;rcases h with h|⟨b,o,rfl,c,f⟩;·exact .inl h
 ·refine .inr ⟨b,o,rfl,?_,fun i j=>?_⟩;(·rcases c with c|c;(·exact .inl (by omega));·exact .inr c);·obtain⟨n,p,d,e,k,m⟩:=f i j;exact⟨n,p,d,e,k.mono hb,m.mono hb⟩
theorem Ka.pairsB{rb:Nat}{w:L}{v:N}{l:PL}(h:Ka rb 0 w v l):QJ 0 w v l:=(h.p (tU _)).pairsB
theorem QJ.up{w:L}{v:N}{l:PL}(h:QJ 0 w v l)(base:Nat):QJ base w v l:=h.mono (tU _)
abbrev WV:=Zc×N×N×N
def CX:WV:=(Qo,sL,sL,sL)
def YS(us:List WV):List N:=us.flatMap fun x=>[x.2.1,x.2.2.1,tR x.1.gone,x.2.2.2]
theorem LP(us:List WV):(YS us).length=us.length*4:=by
 induction us with|nil=>rfl|cons x r ih=>simp only[YS,tT,tH,sR,pX]at ih⊢;omega
theorem kX(a b:List WV):YS (a++b)=YS a++YS b:=by
 simp[YS]
theorem Na:∀(us:List WV)(i:Nat),i<us.length->(YS us)[i*4]?=O (us.getD i CX).2.1∧(YS us)[i*4+1]?=O (us.getD i CX).2.2.1∧(YS us)[i*4+2]?=O (tR (us.getD i CX).1.gone)∧(YS us)[i*4+3]?=O (us.getD i CX).2.2.2|[],i,h=>by simp at h|x::r,0,_=>by simp[YS]|x::r,i+1,h=>by have:=Na r i (by simpa using h);rw[show(i+1)*4=i*4+4by omega,show i*4+4+1=(i*4+1)+4by omega,show i*4+4+2=(i*4+2)+4by omega,show i*4+4+3=(i*4+3)+4by omega];simpa[YS]using this
theorem kK:(122:Nat)≠5:=by
 decide
theorem LN{us:List WV}{l:List Zc}(h:us.map (·.1)=l)(i:Nat)(hi:i<l.length):(us.getD i CX).1=l.getD i Qo∧us.getD i CX∈us:=by
 subst h;have a:i<us.length:=by simpa using hi
 refine⟨by simp[a],?_⟩;rw[show us.getD i CX=us[i]by simp[a]];exact sQ a
theorem OW:(tC.info? 122).map (fun i=>(i.zero,i.size,i.bytes))=O (O (sU #[S M 0 0,S M 0 0,tR tB,S M 0 0]),4,80):=by
 kernel_rfl
theorem Ri(w:L)(vn vk vv:N)(p:Zc)(h1:Qe w vn p.name)(h2:Qe w vk p.key)(h3:Qe w vv p.value)(t:sA):QN (w.alloc (tD #[vn,vk,tR p.gone,vv] t)) (S (O ⟨w.heap.size,0,M⟩) 1 1) [p]:=by
 refine⟨_,1,rfl,by simp,.inr ⟨w.heap.size,0,rfl,fun i a=>?_⟩⟩;match i,a with|0,_=>exact⟨vn,vk,vv,by simp,by simp,by simp,by simp,h1.alloc _,h2.alloc _,h3.alloc _⟩
def ID(base:Nat)(w:L)(b o:Nat)(p:Zc):Prop:=∃vn vk vv,w.cell? ⟨b,o,M⟩=O vn∧w.cell? ⟨b,o+1,M⟩=O vk∧w.cell? ⟨b,o+2,M⟩=O (tR p.gone)∧w.cell? ⟨b,o+3,M⟩=O vv∧Qh base w vn p.name∧Qh base w vk p.key∧Qh base w vv p.value
def Xg(base:Nat)(w:L)(v:N)(l:List Zc):Prop:=∃a cap,v=S a l.length cap∧l.length<=cap∧((l=[]∧(a=M->cap=0))∨∃b o,a=O ⟨b,o,M⟩∧(b<base∨∃cur fz,w.heap[b]?=O (tD cur 122 fz))∧∀i,i<l.length->ID base w b (o+i*4) (l.getD i Qo))
theorem Dj(base:Nat)(w:L):Xg base w (S M 0 0) []:=⟨M,0,rfl,sE _,.inl ⟨rfl,fun _=>rfl⟩⟩
theorem Xg.shape{base:Nat}{w:L}{v:N}{l:List Zc}(h:Xg base w v l):∃a cap,v=S a l.length cap:=by
 obtain⟨a,cap,rfl,_⟩:=h;exact⟨a,cap,rfl⟩
theorem Xg.oneCell{base:Nat}{w:L}{v:N}{l:List Zc}(h:Xg base w v l):v.oneCell'=tA:=by
 obtain⟨a,cap,rfl,_⟩:=h;rfl
theorem Xg.list{base:Nat}{w:L}{v:N}{l:List Zc}(h:Xg base w v l):QN w v l:=by
 obtain⟨a,cap,rfl,m,h⟩:=h;refine⟨a,cap,rfl,m,?_⟩;rcases h with h|⟨b,o,rfl,_,h⟩;·exact .inl h
 ·refine .inr ⟨b,o,rfl,fun i n=>?_⟩;obtain⟨q,p,r,c,d,e,f,g,j,k⟩:=h i n;exact⟨q,p,r,c,d,e,f,g.1,j.1,k.1⟩
theorem Xg.kept{base:Nat}{w w':L}{v:N}{l:List Zc}(h:Xg base w v l){row:Option Nat}(hg:Y w w' row)(hrow:row=M∨∃g cur t fz,row=O g∧base<=g∧w.heap[g]?=O (tD cur t fz)∧t≠5∧t≠122):Xg base w' v l:=by
 obtain⟨a,cap,rfl,G,h⟩:=h;refine⟨a,cap,rfl,G,?_⟩;rcases h with h|⟨b,o,rfl,f,h⟩;·exact .inl h
 ·by_cases u:l=[];(·exact .inl ⟨u,fun e=>by cases e⟩);·have I:0<l.length:=rV.2 u;(have q:b<w.heap.size:=by obtain⟨y,x,z,k,_⟩:=h 0 I;exact Vj k);(have d:O b≠row:=by intro e;rcases hrow with rfl|⟨g,cur,t,fz,rfl,F,j,J,r⟩;(·cases e);·cases e;rcases f with f|⟨s,D,f⟩;(·omega);·rw[f]at j;simp only[tF,tZ]at j;exact r j.2.1.symm);(have c:row=M∨∃g cur t fz,row=O g∧base<=g∧w.heap[g]?=O (tD cur t fz)∧t≠5:=by rcases hrow with h|⟨g,cur,t,fz,m,n,p,E,_⟩;(·exact .inl h);·exact .inr ⟨g,cur,t,fz,m,n,p,E⟩);refine .inr ⟨b,o,rfl,?_,fun i H=>?_⟩;(·rcases f with f|⟨cur,fz,f⟩;(·exact .inl f);·exact .inr ⟨cur,fz,by rw[hg.block b q d];exact f⟩);·obtain⟨y,x,z,k,A,B,C,m,n,p⟩:=h i H;exact⟨y,x,z,hg.cell k (by simpa using d),hg.cell A (by simpa using d),hg.cell B (by simpa using d),hg.cell C (by simpa using d),m.keptT hg c,n.keptT hg c,p.keptT hg c⟩
theorem Xg.grown{base:Nat}{w w':L}{v:N}{l:List Zc}(h:Xg base w v l)(hg:Y w w' M):Xg base w' v l:=h.kept hg (.inl rfl)
def JL(w:L)(v:N)(c:Xy):Prop:=∃vs,v=sU #[tE tG c.turn,vs]∧QN w vs c.writes
theorem JL.grown{w w':L}{v:N}{c:Xy}(h:JL w v c)(hg:Y w w' M):JL w' v c:=by
 obtain⟨a,rfl,h⟩:=h;exact⟨a,rfl,h.grown hg⟩
theorem JL.agg{w:L}{v:N}{c:Xy}(h:JL w v c):∃a cap,v=sU #[tE tG c.turn,S a c.writes.length cap]:=by
 obtain⟨b,rfl,h⟩:=h;obtain⟨a,cap,rfl⟩:=h.shape;exact⟨a,cap,rfl⟩
theorem JL.writes{w:L}{c:Xy}{x y:N}(h:JL w (sU #[x,y]) c):x=tE tG c.turn∧QN w y c.writes:=by
 obtain⟨a,e,h⟩:=h;injection e with e;injection e with e;injection e with e1 e;injection e with e2 e;exact⟨e1,e2▸h⟩
structure ER(c:Xy):Prop where turn:-9223372036854775808<=c.turn∧c.turn<=9223372036854775807writes:kP c.writes
structure VQ where
  data : List UInt8
  synced : Int
def VU:VQ:=⟨[],0⟩
def KD(w:L)(v:N)(t:VQ):Prop:=∃vd,v=sU #[vd,tE tG t.synced]∧Qe w vd t.data
theorem KD.grown{w w':L}{v:N}{t:VQ}(h:KD w v t)(hg:Y w w' M):KD w' v t:=by
 obtain⟨a,rfl,h⟩:=h;exact⟨a,rfl,h.grown hg⟩
theorem KD.agg{w:L}{v:N}{t:VQ}(h:KD w v t):∃a cap,v=sU #[S a t.data.length cap,tE tG t.synced]:=by
 obtain⟨b,rfl,h⟩:=h;obtain⟨a,cap,rfl⟩:=h.shape;exact⟨a,cap,rfl⟩
theorem KD.data{w:L}{t:VQ}{x y:N}(h:KD w (sU #[x,y]) t):Qe w x t.data∧y=tE tG t.synced:=by
 obtain⟨a,e,h⟩:=h;injection e with e;injection e with e;injection e with e1 e;injection e with e2 e;exact⟨e1▸h,e2⟩
structure xI(t:VQ):Prop where data:t.data.length<=140737488355328synced:-9223372036854775808<=t.synced∧t.synced<=9223372036854775807
def Yo(w:L)(v:N)(t:VQ):Prop:=∃vd,v=sU #[vd,tE tG t.synced]∧Qh 0 w vd t.data
theorem Yo.is{w:L}{v:N}{t:VQ}(h:Yo w v t):KD w v t:=by
 obtain⟨a,rfl,h⟩:=h;exact⟨a,rfl,h.slice⟩
theorem VF(w:L):Yo w (sU #[S M 0 0,tE tG 0]) VU:=⟨_,rfl,QI w,.inl rfl⟩
def Gi(t:VQ):Bool:=tV (t.data.length<=200000)&&tV (0<=t.synced∧t.synced<=(t.data.length:Int))
theorem Ki(t:VQ):Gi t=tA↔t.data.length<=200000∧0<=t.synced∧t.synced<=(t.data.length:Int):=by
 unfold Gi;rw[rP,decide_eq_true_iff,decide_eq_true_iff]
def F9(c:Xy):List UInt8:=if Q7 c=0then Ze c else[]
def TU(t:VQ):Int:=if Gi t=tA then 0 else 6
def J8(t:VQ):VQ:=if Gi t=tA then⟨t.data,(t.data.length:Int)⟩else VU
def Ud(t:VQ)(keep:Int):Int:=if Gi t=tA then(if keep<0then 2 else 0)else 6
def Xo(t:VQ)(keep:Int):Nat:=if keep<(t.data.length:Int)-t.synced then(t.synced+keep).toNat else t.data.length
def Xk(t:VQ)(keep:Int):VQ:=if Ud t keep=0then⟨t.data.take (Xo t keep),(Xo t keep:Int)⟩else VU
def Vg(D:List UInt8->List UInt8)(t:VQ)(c:Xy):Int:=if Gi t=tA then(if Q7 c=0then(if 200000<t.data.length+(Zy D c).length then 11 else 0)else Q7 c)else 6
def zA(D:List UInt8->List UInt8)(t:VQ)(c:Xy):VQ:=if Vg D t c=0then⟨t.data++Zy D c,t.synced⟩else VU
def RI(t:VQ):Int:=if Gi t=tA then 0 else 6
def xR(D:List UInt8->List UInt8)(t:VQ):List Xy:=if Gi t=tA then(Kj D 1 t.data).1 else[]
def zK(D:List UInt8->List UInt8)(t:VQ):VQ:=if Gi t=tA then⟨t.data.take (MY D t.data),if t.synced>(MY D t.data:Int)then(MY D t.data:Int)else t.synced⟩else VU
theorem Ck{D:List UInt8->List UInt8}(hD:∀x,(D x).length=4){c:Xy}(hc:Q7 c=0):6<=(Zy D c).length∧(Zy D c).length<=600:=by
 have a:=Pf hD c;have b:=UN hc;omega
theorem CW(D:List UInt8->List UInt8)(cs:List Xy)(i:Nat)(h:i<cs.length):QV D (cs.take (i+1))=QV D (cs.take i)++Zy D (cs.getD i Zh):=by
 rw[sZ h,Vi,Pa,show cs[i]=cs.getD i Zh by simp[h]]
theorem dU{D:List UInt8->List UInt8}{t:VQ}(hm:Gi t=tA){cs:List Xy}{r:List UInt8}{n:Nat}(h:Kj D 1 t.data=(cs,r))(hn:MY D t.data=n):RI t=0∧xR D t=cs∧zK D t=⟨t.data.take n,if t.synced>(n:Int)then(n:Int)else t.synced⟩:=by
 refine⟨by rw[RI,if_pos hm],by rw[xR,if_pos hm,h],by rw[zK,if_pos hm,hn]⟩
theorem IV{D:List UInt8->List UInt8}(hD:∀x,(D x).length=4){cs:List Xy}(h:qJ 1 cs)(k:Nat)(s:Int)(hk:k<=(QV D cs).length)(hs:0<=s∧s<=(k:Int))(hl:(QV D cs).length<=200000):∃j,j<=cs.length∧(QV D (cs.take j)).length<=k∧(j<cs.length->k<(QV D (cs.take (j+1))).length)∧RI ⟨(QV D cs).take k,s⟩=0∧xR D ⟨(QV D cs).take k,s⟩=cs.take j∧zK D ⟨(QV D cs).take k,s⟩=⟨QV D (cs.take j),if s>((QV D (cs.take j)).length:Int)then((QV D (cs.take j)).length:Int)else s⟩:=by
 obtain⟨j,i,f,g,o,l⟩:=Cg hD h k;have d:((QV D cs).take k).length=k:=by simp;omega
 have m:Gi ⟨(QV D cs).take k,s⟩=tA:=(Ki _).2 ⟨by show((QV D cs).take k).length<=_;omega,by show 0<=s∧s<=(((QV D cs).take k).length:Int);omega⟩;have n:MY D ((QV D cs).take k)=(QV D (cs.take j)).length:=by rw[MY,f,d];show k-(((QV D cs).take k).drop _).length=_;rw[pU,d];omega
 obtain⟨a,b,c⟩:=dU m f n;refine⟨j,i,g,l,a,b,?_⟩;rw[c];have e:((QV D cs).take k).take (QV D (cs.take j)).length=QV D (cs.take j):=by rw[oD,oE g];(conv=>lhs;rw[<-pC j cs,Vi]);rw[show(cs.take j++cs.drop j).take j=cs.take j by rw[pC]];exact List.take_left' rfl
 show(⟨((QV D cs).take k).take _,_⟩:VQ)=_;rw[e]
def Iv:FL->Nat->List Xy->Int|_,_,[]=>0|f,i,c::cs=>if Q7 c=0then(if c.turn=((i+1:Nat):Int)then(if QT f c.writes=0then Iv (Xn f c.writes) (i+1) cs else QT f c.writes)else 3)else Q7 c
def GQ:FL->List Xy->FL|f,[]=>f|f,c::cs=>GQ (Xn f c.writes) cs
theorem vB:∀(a b:List Xy)(f:FL),GQ f (a++b)=GQ (GQ f a) b|[],_,_=>rfl|_::a,b,_=>vB a b _
theorem Al(cs:List Xy)(f:FL)(c:Xy):GQ f (cs++[c])=Xn (GQ f cs) c.writes:=by
 rw[vB];rfl
def uR:FL->Nat->List Xy->Prop|_,_,[]=>True|f,i,c::cs=>Q7 c=0∧c.turn=((i+1:Nat):Int)∧QT f c.writes=0∧uR (Xn f c.writes) (i+1) cs
theorem uR.take:∀{cs:List Xy}{f:FL}{i:Nat}(_:uR f i cs)(j:Nat),uR f i (cs.take j)|[],_,_,_,j=>by rw[List.take_nil];trivial|_::_,_,_,_,0=>trivial|_::_,_,_,h,j+1=>⟨h.1,h.2.1,h.2.2.1,uR.take h.2.2.2 j⟩
theorem uR.at:∀{cs:List Xy}{f:FL}{i:Nat}(_:uR f i cs)(j:Nat)(_:j<cs.length),Q7 (cs.getD j Zh)=0∧(cs.getD j Zh).turn=((i+j+1:Nat):Int)∧QT (GQ f (cs.take j)) (cs.getD j Zh).writes=0|[],_,_,_,j,hj=>by simp at hj|c::cs,f,i,h,0,_=>⟨h.1,h.2.1,h.2.2.1⟩|c::cs,f,i,h,j+1,hj=>by have:=uR.at h.2.2.2 j (by simpa using hj);rw[show i+(j+1)+1=i+1+j+1by omega];simpa[GQ]using this
theorem Fi{l:FL}(h:Xh l)(ws:List Zc):Xh (Xn l ws):=by
 unfold Xn;by_cases a:QT l ws=0;·rw[if_pos a];unfold QT at a;rw[if_pos ((XW l).2 h)]at a;by_cases b:10<ws.length;(·rw[if_pos b]at a;omega);·rw[if_neg b]at a;exact uT ws l h a
 ·rw[if_neg a];exact G2
theorem uM:∀(cs:List Xy)(f:FL),Xh f->Xh (GQ f cs)|[],_,h=>h|c::cs,_,h=>uM cs _ (Fi h c.writes)
def JI(n t:Int):Bool:=tV (0<=t∧t<=n∧n-t<6)
def Tz(a b:Zc):Prop:=a.name=b.name∧a.key=b.key
def EP(l:List Zc):Prop:=l.Pairwise fun a b=>¬Tz a b
def Xz(a b:Rd):Bool:=a.wide==b.wide&&(tV (a.name=b.name)&&(tV (a.key=b.key)&&tV (a.last=b.last)))
theorem G5(a b:Rd):Xz a b=tA↔a=b:=by
 obtain⟨n,k,w,l⟩:=a;obtain⟨i,g,j,h⟩:=b;simp only[Xz,rP,decide_eq_true_iff,beq_iff_eq,Rd.mk.injEq];exact⟨fun⟨c,d,e,f⟩=>⟨d,e,c,f⟩,fun⟨c,d,e,f⟩=>⟨e,c,d,f⟩⟩
def ZH(a b:Zc):Bool:=tV (a.name=b.name)&&tV (a.key=b.key)
theorem qI(a b:Zc):ZH a b=tA↔Tz a b:=by
 simp only[ZH,rP,decide_eq_true_iff];exact Iff.rfl
def GC:List Rd->List Rd->Int|_,[]=>0|p,r::rs=>if Xx r=0then(if p.any (fun q=>Xz q r)=tA then 3 else GC (p++[r]) rs)else Xx r
def xD:List Zc->List Zc->Int|_,[]=>0|p,w::ws=>if QA w=0then(if p.any (fun q=>ZH q w)=tA then 3 else xD (p++[w]) ws)else QA w
theorem F1:∀(rs p:List Rd),GC p rs=0↔(∀r∈rs,Xx r=0)∧(∀r∈rs,r∉p)∧rs.Nodup|[],p=>by simp[GC]|r::rs,p=>by have m:=F1 rs (p++[r]);rw[GC];by_cases f:Xx r=0;(·rw[if_pos f];by_cases g:p.any (fun q=>Xz q r)=tA;(·rw[if_pos g];refine⟨fun h=>by omega,fun h=>?_⟩;obtain⟨q,j,k⟩:=rF.1 g;rw[(G5 q r).1 k]at j;exact absurd j (h.2.1 r (rM ..)));·rw[if_neg g,m];have l:r∉p:=fun d=>g (rF.2 ⟨r,d,(G5 r r).2 rfl⟩);constructor;(·rintro⟨a,b,c⟩;refine⟨fun x e=>?_,fun x e=>?_,pZ.2 ⟨fun d=>b r d (by simp),c⟩⟩;(·rcases tN.1 e with rfl|e;(·exact f);·exact a x e);·rcases tN.1 e with rfl|e;(·exact l);·exact fun d=>b x e (sB.2 (.inl d)));·rintro⟨a,b,c⟩;have i:=pZ.1 c;refine⟨fun x e=>a x (sY _ e),fun x e d=>?_,i.2⟩;rcases sB.1 d with d|d;(·exact b x (sY _ e) d);·simp only[tN,tQ,or_false]at d;subst d;exact i.1 e);·rw[if_neg f];exact⟨fun h=>absurd h f,fun h=>absurd (h.1 r (rM ..)) f⟩
theorem ME:∀(ws p:List Zc),xD p ws=0↔(∀w∈ws,QA w=0)∧(∀w∈ws,∀q∈p,¬Tz q w)∧EP ws|[],p=>by simp[xD,EP]|w::ws,p=>by have n:=ME ws (p++[w]);rw[xD];by_cases g:QA w=0;(·rw[if_pos g];by_cases i:p.any (fun q=>ZH q w)=tA;(·rw[if_pos i];refine⟨fun h=>by omega,fun h=>?_⟩;obtain⟨q,j,l⟩:=rF.1 i;exact absurd ((qI q w).1 l) (h.2.1 w (rM ..) q j));·rw[if_neg i,n];have m:∀q∈p,¬Tz q w:=fun q f e=>i (rF.2 ⟨q,f,(qI q w).2 e⟩);constructor;(·rintro⟨a,b,c⟩;refine⟨fun x d=>?_,fun x d q j=>?_,rC.2 ⟨fun x d=>b x d w (by simp),c⟩⟩;(·rcases tN.1 d with rfl|d;(·exact g);·exact a x d);·rcases tN.1 d with rfl|d;(·exact m q j);·exact b x d q (sB.2 (.inl j)));·rintro⟨a,b,c⟩;have k:=rC.1 c;refine⟨fun x d=>a x (sY _ d),fun x d q f=>?_,k.2⟩;rcases sB.1 f with f|f;(·exact b x (sY _ d) q f);·simp only[tN,tQ,or_false]at f;subst f;exact k.1 x d);·rw[if_neg g];exact⟨fun h=>absurd h g,fun h=>absurd (h.1 w (rM ..)) g⟩
structure Tx where
  start : Int
  reads : List Rd
  writes : List Zc
def Fh:Tx:=⟨0,[],[]⟩
def V1(t:Tx):Int:=if 0<=t.start∧t.start<=1048576then(if 20<t.reads.length∨10<t.writes.length then 1 else(if GC [] t.reads=0then xD [] t.writes else GC [] t.reads))else 2
structure GZ (t : Tx) : Prop where
  start : 0 <= t.start ∧ t.start <= 1048576
  reads : t.reads.length <= 20
  writes : t.writes.length <= 10
  each : ∀ r ∈ t.reads, Xx r = 0
  once : t.reads.Nodup
  wrs : ∀ w ∈ t.writes, QA w = 0
  apart : EP t.writes
theorem kG(t:Tx):V1 t=0↔GZ t:=by
 unfold V1;by_cases c:0<=t.start∧t.start<=1048576;·rw[if_pos c];by_cases e:20<t.reads.length∨10<t.writes.length;(·rw[if_pos e];exact⟨fun h=>by omega,fun h=>by have:=h.reads;have:=h.writes;omega⟩);·rw[if_neg e];by_cases a:GC [] t.reads=0;(·rw[if_pos a,ME];have b:=(F1 _ _).1 a;exact⟨fun h=>⟨c,by omega,by omega,b.1,b.2.2,h.1,h.2.2⟩,fun h=>⟨h.wrs,fun _ _ _ d=>by simp at d,h.apart⟩⟩);·rw[if_neg a];exact⟨fun h=>absurd h a,fun h=>absurd ((F1 _ _).2 ⟨h.each,fun _ _ d=>by simp at d,h.once⟩) a⟩
 ·rw[if_neg c];exact⟨fun h=>by omega,fun h=>absurd h.start c⟩
def RH(t:Tx)(r:Rd):Bool:=t.reads.any (fun q=>Xz q r)
theorem Iz(t:Tx)(r:Rd):RH t r=tA↔r∈t.reads:=by
 unfold RH;rw[rF];exact⟨fun⟨q,a,e⟩=>(G5 q r).1 e▸a,fun h=>⟨r,h,(G5 r r).2 rfl⟩⟩
def Xe(t:Tx)(r:Rd):Int:=if V1 t=0then(if Xx r=0then(if RH t r=tA then 0 else(if t.reads.length=20then 11 else 0))else Xx r)else V1 t
def XZ(t:Tx)(r:Rd):Tx:=if Xe t r=0then(if RH t r=tA then t else⟨t.start,t.reads++[r],t.writes⟩)else Fh
theorem cW{t:Tx}(h:GZ t){r:Rd}(hr:Xx r=0):Xe t r=if RH t r=tA then 0 else(if t.reads.length=20then 11 else 0):=by
 rw[Xe,if_pos ((kG t).2 h),if_pos hr]
theorem bR{t:Tx}(h:GZ t){r:Rd}(hr:Xx r=0)(he:Xe t r=0):GZ (XZ t r):=by
 rw[XZ,if_pos he];by_cases d:RH t r=tA;·rw[if_pos d];exact h
 ·rw[if_neg d];rw[cW h hr,if_neg d]at he;have j:r∉t.reads:=fun e=>d ((Iz t r).2 e);(have g:t.reads.length≠20:=fun e=>by rw[if_pos e]at he;omega);refine⟨h.start,?_,h.writes,fun x c=>?_,?_,h.wrs,h.apart⟩;(·have:=h.reads;simp;omega);(·rcases sB.1 c with c|c;(·exact h.each x c);·simp only[tN,tQ,or_false]at c;rw[c];exact hr);·rw[pQ];refine⟨h.once,by simp,fun a i b f e=>?_⟩;simp only[tN,tQ,or_false]at f;subst f;subst e;exact j i
def Fe(l:List Zc)(w:Zc):Bool:=l.any (fun q=>ZH q w)
def zJ:List Zc->Zc->List Zc|[],w=>[w]|a::l,w=>if ZH a w=tA then w::l else a::zJ l w
def Xb(t:Tx)(w:Zc):Int:=if V1 t=0then(if QA w=0then(if Fe t.writes w=tA then 0 else(if t.writes.length=10then 11 else 0))else QA w)else V1 t
def Yv(t:Tx)(w:Zc):Tx:=if Xb t w=0then⟨t.start,t.reads,zJ t.writes w⟩else Fh
theorem Dd:∀(l:List Zc)(w:Zc),(zJ l w).length=if Fe l w=tA then l.length else l.length+1|[],w=>rfl|a::l,w=>by rw[zJ,Fe,pG];by_cases h:ZH a w=tA;(·rw[if_pos h,h];rfl);·rw[if_neg h,sR,Dd l w];(have c:ZH a w=tB:=by simpa using h);rw[c,Bool.false_or];show _=if Fe l w=tA then _ else _;by_cases b:Fe l w=tA;(·rw[if_pos b,if_pos b];rfl);·rw[if_neg b,if_neg b];rfl
theorem Te:∀(l:List Zc)(w x:Zc),x∈zJ l w->x=w∨x∈l|[],w,x,h=>by simpa[zJ]using h|a::l,w,x,h=>by rw[zJ]at h;by_cases b:ZH a w=tA;(·rw[if_pos b]at h;rcases tN.1 h with h|h;(·exact .inl h);·exact .inr (sY _ h));·rw[if_neg b]at h;rcases tN.1 h with h|h;(·exact .inr (by rw[h];exact rM ..));·exact(Te l w x h).elim .inl fun h=>.inr (sY _ h)
theorem Df{a b c:Zc}(h:Tz a b)(k:Tz b c):Tz a c:=⟨h.1.trans k.1,h.2.trans k.2⟩
theorem FX:∀(l:List Zc)(w:Zc),EP l->EP (zJ l w)|[],w,_=>List.pairwise_singleton ..|a::l,w,h=>by have c:=rC.1 h;rw[zJ];by_cases d:ZH a w=tA;(·rw[if_pos d];exact rC.2 ⟨fun x b e=>c.1 x b (Df ((qI a w).1 d) e),c.2⟩);·rw[if_neg d];refine rC.2 ⟨fun x b e=>?_,FX l w c.2⟩;rcases Te l w x b with rfl|b;(·exact d ((qI _ _).2 e));·exact c.1 x b e
theorem IP{t:Tx}(h:GZ t){w:Zc}(hw:QA w=0):Xb t w=if Fe t.writes w=tA then 0 else(if t.writes.length=10then 11 else 0):=by
 rw[Xb,if_pos ((kG t).2 h),if_pos hw]
theorem O0{t:Tx}(h:GZ t){w:Zc}(hw:QA w=0)(he:Xb t w=0):GZ (Yv t w):=by
 rw[Yv,if_pos he];rw[IP h hw]at he;refine⟨h.start,h.reads,?_,h.each,h.once,fun x a=>?_,FX _ _ h.apart⟩;·show(zJ t.writes w).length<=10;rw[Dd];have:=h.writes;by_cases b:Fe t.writes w=tA;(·rw[if_pos b];exact this);·rw[if_neg b]at he⊢;(have c:t.writes.length≠10:=fun e=>by rw[if_pos e]at he;omega);omega
 ·rcases Te _ _ _ a with rfl|a;(·exact hw);·exact h.wrs x a
def fH(l:List Zc)(n k:List UInt8):Option Zc:=l.find? fun q=>tV (q.name=n)&&tV (q.key=k)
theorem Iy{l:List Zc}{n k:List UInt8}{w:Zc}(h:fH l n k=O w):w∈l∧w.name=n∧w.key=k:=by
 refine⟨List.mem_of_find?_eq_some h,?_⟩;have:=List.find?_some h;simpa using this
def fU(a b k:List UInt8):Bool:=!Yy k a&&!Yy b k
def KG(n a b:List UInt8)(l:PL)(w:Zc):PL:=if w.name=n∧fU a b w.key=tA then(if w.gone=tA then jP l w.key else JU l (w.key,w.value))else l
def AF(n a b:List UInt8):PL->List Zc->PL|l,[]=>l|l,w::ws=>AF n a b (KG n a b l w) ws
def kD(n a b:List UInt8):PL->List Zc->Int|_,[]=>0|l,w::ws=>if 60<(KG n a b l w).length then 11 else kD n a b (KG n a b l w) ws
def XM(r:Rd)(w:Zc):Bool:=tV (r.name=w.name)&&(if r.wide=tA then fU r.key r.last w.key else tV (r.key=w.key))
def gI(t:Tx)(ws:List Zc):Bool:=ws.any fun w=>t.reads.any fun r=>XM r w
def IY(t:Tx)(l:List Xy):Bool:=l.any fun c=>tV (t.start<c.turn)&&gI t c.writes
def F3(t:Tx):Int:=V1 t
def Us(t:Tx)(l:List Xy):Bool:=if V1 t=0then IY t l else tB
def zD(l:FL)(t:Tx):Int:=if QZ l=0then V1 t else QZ l
def Kd(l:FL)(t:Tx)(n k:List UInt8):Int:=if zD l t=0then(if Qt n.length=0then Qn k.length else Qt n.length)else zD l t
def Vu(l:FL)(t:Tx)(n k:List UInt8):Bool:=if Kd l t n k=0then(fH t.writes n k).isSome else tB
def UW(l:FL)(t:Tx)(n k:List UInt8):Bool:=if Kd l t n k=0then(match fH t.writes n k with|O w=>!w.gone|none=>UU l n k)else tB
def UI(l:FL)(t:Tx)(n k:List UInt8):List UInt8:=if Kd l t n k=0then(match fH t.writes n k with|O w=>w.value|none=>UV l n k)else[]
theorem Sf{l:FL}{t:Tx}(hl:Xh l)(ht:GZ t){n k:List UInt8}(hn:1<=n.length∧n.length<=8)(hk:1<=k.length∧k.length<=16):Kd l t n k=0:=by
 rw[Kd,zD,if_pos ((XW l).2 hl),if_pos ((kG t).2 ht),if_pos ((Zt _).2 hn),(Zr _).2 hk]
def Kf(l:FL)(t:Tx)(n a b:List UInt8):Int:=if zD l t=0then(if Qt n.length=0then(if Qn a.length=0then(if Qn b.length=0then kD n a b (UY (Y0 l n) a b) t.writes else Qn b.length)else Qn a.length)else Qt n.length)else zD l t
def VI(l:FL)(t:Tx)(n a b:List UInt8):PL:=if Kf l t n a b=0then AF n a b (UY (Y0 l n) a b) t.writes else[]
structure Rp where
  sess : Int
  code : Int
  turn : Int
  found : Bool
  value : List UInt8
  pairs : PL
  pf : Option (FL × List UInt8 × List UInt8)
def yP(s:Nat)(e:Int):Rp:=⟨(s:Int),e,0,tB,[],[],M⟩
def WM(s:Nat)(t:Int):Rp:=⟨(s:Int),0,t,tB,[],[],M⟩
structure Sv where
  up : Bool
  tape : VQ
  commits : List Xy
  synced : Nat
  begun : Nat -> Bool
  waits : Nat -> Bool
  txns : Nat -> Tx
  queue : List Nat
  out : List Rp
def Kv{α:Type}(f:Nat->α)(i:Nat)(x:α):Nat->α:=fun j=>if j=i then x else f j
theorem Xa{α:Type}(f:Nat->α)(i:Nat)(x:α):Kv f i x i=x:=by
 simp[Kv]
theorem Zg{α:Type}(f:Nat->α){i j:Nat}(x:α)(h:j≠i):Kv f i x j=f j:=by
 simp[Kv,h]
def VS(up:Bool)(t:VQ)(cs:List Xy)(o:List Rp):Sv:=⟨up,t,cs,cs.length,fun _=>tB,fun _=>tB,fun _=>Fh,[],o⟩
def L7:Sv:=VS tA VU [] []
def Xi(v:Sv)(r:Rp):Sv:={v with out:=v.out++[r]}
def QD(v:Sv)(n:Nat):FL:=GQ [] (v.commits.take n)
def U3(v:Sv)(s:Nat)(x:Rd)(o:Rp):Sv:=if Xe (v.txns s) x=0then Xi {v with txns:=Kv v.txns s (XZ (v.txns s) x)} o else Xi v (yP s (Xe (v.txns s) x))
def xS(v:Sv)(s:Nat)(w:Zc):Sv:=Xi (if Xb (v.txns s) w=0then{v with txns:=Kv v.txns s (Yv (v.txns s) w)}else v) (yP s (Xb (v.txns s) w))
def MD(v:Sv)(s:Nat)(r:Rq):Sv:=if Vu (QD v (v.txns s).start.toNat) (v.txns s) r.name r.key=tA then Xi v ⟨(s:Int),0,(v.txns s).start,UW (QD v (v.txns s).start.toNat) (v.txns s) r.name r.key,UI (QD v (v.txns s).start.toNat) (v.txns s) r.name r.key,[],M⟩else U3 v s (Zp r) ⟨(s:Int),0,(v.txns s).start,UW (QD v (v.txns s).start.toNat) (v.txns s) r.name r.key,UI (QD v (v.txns s).start.toNat) (v.txns s) r.name r.key,[],M⟩
def P0(v:Sv)(s:Nat)(r:Rq):Sv:=if Kf (QD v (v.txns s).start.toNat) (v.txns s) r.name r.key r.last=0then U3 v s (Zp r) ⟨(s:Int),0,(v.txns s).start,tB,[],VI (QD v (v.txns s).start.toNat) (v.txns s) r.name r.key r.last,M⟩else Xi v (yP s (Kf (QD v (v.txns s).start.toNat) (v.txns s) r.name r.key r.last))
def P5(v:Sv)(s:Nat)(r:Rq):Sv:=if r.kind=4∨r.kind=5then xS v s (Xr r)else if r.kind=2then MD v s r else P0 v s r
def Jc(v:Sv)(s:Nat):Xy:=⟨((v.commits.length+1:Nat):Int),(v.txns s).writes⟩
def XE(v:Sv)(s:Nat):Sv:={v with begun:=Kv v.begun s tB}
def JT(D:List UInt8->List UInt8)(v:Sv)(s:Nat):Sv:=if(v.txns s).writes.length=0then Xi (XE v s) (WM s (v.txns s).start)else if v.queue.length=6∨v.commits.length=300then Xi v (yP s 11)else if Us (v.txns s) v.commits=tA then Xi (XE v s) (yP s 9)else if QT (QD v v.commits.length) (v.txns s).writes≠0then Xi (XE v s) (yP s (QT (QD v v.commits.length) (v.txns s).writes))else if Vg D v.tape (Jc v s)≠0then Xi (XE v s) (yP s (Vg D v.tape (Jc v s)))else{XE v s with tape:=zA D v.tape (Jc v s),commits:=v.commits++[Jc v s],queue:=v.queue++[s],waits:=Kv v.waits s tA}
def DB(v:Sv)(s:Nat)(r:Rq):Sv:=Xi v ⟨(s:Int),0,(v.synced:Int),UU (QD v v.synced) r.name r.key,UV (QD v v.synced) r.name r.key,[],O (QD v v.synced,r.name,r.key)⟩
def ZS(v:Sv)(s:Nat)(r:Rq):Bool:=v.waits s||(if r.kind=1then v.begun s else !v.begun s)
def zT(D:List UInt8->List UInt8)(v:Sv)(s:Nat)(r:Rq):Sv:=if r.kind=8then DB v s r else if ZS v s r=tA then Xi v (yP s 6)else if r.kind=1then Xi {v with begun:=Kv v.begun s tA,txns:=Kv v.txns s ⟨(v.synced:Int),[],[]⟩} (WM s (v.synced:Int))else if r.kind=7then Xi (XE v s) (yP s 0)else if JI (v.synced:Int) (v.txns s).start=tB then Xi (XE v s) (yP s 10)else if r.kind=6then JT D v s else P5 v s r
def Gh(D:List UInt8->List UInt8)(v:Sv)(s:Nat)(data:List UInt8):Sv:=if v.up=tB then Xi v (yP s 13)else if Xc data=0then zT D v s (YI data)else Xi v (yP s (Xc data))
def Jb:Nat->List Nat->List Rp|_,[]=>[]|n,s::q=>WM s ((n+1:Nat):Int)::Jb (n+1) q
def K9(f:Nat->Bool)(q:List Nat):Nat->Bool:=fun j=>if j∈q then tB else f j
def Vo(v:Sv):Sv:={v with tape:=J8 v.tape,synced:=v.synced+v.queue.length,waits:=K9 v.waits v.queue,queue:=[],out:=v.out++Jb v.synced v.queue}
def Uy(D:List UInt8->List UInt8)(v:Sv)(k:Int):Sv:=VS tB (zK D (Xk v.tape k)) (xR D (Xk v.tape k)) v.out
def XD(D:List UInt8->List UInt8)(v:Sv)(a:Ac):Sv:=if a.kind=1then Gh D v a.sess.toNat a.data else if a.kind=2then(if v.up=tA then Vo v else v)else if a.kind=3then(if v.up=tA then Uy D v a.keep else v)else{v with up:=tA}
def QY(D:List UInt8->List UInt8)(l:List Ac):Sv:=l.foldl (XD D) L7
theorem Ei(D:List UInt8->List UInt8)(l:List Ac)(a:Ac):QY D (l++[a])=XD D (QY D l) a:=by
 simp[QY]
theorem Da(D:List UInt8->List UInt8)(l k:List Ac):QY D (l++k)=k.foldl (XD D) (QY D l):=by
 simp[QY]
def GP(l:List Ac):Int:=VY l
structure Oc where
  up : Bool
  turn : Int
  pending : Int
  forest : FL
  replies : List Rp
def Mh(v:Sv):Oc:=⟨v.up,(v.synced:Int),(v.queue.length:Int),QD v v.synced,v.out⟩
def Hr:Oc:=⟨tB,0,0,[],[]⟩
def xB(D:List UInt8->List UInt8)(l:List Ac):Oc:=if GP l=0then Mh (QY D l)else Hr
section
theorem En:∀{cs:List Xy}{f:FL}{i:Nat},uR f i cs->qJ (i+1) cs|[],_,_,_=>trivial|_::_,_,_,h=>⟨by rw[h.2.1],h.1,En h.2.2.2⟩
theorem EJ:∀{cs:List Xy}{f:FL}{i:Nat}{c:Xy},uR f i cs->Q7 c=0->c.turn=((i+cs.length+1:Nat):Int)->QT (GQ f cs) c.writes=0->uR f i (cs++[c])|[],_,_,_,_,h1,h2,h3=>⟨h1,by rw[h2];rfl,h3,trivial⟩|d::cs,f,i,c,h,h1,h2,h3=>⟨h.1,h.2.1,h.2.2.1,EJ h.2.2.2 h1 (by rw[h2,sR];congr 1;omega) h3⟩
structure ZC (D : List UInt8 -> List UInt8) (v : Sv) : Prop where
  goes : uR [] 0 v.commits
  many : v.commits.length <= 300
  data : v.tape.data = QV D v.commits
  mark : v.tape.synced = ((QV D (v.commits.take v.synced)).length : Int)
  room : v.tape.data.length <= 200000
  turn : v.synced + v.queue.length = v.commits.length
  few : v.queue.length <= 6
  wait : ∀ s, v.waits s = tA ↔ s ∈ v.queue
  once : v.queue.Nodup
  tx : ∀ s, v.begun s = tA -> GZ (v.txns s) ∧ (v.txns s).start <= (v.synced : Int)
  idle : ∀ s, v.waits s = tA -> v.begun s = tB
  down : v.up = tB -> v.queue = [] ∧ ∀ s, v.begun s = tB
variable{D:List UInt8->List UInt8}{v:Sv}
theorem ZC.tell(h:ZC D v)(r:Rp):ZC D (Xi v r):=⟨h.goes,h.many,h.data,h.mark,h.room,h.turn,h.few,h.wait,h.once,h.tx,h.idle,h.down⟩
theorem Ej{f:Nat->Bool}{s j:Nat}(h:Kv f s tB j=tA):j≠s∧f j=tA:=by
 by_cases e:j=s;·rw[e,Xa]at h;cases h
 ·exact⟨e,by rwa[Zg f _ e]at h⟩
theorem ZC.end(h:ZC D v)(s:Nat):ZC D (XE v s):=by
 refine⟨h.goes,h.many,h.data,h.mark,h.room,h.turn,h.few,h.wait,h.once,fun j a=>h.tx j (Ej a).2,fun j a=>?_,fun b=>⟨(h.down b).1,fun j=>?_⟩⟩;·show Kv v.begun s tB j=tB;by_cases e:j=s;(·rw[e,Xa]);·rw[Zg _ _ e];exact h.idle j a
 ·show Kv v.begun s tB j=tB;by_cases e:j=s;(·rw[e,Xa]);·rw[Zg _ _ e];exact(h.down b).2 j
theorem ZC.txn(h:ZC D v){s:Nat}{t:Tx}(ht:GZ t)(hs:t.start<=(v.synced:Int)):ZC D {v with txns:=Kv v.txns s t}:=by
 refine⟨h.goes,h.many,h.data,h.mark,h.room,h.turn,h.few,h.wait,h.once,fun j a=>?_,h.idle,h.down⟩;show GZ (Kv v.txns s t j)∧(Kv v.txns s t j).start<=_;by_cases e:j=s;·rw[e,Xa];exact⟨ht,hs⟩
 ·rw[Zg _ _ e];exact h.tx j a
theorem ZC.may(h:ZC D v):Gi v.tape=tA:=by
 refine(Ki _).2 ⟨h.room,?_⟩;rw[h.mark,h.data];have:=UG D v.commits v.synced v.commits.length (by have:=h.turn;omega);rw[sG]at this;omega
theorem kB{t:Tx}{r:Rd}(h:Xe t r=0):(XZ t r).start=t.start:=by
 rw[XZ,if_pos h];split<;>rfl
theorem DJ{t:Tx}{w:Zc}(h:Xb t w=0):(Yv t w).start=t.start:=by
 rw[Yv,if_pos h]
theorem ZC.note(h:ZC D v){s:Nat}(hb:v.begun s=tA){x:Rd}(hx:Xx x=0)(o:Rp):ZC D (U3 v s x o):=by
 obtain⟨a,b⟩:=h.tx s hb;unfold U3;by_cases e:Xe (v.txns s) x=0;·rw[if_pos e];exact(h.txn (bR a hx e) (by rw[kB e];exact b)).tell _
 ·rw[if_neg e];exact h.tell _
theorem ZC.write(h:ZC D v){s:Nat}(hb:v.begun s=tA){w:Zc}(hw:QA w=0):ZC D (xS v s w):=by
 obtain⟨a,b⟩:=h.tx s hb;unfold xS;by_cases e:Xb (v.txns s) w=0;·rw[if_pos e];exact(h.txn (O0 a hw e) (by rw[DJ e];exact b)).tell _
 ·rw[if_neg e];exact h.tell _
theorem kJ{r:Rq}(h:VA r)(hk:r.kind=2∨r.kind=3):Xx (Zp r)=0:=Ot (by
 rw[(M4 h).1,if_pos hk])
theorem LL{r:Rq}(h:VA r)(hk:r.kind=4∨r.kind=5):QA (Xr r)=0:=Ef (by
 rw[(M4 h).2,if_pos hk])
theorem ZC.work(h:ZC D v){s:Nat}(hb:v.begun s=tA){r:Rq}(hr:VA r)(hk:2<=r.kind∧r.kind<=5):ZC D (P5 v s r):=by
 unfold P5;by_cases a:r.kind=4∨r.kind=5;·rw[if_pos a];exact h.write hb (LL hr a)
 ·rw[if_neg a];by_cases b:r.kind=2;(·rw[if_pos b];unfold MD;split;(·exact h.tell _);·exact h.note hb (kJ hr (.inl b)) _);·rw[if_neg b];unfold P0;split;(·exact h.note hb (kJ hr (.inr (by omega))) _);·exact h.tell _
theorem Dz{t:Tx}(ht:GZ t)(hw:¬t.writes.length=0)(n:Nat)(hn:n<=300):Q7 ⟨((n+1:Nat):Int),t.writes⟩=0:=(Kz _).2 ⟨by
 show(1:Int)<=((n+1:Nat):Int)∧((n+1:Nat):Int)<=1048576;omega,⟨by
 show 1<=t.writes.length;omega,ht.writes⟩,ht.wrs⟩
theorem Ce(h:ZC D v){s:Nat}(hb:v.begun s=tA)(h1:¬(v.txns s).writes.length=0)(h2:¬(v.queue.length=6∨v.commits.length=300))(h4:QT (QD v v.commits.length) (v.txns s).writes=0)(h5:Vg D v.tape (Jc v s)=0):ZC D {XE v s with tape:=zA D v.tape (Jc v s),commits:=v.commits++[Jc v s],queue:=v.queue++[s],waits:=Kv v.waits s tA}:=by
 obtain⟨r,q⟩:=h.tx s hb;have p:=h.many;have m:Q7 (Jc v s)=0:=Dz r h1 _ p;have d:=h.may;have c:v.tape.data.length+(Zy D (Jc v s)).length<=200000:=by rw[Vg,if_pos d,if_pos m]at h5;by_cases e:200000<v.tape.data.length+(Zy D (Jc v s)).length;(·rw[if_pos e]at h5;exact absurd h5 (by decide));·omega
 have n:zA D v.tape (Jc v s)=⟨v.tape.data++Zy D (Jc v s),v.tape.synced⟩:=by rw[zA,if_pos h5]
 have i:v.waits s≠tA:=fun e=>by have:=h.idle s e;rw[hb]at this;cases this
 have g:s∉v.queue:=fun e=>i ((h.wait s).2 e);have l:v.up=tA:=by cases k:v.up with|true=>rfl|false=>have:=(h.down k).2 s;rw[hb]at this;cases this
 have t:=h.turn;rw[n];refine⟨?_,?_,?_,?_,?_,?_,?_,?_,?_,?_,?_,?_⟩;·refine EJ h.goes m (by show((v.commits.length+1:Nat):Int)=_;congr 1;omega) ?_;rw[QD,sG]at h4;exact h4
 ·show(v.commits++[Jc v s]).length<=300;rw[tH,sC];omega
 ·show v.tape.data++Zy D (Jc v s)=QV D (v.commits++[Jc v s]);rw[Vi,Pa,h.data]
 ·show v.tape.synced=((QV D ((v.commits++[Jc v s]).take v.synced)).length:Int);rw[List.take_append_of_le_length (by omega)];exact h.mark
 ·show(v.tape.data++Zy D (Jc v s)).length<=200000;rw[tH];exact c
 ·show v.synced+(v.queue++[s]).length=(v.commits++[Jc v s]).length;rw[tH,tH,sC,sC];omega
 ·show(v.queue++[s]).length<=6;have:=h.few;rw[tH,sC];omega
 ·intro j;show Kv v.waits s tA j=tA↔j∈v.queue++[s];by_cases e:j=s;(·rw[e,Xa];simp);·rw[Zg _ _ e,h.wait j];simp[e]
 ·show(v.queue++[s]).Nodup;rw[pQ];exact⟨h.once,by simp,fun a o b hb e=>g (by simp at hb;rw[<-hb,<-e];exact o)⟩
 ·intro j f;exact h.tx j (Ej f).2
 ·intro j f;show Kv v.begun s tB j=tB;by_cases e:j=s;(·rw[e,Xa]);·rw[Zg _ _ e];exact h.idle j (by have:Kv v.waits s tA j=tA:=f;rwa[Zg _ _ e]at this)
 ·intro k;have:v.up=tB:=k;rw[l]at this;cases this
theorem ZC.commit(h:ZC D v){s:Nat}(hb:v.begun s=tA):ZC D (JT D v s):=by
 unfold JT;by_cases a:(v.txns s).writes.length=0;·rw[if_pos a];exact(h.end s).tell _
 ·rw[if_neg a];by_cases b:v.queue.length=6∨v.commits.length=300;(·rw[if_pos b];exact h.tell _);·rw[if_neg b];by_cases e:Us (v.txns s) v.commits=tA;(·rw[if_pos e];exact(h.end s).tell _);·rw[if_neg e];by_cases c:QT (QD v v.commits.length) (v.txns s).writes≠0;(·rw[if_pos c];exact(h.end s).tell _);·rw[if_neg c];by_cases d:Vg D v.tape (Jc v s)≠0;(·rw[if_pos d];exact(h.end s).tell _);·rw[if_neg d];exact Ce h hb a b (sV c) (sV d)
theorem ZC.req(h:ZC D v)(hup:v.up=tA)(s:Nat){r:Rq}(hr:VA r):ZC D (zT D v s r):=by
 unfold zT;by_cases g:r.kind=8;·rw[if_pos g];exact h.tell _
 ·rw[if_neg g];by_cases a:ZS v s r=tA;(·rw[if_pos a];exact h.tell _);·rw[if_neg a];(have c:v.waits s=tB∧(if r.kind=1then v.begun s else !v.begun s)=tB:=by unfold ZS at a;cases hw:v.waits s;(·rw[hw]at a;exact⟨rfl,by simpa using a⟩);·rw[hw]at a;exact absurd rfl a);by_cases d:r.kind=1;(·rw[if_pos d];refine ZC.tell ?_ _;have q:=h.many;have n:=h.turn;refine⟨h.goes,h.many,h.data,h.mark,h.room,h.turn,h.few,h.wait,h.once,fun j f=>?_,fun j f=>?_,fun o=>?_⟩;(·show GZ (Kv v.txns s _ j)∧(Kv v.txns s _ j).start<=_;by_cases e:j=s;(·rw[e,Xa];exact⟨⟨by show(0:Int)<=(v.synced:Int)∧(v.synced:Int)<=1048576;omega,by simp,by simp,by simp,by simp,by simp,by simp[EP]⟩,Int.le_refl _⟩);·rw[Zg _ _ e];exact h.tx j (by have:Kv v.begun s tA j=tA:=f;rwa[Zg _ _ e]at this));(·show Kv v.begun s tA j=tB;have b:v.waits j=tA:=f;by_cases e:j=s;(·rw[e,c.1]at b;cases b);·rw[Zg _ _ e];exact h.idle j b);·have:v.up=tB:=o;rw[hup]at this;cases this);·rw[if_neg d];(have m:v.begun s=tA:=by have:=c.2;rw[if_neg d]at this;simpa using this);by_cases i:r.kind=7;(·rw[if_pos i];exact(h.end s).tell _);·rw[if_neg i];by_cases k:JI (v.synced:Int) (v.txns s).start=tB;(·rw[if_pos k];exact(h.end s).tell _);·rw[if_neg k];by_cases l:r.kind=6;(·rw[if_pos l];exact h.commit m);·rw[if_neg l];have p:=hr.kind;exact h.work m hr (by omega)
theorem ZC.ask(h:ZC D v)(s:Nat)(d:List UInt8):ZC D (Gh D v s d):=by
 unfold Gh;by_cases a:v.up=tB;·rw[if_pos a];exact h.tell _
 ·rw[if_neg a];by_cases b:Xc d=0;(·rw[if_pos b];exact h.req (by simpa using a) s ((qD _).1 (Ey b).1));·rw[if_neg b];exact h.tell _
theorem ZC.sync(h:ZC D v):ZC D (Vo v):=by
 have c:=h.may;have a:=h.turn;refine⟨h.goes,h.many,?_,?_,?_,?_,by simp[Vo],?_,by simp[Vo],?_,?_,?_⟩;·show(J8 v.tape).data=_;rw[J8,if_pos c];exact h.data
 ·show(J8 v.tape).synced=((QV D (v.commits.take (v.synced+v.queue.length))).length:Int);rw[J8,if_pos c,a,sG,<-h.data]
 ·show(J8 v.tape).data.length<=_;rw[J8,if_pos c];exact h.room
 ·show v.synced+v.queue.length+([]:List Nat).length=v.commits.length;simpa using a
 ·intro j;show K9 v.waits v.queue j=tA↔j∈([]:List Nat);rw[K9];constructor;(·intro e;split at e;(·cases e);·rename_i hq;exact absurd ((h.wait j).1 e) hq);·intro e;simp at e
 ·intro j b;obtain⟨d,f⟩:=h.tx j b;exact⟨d,by show _<=((v.synced+v.queue.length:Nat):Int);have:(v.txns j).start<=(v.synced:Int):=f;show(v.txns j).start<=_;omega⟩
 ·intro j b;have:K9 v.waits v.queue j=tA:=b;rw[K9]at this;split at this;(·cases this);·exact h.idle j this
 ·intro g;exact⟨rfl,(h.down g).2⟩
theorem SS{up:Bool}{t:VQ}{cs:List Xy}{o:List Rp}(hg:uR [] 0 cs)(hm:cs.length<=300)(hd:t=⟨QV D cs,((QV D cs).length:Int)⟩)(hr:(QV D cs).length<=200000):ZC D (VS up t cs o):=by
 subst hd;refine⟨hg,hm,rfl,?_,hr,rfl,by simp[VS],fun s=>by simp[VS],by simp[VS],fun s a=>by simp[VS]at a,fun s a=>by simp[VS]at a,fun _=>⟨rfl,fun _=>rfl⟩⟩;show((QV D cs).length:Int)=((QV D (cs.take cs.length)).length:Int);rw[sG]
theorem Bf(D:List UInt8->List UInt8):ZC D L7:=SS trivial (by
 simp) rfl (by
 simp[QV])
theorem G3(hD:∀x,(D x).length=4)(h:ZC D v){k:Int}(hk:0<=k):∃j,v.synced<=j∧j<=v.commits.length∧Uy D v k=VS tB ⟨QV D (v.commits.take j),((QV D (v.commits.take j)).length:Int)⟩ (v.commits.take j) v.out∧(k=0->j=v.synced):=by
 have l:=h.may;obtain⟨y,z,A⟩:=(Ki _).1 l;have d:qJ 1 v.commits:=En h.goes;have t:=h.turn;have b:Ud v.tape k=0:=by rw[Ud,if_pos l,if_neg (by omega)]
 have c:Xo v.tape k<=v.tape.data.length∧v.tape.synced<=(Xo v.tape k:Int):=by rw[Xo];split<;>omega
 have a:Xk v.tape k=⟨(QV D v.commits).take (Xo v.tape k),(Xo v.tape k:Int)⟩:=by rw[Xk,if_pos b,h.data]
 have g:(QV D v.commits).length<=200000:=by rw[<-h.data];exact h.room
 obtain⟨j,m,u,n,_,o,p⟩:=IV hD d (Xo v.tape k) (Xo v.tape k:Int) (by rw[<-h.data];exact c.1) (by omega) g;have i:v.synced<=j:=by refine T5 (D:=D) (cs:=v.commits) (k:=Xo v.tape k) (by omega) n ?_;have:=h.mark;omega
 have e:(if(Xo v.tape k:Int)>((QV D (v.commits.take j)).length:Int)then((QV D (v.commits.take j)).length:Int)else(Xo v.tape k:Int))=((QV D (v.commits.take j)).length:Int):=by split<;>omega
 refine⟨j,i,m,?_,?_⟩;·rw[Uy,a,o,p,e]
 ·intro f;by_cases r:j=v.synced;(·exact r);·exfalso;(have w:(Xo v.tape k:Int)=v.tape.synced:=by rw[Xo,f];split<;>omega);have g1:=UG D v.commits (v.synced+1) j (by omega);have g2:=CW D v.commits v.synced (by omega);have q:=(h.goes.at v.synced (by omega)).1;have g3:=(Ck hD q).1;have s:=h.mark;rw[g2,tH]at g1;omega
theorem ZC.crash(hD:∀x,(D x).length=4)(h:ZC D v){k:Int}(hk:0<=k):ZC D (Uy D v k):=by
 obtain⟨j,d,b,c,_⟩:=G3 hD h hk;have e:=h.many;have a:=UG D v.commits j v.commits.length b;rw[sG,<-h.data]at a;have f:=h.room;rw[c];exact SS (h.goes.take j) (by rw[r8];omega) rfl (by omega)
theorem ZC.start(h:ZC D v):ZC D {v with up:=tA}:=⟨h.goes,h.many,h.data,h.mark,h.room,h.turn,h.few,h.wait,h.once,h.tx,h.idle,fun hu=>by
 cases hu⟩
theorem ZC.act(hD:∀x,(D x).length=4)(h:ZC D v){a:Ac}(ha:XT a):ZC D (XD D v a):=by
 unfold XD;by_cases c:a.kind=1;·rw[if_pos c];exact h.ask _ _
 ·rw[if_neg c];by_cases d:a.kind=2;(·rw[if_pos d];split;(·exact h.sync);·exact h);·rw[if_neg d];by_cases b:a.kind=3;(·rw[if_pos b];split;(·exact h.crash hD (ha.keep b).1);·exact h);·rw[if_neg b];exact h.start
theorem Eg(hD:∀x,(D x).length=4):∀(l:List Ac)(v:Sv),ZC D v->(∀a∈l,XT a)->ZC D (l.foldl (XD D) v)|[],_,h,_=>h|a::l,v,h,ha=>Eg hD l _ (h.act hD (ha a (by simp))) (fun x b=>ha x (by simp[b]))
theorem uA(hD:∀x,(D x).length=4)(l:List Ac)(h:∀a∈l,XT a):ZC D (QY D l):=Eg hD l L7 (Bf D) h
end
structure Same (v u : Sv) : Prop where
  up : u.up = v.up
  tape : u.tape = v.tape
  commits : u.commits = v.commits
  synced : u.synced = v.synced
  waits : u.waits = v.waits
  queue : u.queue = v.queue
structure cG (s : Nat) (v u : Sv) : Prop extends Same v u where
  out : ∃ r, u.out = v.out ++ [r] ∧ r.sess = (s : Int)
  begun : ∀ j, j ≠ s -> u.begun j = v.begun j
  txns : ∀ j, j ≠ s -> u.txns j = v.txns j
theorem KY(v:Sv)(s:Nat)(r:Rp)(h:r.sess=(s:Int)):cG s v (Xi v r):=⟨⟨rfl,rfl,rfl,rfl,rfl,rfl⟩,⟨r,rfl,h⟩,fun _ _=>rfl,fun _ _=>rfl⟩
theorem xZ(v:Sv)(s:Nat)(r:Rp)(h:r.sess=(s:Int)):cG s v (Xi (XE v s) r):=⟨⟨rfl,rfl,rfl,rfl,rfl,rfl⟩,⟨r,rfl,h⟩,fun _ hj=>Zg _ _ hj,fun _ _=>rfl⟩
theorem SG(v:Sv)(s:Nat)(t:Tx)(r:Rp)(h:r.sess=(s:Int)):cG s v (Xi {v with txns:=Kv v.txns s t} r):=⟨⟨rfl,rfl,rfl,rfl,rfl,rfl⟩,⟨r,rfl,h⟩,fun _ _=>rfl,fun _ a=>Zg _ _ a⟩
theorem MZ(v:Sv)(s:Nat)(x:Rd)(o:Rp)(h:o.sess=(s:Int)):cG s v (U3 v s x o):=by
 unfold U3;split;·exact SG v s _ _ h
 ·exact KY v s _ rfl
theorem Hk(v:Sv)(s:Nat)(w:Zc):cG s v (xS v s w):=by
 unfold xS;split;·exact SG v s _ _ rfl
 ·exact KY v s _ rfl
theorem Ii(v:Sv)(s:Nat)(r:Rq):cG s v (P5 v s r):=by
 unfold P5;split;·exact Hk v s _
 ·split;(·unfold MD;split;(·exact KY v s _ rfl);·exact MZ v s _ _ rfl);·unfold P0;split;(·exact MZ v s _ _ rfl);·exact KY v s _ rfl
structure II (D : List UInt8 -> List UInt8) (s : Nat) (v u : Sv) : Prop where
  up : u.up = v.up
  tape : u.tape = zA D v.tape (Jc v s)
  commits : u.commits = v.commits ++ [Jc v s]
  synced : u.synced = v.synced
  waits : u.waits = Kv v.waits s tA
  queue : u.queue = v.queue ++ [s]
  out : u.out = v.out
  begun : u.begun = Kv v.begun s tB
  txns : u.txns = v.txns
  full : (v.txns s).writes.length ≠ 0
  room : v.queue.length ≠ 6 ∧ v.commits.length ≠ 300
  clash : Us (v.txns s) v.commits = tB
  fits : QT (QD v v.commits.length) (v.txns s).writes = 0
  app : Vg D v.tape (Jc v s) = 0
theorem Wu(D:List UInt8->List UInt8)(v:Sv)(s:Nat):cG s v (JT D v s)∨II D s v (JT D v s):=by
 unfold JT;by_cases b:(v.txns s).writes.length=0;·rw[if_pos b];exact .inl (xZ v s _ rfl)
 ·rw[if_neg b];by_cases a:v.queue.length=6∨v.commits.length=300;(·rw[if_pos a];exact .inl (KY v s _ rfl));·rw[if_neg a];by_cases c:Us (v.txns s) v.commits=tA;(·rw[if_pos c];exact .inl (xZ v s _ rfl));·rw[if_neg c];by_cases d:QT (QD v v.commits.length) (v.txns s).writes≠0;(·rw[if_pos d];exact .inl (xZ v s _ rfl));·rw[if_neg d];by_cases f:Vg D v.tape (Jc v s)≠0;(·rw[if_pos f];exact .inl (xZ v s _ rfl));·rw[if_neg f];exact .inr ⟨rfl,rfl,rfl,rfl,rfl,rfl,rfl,rfl,rfl,b,⟨fun e=>a (.inl e),fun e=>a (.inr e)⟩,by simpa using c,sV d,sV f⟩
theorem dX(D:List UInt8->List UInt8)(v:Sv)(s:Nat)(r:Rq):cG s v (zT D v s r)∨(r.kind=6∧ZS v s r=tB∧II D s v (zT D v s r)):=by
 unfold zT;by_cases d:r.kind=8;·rw[if_pos d];exact .inl (KY v s _ rfl)
 ·rw[if_neg d];by_cases a:ZS v s r=tA;(·rw[if_pos a];exact .inl (KY v s _ rfl));·rw[if_neg a];by_cases e:r.kind=1;(·rw[if_pos e];exact .inl ⟨⟨rfl,rfl,rfl,rfl,rfl,rfl⟩,⟨_,rfl,rfl⟩,fun _ c=>Zg _ _ c,fun _ c=>Zg _ _ c⟩);·rw[if_neg e];by_cases f:r.kind=7;(·rw[if_pos f];exact .inl (xZ v s _ rfl));·rw[if_neg f];by_cases g:JI (v.synced:Int) (v.txns s).start=tB;(·rw[if_pos g];exact .inl (xZ v s _ rfl));·rw[if_neg g];by_cases b:r.kind=6;(·rw[if_pos b];rcases Wu D v s with h|h;(·exact .inl h);·exact .inr ⟨b,by simpa using a,h⟩);·rw[if_neg b];exact .inl (Ii v s r)
theorem CY(D:List UInt8->List UInt8)(v:Sv)(s:Nat)(d:List UInt8):cG s v (Gh D v s d)∨(v.up=tA∧Xc d=0∧(YI d).kind=6∧v.waits s=tB∧v.begun s=tA∧II D s v (Gh D v s d)):=by
 unfold Gh;by_cases b:v.up=tB;·rw[if_pos b];exact .inl (KY v s _ rfl)
 ·rw[if_neg b];by_cases c:Xc d=0;(·rw[if_pos c];rcases dX D v s (YI d)with h|⟨e,a,f⟩;(·exact .inl h);·right;unfold ZS at a;rw[if_neg (by omega)]at a;simp only[rT,Bool.not_eq_false']at a;exact⟨by simpa using b,c,e,a.1,a.2,f⟩);·rw[if_neg c];exact .inl (KY v s _ rfl)
theorem bQ(D:List UInt8->List UInt8)(v:Sv)(a:Ac):∃rs,(XD D v a).out=v.out++rs:=by
 unfold XD;split;·rcases CY D v a.sess.toNat a.data with h|h;(·obtain⟨r,b,_⟩:=h.out;exact⟨[r],b⟩);·exact⟨[],by rw[sD];exact h.2.2.2.2.2.out⟩
 ·split;(·split;(·exact⟨Jb v.synced v.queue,rfl⟩);·exact⟨[],by rw[sD]⟩);·split;(·split;(·exact⟨[],by rw[sD];rfl⟩);·exact⟨[],by rw[sD]⟩);·exact⟨[],by rw[sD]⟩
theorem Vn:∀(q:List Nat)(n:Nat),(Jb n q).length=q.length|[],_=>rfl|_::q,n=>by rw[Jb,sR,sR,Vn q]
theorem MX:∀(q:List Nat)(n i:Nat),i<q.length->(Jb n q)[i]?=O (WM (q.getD i 0) ((n+i+1:Nat):Int))|[],_,i,h=>by simp at h|s::q,n,0,_=>rfl|s::q,n,i+1,h=>by rw[Jb,List.getElem?_cons_succ,MX q (n+1) i (by simpa using h),show n+1+i+1=n+(i+1)+1by omega];rfl
structure Gr where
  kind : Int
  sess : Int
  name : Int
  key : Int
  value : Int
def jZ:Gr:=⟨0,0,0,0,0⟩
def YQ(n:Int)(many:Nat):Nat:=if n<0then((-(n+1))%(many:Int)).toNat else(n%(many:Int)).toNat
theorem Vy(n:Int){many:Nat}(h:0<many):YQ n many<many:=by
 unfold YQ;split;·have a:=oF (-(n+1)) (show(many:Int)≠0 by omega);have b:=pR (-(n+1)) (show(0:Int)<many by omega);omega
 ·have a:=oF n (show(many:Int)≠0 by omega);have b:=pR n (show(0:Int)<many by omega);omega
def gE(n:Int):List UInt8:=[sW (97+YQ n 3)]
def gC(n:Int):List UInt8:=[sW (107+YQ n 5)]
def gT(n:Int):List UInt8:=[sW (YQ n 50)]
def Ff(k:Nat)(a b c d:List UInt8):Rq:=if k<4then⟨1,[],[],[],[]⟩else if k<7then⟨2,a,b,[],[]⟩else if k=7then⟨3,a,b,c,[]⟩else if k<12then⟨4,a,b,[],d⟩else if k=12then⟨5,a,b,[],[]⟩else if k<17then⟨6,[],[],[],[]⟩else if k=17then⟨7,[],[],[],[]⟩else⟨8,a,b,[],[]⟩
def T8(g:Gr):Rq:=Ff (YQ g.kind 20) (gE g.name) (gC g.key) (gC g.value) (gT g.value)
theorem bY(k:Nat){a b c d:List UInt8}(ha:a.length=1)(hb:b.length=1)(hc:c.length=1)(hd:d.length=1):VA (Ff k a b c d):=by
 unfold Ff;repeat' split
 all_goals(refine⟨⟨?_,?_⟩,?_,?_,?_,?_,?_,?_,?_,?_⟩<;>simp[QS, *])
theorem SX(g:Gr):VA (T8 g):=bY _ rfl rfl rfl rfl
def Ry(g:Gr):Ac:=if YQ g.kind 26=20∨YQ g.kind 26=21∨YQ g.kind 26=22then⟨2,0,0,[]⟩else if YQ g.kind 26=23then⟨3,0,(YQ g.value 80:Int),[]⟩else if YQ g.kind 26=24then⟨4,0,0,[]⟩else if YQ g.kind 26=25then⟨1,(YQ g.sess 8:Int),0,[sW (pD.wrap g.value).toNat,sW (pD.wrap g.key).toNat]⟩else⟨1,(YQ g.sess 8:Int),0,JN (T8 g)⟩
def Ya(l:List Gr)(n:Nat):List Ac:=(l.take n).map Ry
theorem cX{r:Rq}(h:VA r):JN r=Vb r:=by
 rw[JN,if_pos ((qD r).2 h)]
theorem O4{r:Rq}(h:VA r):(JN r).length<=78:=by
 rw[cX h];exact(MB h).1
theorem Ig{s:Int}{d:List UInt8}(h0:0<=s)(h1:s<=7)(hd:d.length<=4000):XT ⟨1,s,0,d⟩:=by
 refine⟨⟨by simp,by simp⟩,fun _=>⟨h0,h1⟩,fun h=>by simp at h,hd,fun h=>by simp at h,fun _=>rfl,fun h=>by simp at h⟩
theorem b8:XT ⟨2,0,0,[]⟩:=⟨⟨by
 simp,by
 simp⟩,fun h=>by
 simp at h,fun h=>by
 simp at h,by
 simp,fun _=>rfl,fun _=>rfl,fun _=>rfl⟩
theorem OA:XT ⟨4,0,0,[]⟩:=⟨⟨by
 simp,by
 simp⟩,fun h=>by
 simp at h,fun h=>by
 simp at h,by
 simp,fun _=>rfl,fun _=>rfl,fun _=>rfl⟩
theorem Ib{k:Int}(h0:0<=k)(h1:k<=200000):XT ⟨3,0,k,[]⟩:=⟨⟨by
 simp,by
 simp⟩,fun h=>by
 simp at h,fun _=>⟨h0,h1⟩,by
 simp,fun _=>rfl,fun h=>by
 simp at h,fun _=>rfl⟩
theorem cV(g:Gr):XT (Ry g):=by
 have b:=Vy g.sess (many:=8) (by decide);have a:=Vy g.value (many:=80) (by decide);have c:=O4 (SX g);unfold Ry;split;·exact b8
 ·split;(·exact Ib (by omega) (by omega));·split;(·exact OA);·split;(·exact Ig (by omega) (by omega) (by simp));·exact Ig (by omega) (by omega) (by omega)
theorem BP(l:List Gr)(n:Nat):∀a∈Ya l n,XT a:=fun a b=>by
 obtain⟨g,_,rfl⟩:=List.mem_map.1 b;exact cV g
structure V2 (l : FL) : Prop where
  many : l.length * 48 <= 140737488355328
  each : ∀ i, i < l.length -> (l.getD i ([], [])).1.length <= 140737488355328 ∧ kM (l.getD i ([], [])).2
theorem V2.len{l:FL}(h:V2 l):l.length<=140737488355328:=by
 have:=h.many;omega
theorem Xh.fits{l:FL}(h:Xh l):V2 l:=by
 refine⟨by have:=h.room;omega,fun i a=>?_⟩;have:=h.tens l[i] (sQ a);rw[show l[i]=l.getD i ([],[])by simp[a]]at this;exact⟨by omega,this.2.2.fits⟩
def M6(w:L)(b o:Nat)(t:Tn):Prop:=∃vn vp,w.cell? ⟨b,o,M⟩=O vn∧w.cell? ⟨b,o+1,M⟩=O vp∧Qe w vn t.1∧Qq w vp t.2
theorem M6.grown{w w':L}{b o:Nat}{t:Tn}(h:M6 w b o t)(hg:Y w w' M):M6 w' b o t:=by
 obtain⟨f,g,a,c,d,e⟩:=h;exact⟨f,g,hg.cell a (by simp),hg.cell c (by simp),d.grown hg,e.grown hg⟩
def ZI(w:L)(v:N)(l:FL):Prop:=∃a cap,v=S a l.length cap∧l.length<=cap∧((l=[]∧(a=M->cap=0))∨∃b o,a=O ⟨b,o,M⟩∧∀i,i<l.length->M6 w b (o+i*2) (l.getD i ([],[])))
theorem G8(w:L):ZI w (S M 0 0) []:=⟨M,0,rfl,sE _,.inl ⟨rfl,fun _=>rfl⟩⟩
theorem ZI.grown{w w':L}{v:N}{l:FL}(h:ZI w v l)(hg:Y w w' M):ZI w' v l:=by
 obtain⟨a,cap,rfl,c,h⟩:=h;refine⟨a,cap,rfl,c,?_⟩;rcases h with h|⟨b,o,rfl,h⟩;·exact .inl h
 ·exact .inr ⟨b,o,rfl,fun i d=>(h i d).grown hg⟩
theorem ZI.shape{w:L}{v:N}{l:FL}(h:ZI w v l):∃a cap,v=S a l.length cap:=by
 obtain⟨a,cap,rfl,_⟩:=h;exact⟨a,cap,rfl⟩
theorem ZI.at{w:L}{a:Option rH}{n cap:Nat}{l:FL}(h:ZI w (S a n cap) l)(i:Nat)(hi:i<l.length):∃b o,a=O ⟨b,o,M⟩∧M6 w b (o+i*2) (l.getD i ([],[])):=by
 obtain⟨d,c,e,f,h⟩:=h;simp only[tM]at e;obtain⟨rfl,rfl,rfl⟩:=e;rcases h with⟨rfl,_⟩|⟨b,o,rfl,h⟩;·simp at hi
 ·exact⟨b,o,rfl,h i hi⟩
theorem dF:(191:Nat)≠5:=by
 decide
theorem dB:(191:Nat)≠50:=by
 decide
def Zu(base:Nat)(w:L)(v:N)(l:FL):Prop:=∃vs:List (N×N),vs.length=l.length∧w.ownsRow base 191 2 v l.length (flat vs)∧∀i,i<l.length->Qh 0 w (vs.getD i (sL,sL)).1 (l.getD i ([],[])).1∧QJ 0 w (vs.getD i (sL,sL)).2 (l.getD i ([],[])).2
theorem xP(base:Nat)(w:L):Zu base w (S M 0 0) []:=⟨[],rfl,sN _ _ _ _,fun i hi=>by
 simp at hi⟩
theorem Zu.row{base:Nat}{w:L}{v:N}{l:FL}(h:Zu base w v l):v.ownBlock=M∨∃g cur t fz,v.ownBlock=O g∧base<=g∧w.heap[g]?=O (tD cur t fz)∧t≠5∧t≠50:=by
 obtain⟨c,_,h,_⟩:=h;rcases h.2with⟨rfl,_⟩|⟨g,cap,cur,rfl,a,b,_⟩;·exact .inl rfl
 ·exact .inr ⟨g,cur,_,_,rfl,a,b,dF,dB⟩
theorem Zu.row0{base:Nat}{w:L}{v:N}{l:FL}(h:Zu base w v l):v.ownBlock=M∨∃g cur t fz,v.ownBlock=O g∧0<=g∧w.heap[g]?=O (tD cur t fz)∧t≠5∧t≠50:=by
 rcases h.row with h|⟨g,cur,t,fz,a,_,b⟩;·exact .inl h
 ·exact .inr ⟨g,cur,t,fz,a,tU _,b⟩
theorem eV{base:Nat}{w:L}{r:Option Nat}(h:r=M∨∃g cur t fz,r=O g∧base<=g∧w.heap[g]?=O (tD cur t fz)∧t≠5∧t≠50):r=M∨∃g cur t fz,r=O g∧base<=g∧w.heap[g]?=O (tD cur t fz)∧t≠5:=by
 rcases h with h|⟨g,cur,t,fz,a,b,c,d,_⟩;·exact .inl h
 ·exact .inr ⟨g,cur,t,fz,a,b,c,d⟩
theorem Zu.lt{base:Nat}{w:L}{v:N}{l:FL}(h:Zu base w v l):∀k,v.ownBlock=O k->base<=k∧k<w.heap.size:=by
 obtain⟨a,_,h,_⟩:=h;exact sI h
theorem Zu.grownNone{base:Nat}{w w':L}{v:N}{l:FL}(h:Zu base w v l)(hg:Y w w' M):Zu base w' v l:=by
 obtain⟨e,c,d,a⟩:=h;refine⟨e,c,tW d hg ?_,fun i b=>⟨((a i b).1).keptT hg (.inl rfl),((a i b).2).kept hg (.inl rfl)⟩⟩;cases hv:v.ownBlock with|none=>exact .inl rfl|some k=>exact .inr (by simp)
theorem Zu.alloc{base:Nat}{w:L}{v:N}{l:FL}(h:Zu base w v l)(o:Obj):Zu base (w.alloc o) v l:=h.grownNone (sO _ _ _)
theorem Zu.shape{base:Nat}{w:L}{v:N}{l:FL}(h:Zu base w v l):∃a cap,v=S a l.length cap:=by
 obtain⟨d,_,h,_⟩:=h;rcases h.2with⟨rfl,c⟩|⟨g,cap,b,rfl,_⟩;·exact⟨M,0,by rw[c]⟩
 ·exact⟨_,cap,rfl⟩
theorem Zu.cells{base:Nat}{w:L}{g n cap:Nat}{vs:List (N×N)}{l:FL}(hr:w.ownsRow base 191 2 (S (O ⟨g,0,M⟩) n cap) l.length (flat vs)):∀j u,(flat vs)[j]?=O u->w.cell? ⟨g,j,M⟩=O u:=by
 intro j u f;rcases hr.2with⟨e,_⟩|⟨k,c,a,e,m,h,p,o,q,i⟩;·cases e
 ·simp only[tM,tF,rO]at e;obtain⟨⟨rfl,_⟩,_,_⟩:=e;(have b:j<l.length*2:=by have:=(sK.1 f).1;rw[hr.1]at this;exact this);(have d:(a.toList.take (l.length*2))[j]?=(flat vs)[j]?:=by rw[i]);rw[sF,if_pos b,f]at d;simp[tX,h];simpa using d
theorem Zu.list{base:Nat}{w:L}{v:N}{l:FL}(h:Zu base w v l):ZI w v l:=by
 obtain⟨b,p,f,c⟩:=h;have a:=f;rcases f.2with⟨rfl,k⟩|⟨g,cap,j,rfl,n,o,m,q,r,s⟩;·have:l=[]:=tP k;subst this;exact G8 w
 ·refine⟨_,cap,rfl,m,.inr ⟨g,0,rfl,fun i e=>?_⟩⟩;have d:=zZ b i (by omega);refine⟨(b.getD i (sL,sL)).1,(b.getD i (sL,sL)).2,?_,?_,(c i e).1.1,(c i e).2.list⟩;(·have:=Zu.cells a _ _ d.1;rw[sP];exact this);·have:=Zu.cells a _ _ d.2;rw[sP];exact this
theorem Tj{base:Nat}{w W w1:L}{v:N}{l:FL}(h:Y w W M)(ho:Zu base W v l)(hb:w.heap.size<=base)(hg:Y W w1 v.ownBlock):Y w w1 M:=⟨hg.os.trans h.os,hg.tape.trans h.tape,hg.output.trans h.output,tS h.size hg.size,fun i a b=>(hg.block i (tL a h.size) (fun e=>by
 have:=(ho.lt i e.symm).1;omega)).trans (h.block i a b)⟩
theorem Fy:(tC.info? 191).map (fun i=>(i.zero,i.size,i.bytes))=O (O (sU #[S M 0 0,S M 0 0]),2,48):=by
 kernel_rfl
theorem jG{w:L}{o:rK}{a:Act}{K:Act->L->Prop}{Q:Exit->Act->L->Prop}(s x:rI)(ho:o.op=.call {callee:=.builtin .append,args:=#[s,x],argTypes:=#[25,25]})(base:Nat)(v:N)(l:FL)(hs:a.eval s=v)(hown:Zu base w v l)(vn vp:N)(t:Tn)(hk:Qh 0 w vn t.1)(hv:QJ 0 w vp t.2)(nb:Nat)(hb:w.heap[nb]?=O (tD #[vn,vp] 191))(hx:a.eval x=S (O ⟨nb,0,M⟩) 1 1)(hl:(l.length+1)*48<=140737488355328)(hbase:base<=w.heap.size)(h:∀v' w',Zu base w' v' (l++[t])->Y w w' v.ownBlock->K (a.put o.dst v') w'):o.wp tC a w K Q:=by
 obtain⟨z,f,j,k,m⟩:=rY Fy;have b:=hown.row0;obtain⟨q,e,y,n⟩:=hown;refine wp_append_lies w s x 25 ho base 191 z (sU #[S M 0 0,S M 0 0]) 2 48 Tryz.underlying25 f j k m rfl (by decide) v l.length (flat q) hs y ⟨nb,0,M⟩ 1 1 (flat [(vn,vp)]) hx rfl (rA (cs:=#[vn,vp]) hb) ?_ (by omega) (by unfold pJ;omega) hl hbase _ rfl ?_;·intro u p;simp only[flat,tT,rG,sD,tN,tQ,or_false]at p;rcases p with rfl|rfl;(·exact Zz hk);·exact xL hv
 ·intro g cap w' r d _ _;refine h _ w' ⟨q++[(vn,vp)],by simp[e],?_,?_⟩ d;(·rw[JE,tH];exact r);·intro i f;rw[Y6,Y6,e];by_cases c:i<l.length;(·rw[if_pos c,if_pos c];exact⟨(n i c).1.keptT d (eV b),(n i c).2.kept d b⟩);·rw[if_neg c,if_neg c];(obtain rfl:i=l.length:=by simp at f;omega);rw[oI];exact⟨hk.keptT d (eV b),hv.kept d b⟩
theorem Fq{w:L}{ops:Array rK}{o:rK}{a:Act}{K:Act->L->Prop}{Q:Exit->Act->L->Prop}{E:Prop}(hgd:o.guard=M)(s x:rI)(ho:o.op=.call {callee:=.builtin .append,args:=#[s,x],argTypes:=#[25,25]})(base:Nat)(v:N)(l:FL)(hs:a.eval s=v)(hown:Zu base w v l)(vn vp:N)(t:Tn)(hk:Qh 0 w vn t.1)(hv:QJ 0 w vp t.2)(nb:Nat)(hb:w.heap[nb]?=O (tD #[vn,vp] 191))(hx:a.eval x=S (O ⟨nb,0,M⟩) 1 1)(hl:(l.length+1)*48<=140737488355328)(hbase:base<=w.heap.size)(h:∀v' w',Zu base w' v' (l++[t])->Y w w' v.ownBlock->K (a.put o.dst v') w'):if sH o (pE ops a.tmps)=tA then Oper.wp tC o a w K Q else E:=by
 have b:sH o (pE ops a.tmps)=tA:=by simp[sH,hgd]
 rw[if_pos b];exact jG s x ho base v l hs hown vn vp t hk hv nb hb hx hl hbase h
theorem kY{w:L}{ops:Array rK}{rest:List rK}{o:rK}{a:Act}{Q:Exit->Act->L->Prop}(hgd:o.guard=M)(s x:rI)(ho:o.op=.call {callee:=.builtin .append,args:=#[s,x],argTypes:=#[25,25]})(base:Nat)(v:N)(l:FL)(hs:a.eval s=v)(hown:Zu base w v l)(vn vp:N)(t:Tn)(hk:Qh 0 w vn t.1)(hv:QJ 0 w vp t.2)(nb:Nat)(hb:w.heap[nb]?=O (tD #[vn,vp] 191))(hx:a.eval x=S (O ⟨nb,0,M⟩) 1 1)(hl:(l.length+1)*48<=140737488355328)(hbase:base<=w.heap.size)(h:∀v' w',Zu base w' v' (l++[t])->Y w w' v.ownBlock->wpList tC ops Q rest (a.put o.dst v') w'):wpList tC ops Q (o::rest) a w:=wpList_plain hgd fun _ d=>jG s x ho base v l hs hown vn vp t hk hv nb hb hx hl hbase fun v' w' b c=>d _ _ (h v' w' b c)
theorem Qj{w:L}{b i:Nat}{cs:Array N}{t:sA}{fz:Nat×Nat}{u:N}(h:w.heap[b]?=O (tD cs t fz)):(tI w ⟨b,i,M⟩ u).heap[b]?=O (tD (cs.setIfInBounds i u) t fz):=by
 simp only[tI,tY,if_true,h,rS];rfl
theorem Qw{w:L}{b c i:Nat}{o:Obj}{u:N}(h:w.heap[b]?=O o)(hne:b≠c):(tI w ⟨c,i,M⟩ u).heap[b]?=O o:=by
 simp only[tI,tY];rw[if_neg (fun e=>hne e.symm)];exact h
theorem Yz(w:L)(b i:Nat)(u:N):Y w (tI w ⟨b,i,M⟩ u) (O b):=Qg (Qb w _) i u
theorem Qh.setOther{base:Nat}{w:L}{v:N}{bs:List UInt8}(h:Qh base w v bs){b i:Nat}{cs:Array N}{t:sA}{fz:Nat×Nat}(hb:w.heap[b]?=O (tD cs t fz))(ht:t≠5)(hbb:base<=b)(u:N):Qh base (tI w ⟨b,i,M⟩ u) v bs:=h.keptT (Yz w b i u) (.inr ⟨b,cs,t,fz,rfl,hbb,hb,ht⟩)
def QU(rb pb:Nat)(w:L)(v:N)(l:List Zc):Prop:=∃us:List WV,us.map (·.1)=l∧w.ownsRow rb 122 4 v l.length (YS us)∧∀x∈us,Qh pb w x.2.1 x.1.name∧Qh pb w x.2.2.1 x.1.key∧Qh pb w x.2.2.2 x.1.value
theorem Xp(rb pb:Nat)(w:L):QU rb pb w (S M 0 0) []:=⟨[],rfl,sN _ _ _ _,fun x hx=>by
 simp at hx⟩
theorem QU.row{rb pb:Nat}{w:L}{v:N}{l:List Zc}(h:QU rb pb w v l):v.ownBlock=M∨∃g cur fz,v.ownBlock=O g∧rb<=g∧w.heap[g]?=O (tD cur 122 fz):=by
 obtain⟨c,_,h,_⟩:=h;rcases h.2with⟨rfl,_⟩|⟨g,cap,cur,rfl,a,b,_⟩;·exact .inl rfl
 ·exact .inr ⟨g,cur,_,rfl,a,b⟩
theorem QU.lt{rb pb:Nat}{w:L}{v:N}{l:List Zc}(h:QU rb pb w v l):∀k,v.ownBlock=O k->rb<=k∧k<w.heap.size:=by
 obtain⟨a,_,h,_⟩:=h;exact sI h
theorem QU.ne{rb pb:Nat}{w:L}{v:N}{l:List Zc}(h:QU rb pb w v l){b:Nat}{cs:Array N}{t:sA}{fz:Nat×Nat}(hb:w.heap[b]?=O (tD cs t fz))(ht:t≠122):v.ownBlock≠O b:=by
 intro e;rcases h.row with f|⟨g,c,d,i,_,a⟩;·rw[f]at e;cases e
 ·rw[i]at e;cases e;rw[hb]at a;simp only[tF,tZ]at a;exact ht a.2.1
theorem QU.kept{rb pb:Nat}{w w':L}{v:N}{l:List Zc}(h:QU rb pb w v l){row:Option Nat}(hg:Y w w' row)(hne:v.ownBlock=M∨v.ownBlock≠row)(hrow:row=M∨∃g cur t fz,row=O g∧pb<=g∧w.heap[g]?=O (tD cur t fz)∧t≠5):QU rb pb w' v l:=by
 obtain⟨e,c,d,a⟩:=h;exact⟨e,c,tW d hg hne,fun x b=>⟨(a x b).1.keptT hg hrow,(a x b).2.1.keptT hg hrow,(a x b).2.2.keptT hg hrow⟩⟩
theorem QU.grownNone{rb pb:Nat}{w w':L}{v:N}{l:List Zc}(h:QU rb pb w v l)(hg:Y w w' M):QU rb pb w' v l:=h.kept hg (by
 cases hv:v.ownBlock with|none=>exact .inl rfl|some k=>exact .inr (by simp)) (.inl rfl)
theorem QU.setOther{rb pb:Nat}{w:L}{v:N}{l:List Zc}(h:QU rb pb w v l){b i:Nat}{cs:Array N}{t:sA}{fz:Nat×Nat}(hb:w.heap[b]?=O (tD cs t fz))(ht:t≠5)(ht2:t≠122)(hbb:pb<=b)(u:N):QU rb pb (tI w ⟨b,i,M⟩ u) v l:=h.kept (Yz w b i u) (.inr (h.ne hb ht2)) (.inr ⟨b,cs,t,fz,rfl,hbb,hb,ht⟩)
theorem QU.shape{rb pb:Nat}{w:L}{v:N}{l:List Zc}(h:QU rb pb w v l):∃a cap,v=S a l.length cap:=by
 obtain⟨d,_,h,_⟩:=h;rcases h.2with⟨rfl,c⟩|⟨g,cap,b,rfl,_⟩;·exact⟨M,0,by rw[c]⟩
 ·exact⟨_,cap,rfl⟩
theorem QU.any{rb pb:Nat}{w:L}{v:N}{l:List Zc}(h:QU rb pb w v l):∃a n cap,v=S a n cap:=by
 obtain⟨a,cap,e⟩:=h.shape;exact⟨a,_,cap,e⟩
theorem QU.down{rb pb:Nat}{w:L}{v:N}{l:List Zc}(h:QU rb pb w v l)(rb':Nat)(hb:rb'<=rb):QU rb' pb w v l:=by
 obtain⟨i,d,c,f⟩:=h;refine⟨i,d,⟨c.1,?_⟩,f⟩;rcases c.2with h|⟨g,cap,a,e,b,rest⟩;·exact .inl h
 ·exact .inr ⟨g,cap,a,e,tS hb b,rest⟩
theorem QU.writesB{rb pb:Nat}{w:L}{v:N}{l:List Zc}(h:QU rb pb w v l):Xg pb w v l:=by
 obtain⟨d,o,q,z⟩:=h;rcases q.2with⟨rfl,y⟩|⟨g,cap,e,rfl,D,m,B,E,F,C⟩;·have:l=[]:=tP y;rw[this];exact Dj pb w
 ·(have a:∀j u,(YS d)[j]?=O u->w.cell? ⟨g,j,M⟩=O u:=by intro j u n;(have f:j<l.length*4:=by have:=(sK.1 n).1;rw[q.1]at this;exact this);(have b:(e.toList.take (l.length*4))[j]?=(YS d)[j]?:=by rw[C]);rw[sF,if_pos f,n]at b;simp[tX,m];simpa using b);refine⟨_,cap,rfl,B,.inr ⟨g,0,rfl,.inr ⟨_,_,m⟩,fun i A=>?_⟩⟩;obtain⟨x,b⟩:=LN o i A;(have p:d.length=l.length:=by rw[<-o];simp);obtain⟨r,s,k,t⟩:=Na d i (by omega);have c:=z _ b;rw[x]at k c;rw[sP];exact⟨_,_,_,a _ _ r,a _ _ s,a _ _ k,a _ _ t,c.1,c.2.1,c.2.2⟩
theorem QU.list{rb pb:Nat}{w:L}{v:N}{l:List Zc}(h:QU rb pb w v l):QN w v l:=h.writesB.list
theorem VN{rb pb:Nat}{w W w1:L}{v:N}{l:List Zc}(h:Y w W M)(ho:QU rb pb W v l)(hb:w.heap.size<=rb)(hg:Y W w1 v.ownBlock):Y w w1 M:=⟨hg.os.trans h.os,hg.tape.trans h.tape,hg.output.trans h.output,tS h.size hg.size,fun i a b=>(hg.block i (tL a h.size) (fun e=>by
 have:=(ho.lt i e.symm).1;omega)).trans (h.block i a b)⟩
def TQ(w:L)(b o:Nat)(r:Rd):Prop:=∃vn vk vl,w.cell? ⟨b,o,M⟩=O vn∧w.cell? ⟨b,o+1,M⟩=O vk∧w.cell? ⟨b,o+2,M⟩=O (tR r.wide)∧w.cell? ⟨b,o+3,M⟩=O vl∧Qe w vn r.name∧Qe w vk r.key∧Qe w vl r.last
theorem TQ.grown{w w':L}{b o:Nat}{r:Rd}(h:TQ w b o r)(hg:Y w w' M):TQ w' b o r:=by
 obtain⟨l,j,k,a,c,d,e,f,g,i⟩:=h;exact⟨l,j,k,hg.cell a (by simp),hg.cell c (by simp),hg.cell d (by simp),hg.cell e (by simp),f.grown hg,g.grown hg,i.grown hg⟩
def ZY(w:L)(v:N)(l:List Rd):Prop:=∃a cap,v=S a l.length cap∧l.length<=cap∧((l=[]∧(a=M->cap=0))∨∃b o,a=O ⟨b,o,M⟩∧∀i,i<l.length->TQ w b (o+i*4) (l.getD i Zb))
theorem Cc(w:L):ZY w (S M 0 0) []:=⟨M,0,rfl,sE _,.inl ⟨rfl,fun _=>rfl⟩⟩
theorem ZY.shape{w:L}{v:N}{l:List Rd}(h:ZY w v l):∃a cap,v=S a l.length cap:=by
 obtain⟨a,cap,rfl,_⟩:=h;exact⟨a,cap,rfl⟩
theorem ZY.grown{w w':L}{v:N}{l:List Rd}(h:ZY w v l)(hg:Y w w' M):ZY w' v l:=by
 obtain⟨a,cap,rfl,c,h⟩:=h;refine⟨a,cap,rfl,c,?_⟩;rcases h with h|⟨b,o,rfl,h⟩;·exact .inl h
 ·exact .inr ⟨b,o,rfl,fun i d=>(h i d).grown hg⟩
theorem ZY.at{w:L}{a:Option rH}{n cap:Nat}{l:List Rd}(h:ZY w (S a n cap) l)(i:Nat)(hi:i<l.length):∃b o,a=O ⟨b,o,M⟩∧TQ w b (o+i*4) (l.getD i Zb):=by
 obtain⟨d,c,e,f,h⟩:=h;simp only[tM]at e;obtain⟨rfl,rfl,rfl⟩:=e;rcases h with⟨rfl,_⟩|⟨b,o,rfl,h⟩;·simp at hi
 ·exact⟨b,o,rfl,h i hi⟩
structure f7 (l : List Rd) : Prop where
  many : l.length * 80 <= 140737488355328
  each : ∀ i, i < l.length -> Pq (l.getD i Zb)
structure zS (t : Tx) : Prop where
  start : -9223372036854775808 <= t.start ∧ t.start <= 9223372036854775807
  reads : f7 t.reads
  writes : kP t.writes
def GD(w:L)(v:N)(t:Tx):Prop:=∃vr vw,v=sU #[tE tG t.start,vr,vw]∧ZY w vr t.reads∧QN w vw t.writes
theorem GD.grown{w w':L}{v:N}{t:Tx}(h:GD w v t)(hg:Y w w' M):GD w' v t:=by
 obtain⟨c,d,rfl,a,b⟩:=h;exact⟨c,d,rfl,a.grown hg,b.grown hg⟩
theorem GD.agg{w:L}{v:N}{t:Tx}(h:GD w v t):∃ra rc wa wc,v=sU #[tE tG t.start,S ra t.reads.length rc,S wa t.writes.length wc]:=by
 obtain⟨c,d,rfl,a,b⟩:=h;obtain⟨ra,rc,rfl⟩:=a.shape;obtain⟨wa,wc,rfl⟩:=b.shape;exact⟨ra,rc,wa,wc,rfl⟩
theorem GD.parts{w:L}{t:Tx}{x y z:N}(h:GD w (sU #[x,y,z]) t):x=tE tG t.start∧ZY w y t.reads∧QN w z t.writes:=by
 obtain⟨c,d,e,a,b⟩:=h;simp only[Value.agg.injEq,Array.mk.injEq,List.cons.injEq,and_true]at e;obtain⟨rfl,rfl,rfl⟩:=e;exact⟨rfl,a,b⟩
theorem Pd{r:Rd}(h:Xx r=0):Pq r:=by
 obtain⟨b,c,a⟩:=(RZ r).1 h;refine⟨by omega,by omega,?_⟩;split at a;·omega
 ·rw[a];simp
abbrev RV:=Rd×N×N×N
def CU:RV:=(Zb,sL,sL,sL)
def Ga(us:List RV):List N:=us.flatMap fun x=>[x.2.1,x.2.2.1,tR x.1.wide,x.2.2.2]
theorem Nn(a b:List RV):Ga (a++b)=Ga a++Ga b:=by
 simp[Ga]
theorem EB:∀(us:List RV)(i:Nat),i<us.length->(Ga us)[i*4]?=O (us.getD i CU).2.1∧(Ga us)[i*4+1]?=O (us.getD i CU).2.2.1∧(Ga us)[i*4+2]?=O (tR (us.getD i CU).1.wide)∧(Ga us)[i*4+3]?=O (us.getD i CU).2.2.2|[],i,h=>by simp at h|x::us,0,_=>⟨rfl,rfl,rfl,rfl⟩|x::us,i+1,h=>by have:=EB us i (by simpa using h);rw[show(i+1)*4=i*4+4by omega];exact this
theorem e9:(140:Nat)≠5:=by
 decide
theorem fS:(140:Nat)≠122:=by
 decide
def ZD(rb pb:Nat)(w:L)(v:N)(l:List Rd):Prop:=∃us:List RV,us.map (·.1)=l∧w.ownsRow rb 140 4 v l.length (Ga us)∧∀x∈us,Qh pb w x.2.1 x.1.name∧Qh pb w x.2.2.1 x.1.key∧Qh pb w x.2.2.2 x.1.last
theorem Uc(rb pb:Nat)(w:L):ZD rb pb w (S M 0 0) []:=⟨[],rfl,sN _ _ _ _,fun x hx=>by
 simp at hx⟩
theorem ZD.row{rb pb:Nat}{w:L}{v:N}{l:List Rd}(h:ZD rb pb w v l):v.ownBlock=M∨∃g cur fz,v.ownBlock=O g∧rb<=g∧w.heap[g]?=O (tD cur 140 fz):=by
 obtain⟨c,_,h,_⟩:=h;rcases h.2with⟨rfl,_⟩|⟨g,cap,cur,rfl,a,b,_⟩;·exact .inl rfl
 ·exact .inr ⟨g,cur,_,rfl,a,b⟩
theorem ZD.lt{rb pb:Nat}{w:L}{v:N}{l:List Rd}(h:ZD rb pb w v l):∀k,v.ownBlock=O k->rb<=k∧k<w.heap.size:=by
 obtain⟨a,_,h,_⟩:=h;exact sI h
theorem ZD.ne{rb pb:Nat}{w:L}{v:N}{l:List Rd}(h:ZD rb pb w v l){b:Nat}{cs:Array N}{t:sA}{fz:Nat×Nat}(hb:w.heap[b]?=O (tD cs t fz))(ht:t≠140):v.ownBlock≠O b:=by
 intro e;rcases h.row with f|⟨g,c,d,i,_,a⟩;·rw[f]at e;cases e
 ·rw[i]at e;cases e;rw[hb]at a;simp only[tF,tZ]at a;exact ht a.2.1
theorem ZD.kept{rb pb:Nat}{w w':L}{v:N}{l:List Rd}(h:ZD rb pb w v l){row:Option Nat}(hg:Y w w' row)(hne:v.ownBlock=M∨v.ownBlock≠row)(hrow:row=M∨∃g cur t fz,row=O g∧pb<=g∧w.heap[g]?=O (tD cur t fz)∧t≠5):ZD rb pb w' v l:=by
 obtain⟨e,c,d,a⟩:=h;exact⟨e,c,tW d hg hne,fun x b=>⟨(a x b).1.keptT hg hrow,(a x b).2.1.keptT hg hrow,(a x b).2.2.keptT hg hrow⟩⟩
theorem ZD.grownNone{rb pb:Nat}{w w':L}{v:N}{l:List Rd}(h:ZD rb pb w v l)(hg:Y w w' M):ZD rb pb w' v l:=h.kept hg (by
 cases hv:v.ownBlock with|none=>exact .inl rfl|some k=>exact .inr (by simp)) (.inl rfl)
theorem ZD.setOther{rb pb:Nat}{w:L}{v:N}{l:List Rd}(h:ZD rb pb w v l){b i:Nat}{cs:Array N}{t:sA}{fz:Nat×Nat}(hb:w.heap[b]?=O (tD cs t fz))(ht:t≠5)(ht2:t≠140)(hbb:pb<=b)(u:N):ZD rb pb (tI w ⟨b,i,M⟩ u) v l:=h.kept (Yz w b i u) (.inr (h.ne hb ht2)) (.inr ⟨b,cs,t,fz,rfl,hbb,hb,ht⟩)
theorem ZD.down{rb pb:Nat}{w:L}{v:N}{l:List Rd}(h:ZD rb pb w v l)(rb':Nat)(hb:rb'<=rb):ZD rb' pb w v l:=by
 obtain⟨i,d,c,f⟩:=h;refine⟨i,d,⟨c.1,?_⟩,f⟩;rcases c.2with h|⟨g,cap,a,e,b,rest⟩;·exact .inl h
 ·exact .inr ⟨g,cap,a,e,tS hb b,rest⟩
theorem ZD.shape{rb pb:Nat}{w:L}{v:N}{l:List Rd}(h:ZD rb pb w v l):∃a cap,v=S a l.length cap:=by
 obtain⟨d,_,h,_⟩:=h;rcases h.2with⟨rfl,c⟩|⟨g,cap,b,rfl,_⟩;·exact⟨M,0,by rw[c]⟩
 ·exact⟨_,cap,rfl⟩
theorem Wc{us:List RV}{l:List Rd}(h:us.map (·.1)=l)(i:Nat)(hi:i<l.length):(us.getD i CU).1=l.getD i Zb∧us.getD i CU∈us:=by
 subst h;have a:i<us.length:=by simpa using hi
 refine⟨by simp[a],?_⟩;rw[show us.getD i CU=us[i]by simp[a]];exact sQ a
theorem ZD.list{rb pb:Nat}{w:L}{v:N}{l:List Rd}(h:ZD rb pb w v l):ZY w v l:=by
 obtain⟨d,n,p,y⟩:=h;rcases p.2with⟨rfl,x⟩|⟨g,cap,e,rfl,D,z,B,E,F,C⟩;·have:l=[]:=tP x;rw[this];exact Cc w
 ·(have a:∀j u,(Ga d)[j]?=O u->w.cell? ⟨g,j,M⟩=O u:=by intro j u m;(have f:j<l.length*4:=by have:=(sK.1 m).1;rw[p.1]at this;exact this);(have b:(e.toList.take (l.length*4))[j]?=(Ga d)[j]?:=by rw[C]);rw[sF,if_pos f,m]at b;simp[tX,z];simpa using b);refine⟨_,cap,rfl,B,.inr ⟨g,0,rfl,fun i A=>?_⟩⟩;obtain⟨t,b⟩:=Wc n i A;(have o:d.length=l.length:=by rw[<-n];simp);obtain⟨q,r,k,s⟩:=EB d i (by omega);have c:=y _ b;rw[t]at k c;rw[sP];exact⟨_,_,_,a _ _ q,a _ _ r,a _ _ k,a _ _ s,c.1.1,c.2.1.1,c.2.2.1⟩
theorem Tc{rb pb:Nat}{w W w1:L}{v:N}{l:List Rd}(h:Y w W M)(ho:ZD rb pb W v l)(hb:w.heap.size<=rb)(hg:Y W w1 v.ownBlock):Y w w1 M:=⟨hg.os.trans h.os,hg.tape.trans h.tape,hg.output.trans h.output,tS h.size hg.size,fun i a b=>(hg.block i (tL a h.size) (fun e=>by
 have:=(ho.lt i e.symm).1;omega)).trans (h.block i a b)⟩
theorem eY:(tC.info? 140).map (fun i=>(i.zero,i.size,i.bytes))=O (O (sU #[S M 0 0,S M 0 0,tR tB,S M 0 0]),4,80):=by
 kernel_rfl
def Gy(w:L)(v:N)(t:Tx):Prop:=∃vr vw,v=sU #[tE tG t.start,vr,vw]∧ZD 0 0 w vr t.reads∧QU 0 0 w vw t.writes
theorem Gy.is{w:L}{v:N}{t:Tx}(h:Gy w v t):GD w v t:=by
 obtain⟨c,d,rfl,a,b⟩:=h;exact⟨c,d,rfl,a.list,b.list⟩
theorem zQ(w:L):Gy w (sU #[tE tG 0,S M 0 0,S M 0 0]) Fh:=⟨_,_,rfl,Uc 0 0 w,Xp 0 0 w⟩
def Mi(w:L)(b o:Nat)(s:kI):Prop:=∃vo,w.cell? ⟨b,o,M⟩=O (tE tG s.bit)∧w.cell? ⟨b,o+1,M⟩=O (tR s.right)∧w.cell? ⟨b,o+2,M⟩=O vo∧Qe w vo s.other
theorem Mi.grown{w w':L}{b o:Nat}{s:kI}(h:Mi w b o s)(hg:Y w w' M):Mi w' b o s:=by
 obtain⟨f,a,c,d,e⟩:=h;exact⟨f,hg.cell a (by simp),hg.cell c (by simp),hg.cell d (by simp),e.grown hg⟩
def V4(w:L)(v:N)(l:List kI):Prop:=∃a cap,v=S a l.length cap∧l.length<=cap∧((l=[]∧(a=M->cap=0))∨∃b o,a=O ⟨b,o,M⟩∧∀i,i<l.length->Mi w b (o+i*3) (l.getD i Ss))
theorem D6(w:L):V4 w (S M 0 0) []:=⟨M,0,rfl,sE _,.inl ⟨rfl,fun _=>rfl⟩⟩
theorem V4.grown{w w':L}{v:N}{l:List kI}(h:V4 w v l)(hg:Y w w' M):V4 w' v l:=by
 obtain⟨a,cap,rfl,c,h⟩:=h;refine⟨a,cap,rfl,c,?_⟩;rcases h with h|⟨b,o,rfl,h⟩;·exact .inl h
 ·exact .inr ⟨b,o,rfl,fun i d=>(h i d).grown hg⟩
theorem V4.shape{w:L}{v:N}{l:List kI}(h:V4 w v l):∃a cap,v=S a l.length cap:=by
 obtain⟨a,cap,rfl,_⟩:=h;exact⟨a,cap,rfl⟩
def Kl(w:L)(v:N)(p:Dl):Prop:=∃vs vk vv,v=sU #[tR p.empty,vs,vk,vv]∧V4 w vs p.steps∧Qe w vk p.pair.1∧Qe w vv p.pair.2
theorem Kl.grown{w w':L}{v:N}{p:Dl}(h:Kl w v p)(hg:Y w w' M):Kl w' v p:=by
 obtain⟨e,d,f,rfl,a,b,c⟩:=h;exact⟨e,d,f,rfl,a.grown hg,b.grown hg,c.grown hg⟩
theorem Un{w:L}{b:Nat}{x y:N}{t:sA}(h:w.heap[b]?=O (tD #[x,y] t)):w.cell? ⟨b,0,M⟩=O x∧w.cell? ⟨b,1,M⟩=O y∧w.frozen? ⟨b,0,M⟩=tB∧w.frozen? ⟨b,1,M⟩=tB:=by
 refine⟨?_,?_,?_,?_⟩<;>simp[tX,r7,h]
theorem aK{w:L}{b:Nat}{x y:N}{t:sA}(h:w.heap[b]?=O (tD #[x,y] t))(u v:N):((tI w ⟨b,0,M⟩ u).setCell ⟨b,1,M⟩ v).heap[b]?=O (tD #[u,v] t):=by
 have a:(tI w ⟨b,0,M⟩ u).heap[b]?=O (tD #[u,y] t):=by simp only[tI,tY,if_true,h,rS];first|rfl|simp
 rw[tI,tY,if_pos rfl,a];first|rfl|simp
theorem VZ{w:L}{b:Nat}{x y z:N}{t:sA}(h:w.heap[b]?=O (tD #[x,y,z] t)):(w.cell? ⟨b,0,M⟩=O x∧w.cell? ⟨b,1,M⟩=O y∧w.cell? ⟨b,2,M⟩=O z)∧w.frozen? ⟨b,0,M⟩=tB∧w.frozen? ⟨b,1,M⟩=tB∧w.frozen? ⟨b,2,M⟩=tB:=by
 refine⟨⟨?_,?_,?_⟩,?_,?_,?_⟩<;>simp[tX,r7,h]
theorem Er{w:L}{b:Nat}{x y z:N}{t:sA}(h:w.heap[b]?=O (tD #[x,y,z] t))(x' y' z':N):(((tI w ⟨b,0,M⟩ x').setCell ⟨b,1,M⟩ y').setCell ⟨b,2,M⟩ z').heap[b]?=O (tD #[x',y',z'] t):=by
 have a:(tI w ⟨b,0,M⟩ x').heap[b]?=O (tD #[x',y,z] t):=by simp only[tI,tY,if_true,h,rS];first|rfl|simp
 have c:((tI w ⟨b,0,M⟩ x').setCell ⟨b,1,M⟩ y').heap[b]?=O (tD #[x',y',z] t):=by rw[tI,tY,if_pos rfl,a];first|rfl|simp
 rw[tI,tY,if_pos rfl,c];first|rfl|simp
theorem PM{w w1:L}(h:Y w w1 M)(b:Nat)(hb:w.heap.size<=b)(x y z:N):Y w (((tI w1 ⟨b,0,M⟩ x).setCell ⟨b,1,M⟩ y).setCell ⟨b,2,M⟩ z) M:=Qc (Qc (Qc h _ hb _ _) _ hb _ _) _ hb _ _
def eL(w:L)(b:Nat):Prop:=∃cur t fz,w.heap[b]?=O (tD cur t fz)∧(t=5∨∃q,cur[0]?=O (tE pD q))
def yO(w:L)(b:Nat):Prop:=∃cur t fz,w.heap[b]?=O (tD cur t fz)∧t≠5∧∀q,cur[0]?≠O (tE pD q)
theorem eL.ne{w:L}{a b:Nat}(h:eL w a)(h':yO w b):a≠b:=by
 rintro rfl;obtain⟨f,t,l,i,c⟩:=h;obtain⟨e,m,g,d,j,k⟩:=h';rw[i]at d;simp only[tF,tZ]at d;obtain⟨rfl,rfl,_⟩:=d;rcases c with c|⟨q,c⟩;·exact j c
 ·exact k q c
theorem yO.grown{w w':L}{b:Nat}(h:yO w b)(hg:Y w w' M):yO w' b:=by
 obtain⟨a,t,d,c,e⟩:=h;exact⟨a,t,d,by rw[hg.block b (tJ.1 c).1 (by simp)];exact c,e⟩
theorem yO.set{w:L}{c:Nat}(h:yO w c)(i:Nat)(u:N)(hu:∀q,u≠tE pD q):yO (tI w ⟨c,i,M⟩ u) c:=by
 obtain⟨b,t,d,e,f,g⟩:=h;refine⟨b.setIfInBounds i u,t,d,?_,f,fun q a=>?_⟩;·simp only[tI,tY,if_true,e,rS];first|rfl|simp
 ·rw[Array.getElem?_setIfInBounds]at a;split at a;(·split at a;(·simp at a;exact hu q a);·cases a);·exact g q a
theorem Ml{w:L}{c:Nat}{x:N}{xs:List N}{t:sA}{fz:Nat×Nat}(h:w.heap[c]?=O (tD ⟨x::xs⟩ t fz))(ht:t≠5)(hx:∀q,x≠tE pD q):yO w c:=⟨_,t,fz,h,ht,fun q a=>by
 simp at a;exact hx q a⟩
def XQ(w:L)(v:N)(bs:List UInt8):Prop:=Qe w v bs∧(bs=[]∨∃b,v.ownBlock=O b∧b<w.heap.size∧eL w b)
theorem fM:(195:Nat)≠5:=by
 decide
theorem Ul(w:L):XQ w (S M 0 0) []:=⟨QI _,.inl rfl⟩
theorem Q6.partS{base':Nat}{w:L}{v:N}{bs:List UInt8}(h:Q6 base' w v bs):XQ w v bs:=by
 refine⟨h.slice,?_⟩;rcases h.2with⟨rfl,c⟩|⟨g,cap,a,rfl,d,b,_⟩;·exact .inl (tP c)
 ·exact .inr ⟨g,rfl,(tJ.1 b).1,a,_,_,b,.inl rfl⟩
theorem ZA.partS{w:L}{nb:Nat}{bs:List UInt8}(h:ZA w nb bs)(hl:bs.length=32):XQ w (S (O ⟨nb,0,M⟩) 32 32) bs:=by
 refine⟨h.slice32 hl,.inr ⟨nb,rfl,Vj (h.cell 0 (by omega)),?_⟩⟩;have b:=h.cell 0 (by omega);obtain⟨t,a⟩:=h;refine⟨_,t,_,a,.inr ⟨((bs.getD 0 0).toNat:Int),?_⟩⟩;·simpa[tX,a]using b
theorem RK{w:L}{v:N}{bs:List UInt8}(h:XQ w v bs):v.oneCell'=tA:=by
 obtain⟨⟨a,cap,rfl,_⟩,_⟩:=h;rfl
def fV(w:L)(row:Option Nat):Prop:=row=M∨∃g,row=O g∧yO w g
theorem XQ.kept{w w':L}{v:N}{bs:List UInt8}(h:XQ w v bs){row:Option Nat}(hg:Y w w' row)(hrow:fV w row):XQ w' v bs:=by
 obtain⟨r,x⟩:=h;rcases x with rfl|⟨b,l,f,c⟩;·obtain⟨a,cap,rfl,c,h⟩:=r;refine⟨⟨a,cap,rfl,c,?_⟩,.inl rfl⟩;rcases h with h|⟨b,o,rfl,h⟩;(·exact .inl h);·exact .inr ⟨b,o,rfl,fun i q=>by simp at q⟩
 ·(have j:O b≠row:=by intro e;rcases hrow with rfl|⟨g,rfl,p⟩;(·cases e);·cases e;exact c.ne p rfl);have d:=hg.block b f j;refine⟨?_,.inr ⟨b,l,tL f hg.size,?_⟩⟩;(·obtain⟨a,cap,rfl,n,h⟩:=r;refine⟨a,cap,rfl,n,?_⟩;rcases h with h|⟨s,o,rfl,h⟩;(·exact .inl h);·refine .inr ⟨s,o,rfl,fun i q=>?_⟩;simp[pK]at l;subst l;exact hg.cell (h i q) (by simpa using j));·obtain⟨k,t,u,c,m⟩:=c;exact⟨k,t,u,by rw[d];exact c,m⟩
theorem XQ.grown{w w':L}{v:N}{bs:List UInt8}(h:XQ w v bs)(hg:Y w w' M):XQ w' v bs:=h.kept hg (.inl rfl)
theorem XQ.set{w:L}{v:N}{bs:List UInt8}(h:XQ w v bs){c:Nat}(hc:yO w c)(i:Nat)(u:N):XQ (tI w ⟨c,i,M⟩ u) v bs:=h.kept (Qg (Qb _ (O c)) i u) (.inr ⟨c,rfl,hc⟩)
abbrev SV:=kI×N
def LJ:SV:=(Ss,sL)
def K8(us:List SV):List N:=us.flatMap fun x=>[tE tG x.1.bit,tR x.1.right,x.2]
theorem Mo(a b:List SV):K8 (a++b)=K8 a++K8 b:=by
 simp[K8]
theorem Nj:∀(us:List SV)(i:Nat),i<us.length->(K8 us)[i*3]?=O (tE tG (us.getD i LJ).1.bit)∧(K8 us)[i*3+1]?=O (tR (us.getD i LJ).1.right)∧(K8 us)[i*3+2]?=O (us.getD i LJ).2|[],i,h=>by simp at h|x::r,0,_=>by simp[K8]|x::r,i+1,h=>by have:=Nj r i (by simpa using h);rw[show(i+1)*3=i*3+3by omega,show i*3+3+1=(i*3+1)+3by omega,show i*3+3+2=(i*3+2)+3by omega];simpa[K8]using this
theorem LY(us:List SV):∀u∈K8 us,(∀x∈us,x.2.oneCell'=tA)->u.oneCell'=tA:=by
 intro u a h;obtain⟨x,b,a⟩:=List.mem_flatMap.1 a;simp only[tN,tQ,or_false]at a;rcases a with rfl|rfl|rfl;·rfl
 ·rfl
 ·exact h x b
def Jx(base:Nat)(w:L)(v:N)(l:List kI):Prop:=∃us:List SV,us.map (·.1)=l∧w.ownsRow base 195 3 v l.length (K8 us)∧(∀x∈us,XQ w x.2 x.1.other)∧(l=[]->v=S M 0 0)
theorem uE(base:Nat)(w:L):Jx base w (S M 0 0) []:=⟨[],rfl,sN _ _ _ _,fun x hx=>by
 simp at hx,fun _=>rfl⟩
theorem Jx.row{base:Nat}{w:L}{v:N}{l:List kI}(h:Jx base w v l):fV w v.ownBlock:=by
 obtain⟨b,c,h,_,d⟩:=h;cases l with|nil=>rw[d rfl];exact .inl rfl|cons x r=>rcases h.2with⟨rfl,_⟩|⟨g,cap,a,rfl,j,f,k,_,_,i⟩;(·exact .inl rfl);·refine .inr ⟨g,rfl,a,_,_,f,fM,fun q=>?_⟩;cases b with|nil=>simp at c|cons u b=>simp only[oH,List.cons.injEq]at c;(have e:(a.toList.take ((x::r).length*3))[0]?=(K8 (u::b))[0]?:=by rw[i]);rw[sF,if_pos (by simp)]at e;rw[<-pB,e];simp[K8]
theorem Jx.lt{base:Nat}{w:L}{v:N}{l:List kI}(h:Jx base w v l):∀k,v.ownBlock=O k->base<=k∧k<w.heap.size:=by
 obtain⟨a,_,h,_⟩:=h;exact sI h
theorem Jx.grownNone{base:Nat}{w w':L}{v:N}{l:List kI}(h:Jx base w v l)(hg:Y w w' M):Jx base w' v l:=by
 obtain⟨f,a,b,c,d⟩:=h;refine⟨f,a,tW b hg ?_,fun x e=>(c x e).grown hg,d⟩;cases hv:v.ownBlock with|none=>exact .inl rfl|some k=>exact .inr (by simp)
theorem Jx.alloc{base:Nat}{w:L}{v:N}{l:List kI}(h:Jx base w v l)(o:Obj):Jx base (w.alloc o) v l:=h.grownNone (sO _ _ _)
theorem Jx.shape{base:Nat}{w:L}{v:N}{l:List kI}(h:Jx base w v l):∃a cap,v=S a l.length cap:=by
 obtain⟨d,_,h,_⟩:=h;rcases h.2with⟨rfl,c⟩|⟨g,cap,b,rfl,_⟩;·exact⟨M,0,by rw[c]⟩
 ·exact⟨_,cap,rfl⟩
theorem Jx.cells{base:Nat}{w:L}{g n cap:Nat}{us:List SV}{k:Nat}(hr:w.ownsRow base 195 3 (S (O ⟨g,0,M⟩) n cap) k (K8 us)):∀j u,(K8 us)[j]?=O u->w.cell? ⟨g,j,M⟩=O u:=by
 intro j u f;rcases hr.2with⟨e,_⟩|⟨l,c,a,e,m,h,p,o,q,i⟩;·cases e
 ·simp only[tM,tF,rO]at e;obtain⟨⟨rfl,_⟩,_,_⟩:=e;(have b:j<k*3:=by have:=(sK.1 f).1;rw[hr.1]at this;exact this);(have d:(a.toList.take (k*3))[j]?=(K8 us)[j]?:=by rw[i]);rw[sF,if_pos b,f]at d;simp[tX,h];simpa using d
theorem Oq{us:List SV}{l:List kI}(h:us.map (·.1)=l)(i:Nat)(hi:i<l.length):(us.getD i LJ).1=l.getD i Ss∧us.getD i LJ∈us:=by
 subst h;have a:i<us.length:=by simpa using hi
 constructor;·simp[a]
 ·rw[show us.getD i LJ=us[i]by simp[a]];exact sQ _
theorem Jx.list{base:Nat}{w:L}{v:N}{l:List kI}(h:Jx base w v l):V4 w v l:=by
 obtain⟨f,d,a,p,_⟩:=h;have s:f.length=l.length:=by rw[<-d];simp
 rcases a.2with⟨rfl,o⟩|⟨g,cap,k,rfl,t,u,r,x,y,z⟩;·have:l=[]:=tP o;subst this;exact D6 w
 ·refine⟨_,cap,rfl,r,.inr ⟨g,0,rfl,fun i q=>?_⟩⟩;obtain⟨m,n⟩:=Oq d i q;obtain⟨b,c,j⟩:=Nj f i (by omega);have e:=p _ n;rw[m]at b c e;rw[sP];exact⟨_,Jx.cells a _ _ b,Jx.cells a _ _ c,Jx.cells a _ _ j,e.1⟩
theorem Jx.set{base:Nat}{w:L}{v:N}{l:List kI}(h:Jx base w v l){c:Nat}(hc:yO w c)(hne:c<base)(i:Nat)(u:N):Jx base (tI w ⟨c,i,M⟩ u) v l:=by
 have a:=h.lt;obtain⟨j,b,d,e,f⟩:=h;refine⟨j,b,tW d (Qg (Qb _ (O c)) i u) ?_,fun x g=>(e x g).set hc i u,f⟩;cases hv:v.ownBlock with|none=>exact .inl rfl|some k=>exact .inr (by have:=(a k hv).1;simp;omega)
theorem Vm{w w':L}{row:Option Nat}{b:Nat}{o:Obj}(hg:Y w w' row)(h:w.heap[b]?=O o)(hne:row≠O b):w'.heap[b]?=O o:=by
 rw[hg.block b (tJ.1 h).1 (fun e=>hne e.symm)];exact h
theorem d6:(52:Nat)≠5:=by
 decide
theorem fZ:(50:Nat)≠5:=by
 decide
theorem Ve{W:L}{pb:Nat}{x y:N}(h:W.heap[pb]?=O (tD #[x,y] 50))(hx:∀q,x≠tE pD q)(ua va:Option rH)(un uc vn vc:Nat){z:N}{bs:List UInt8}(hz:XQ W z bs):XQ ((tI W ⟨pb,0,M⟩ (S ua un uc)).setCell ⟨pb,1,M⟩ (S va vn vc)) z bs:=have a:yO W pb:=Ml (xs:=[y]) h fZ hx;have b:=a.set 0 (S ua un uc) (fun q=>by
 simp);(hz.set a 0 _).set b 1 _
theorem XQ.quad{w:L}{v:N}{bs:List UInt8}(h:XQ w v bs){c:Nat}(hc:yO w c){e:Bool}{sa:Option rH}{sn sc:Nat}{ka va:Option rH}{kn kc vn vc:Nat}:XQ ((((tI w ⟨c,0,M⟩ (tR e)).setCell ⟨c,1,M⟩ (S sa sn sc)).setCell ⟨c,2,M⟩ (S ka kn kc)).setCell ⟨c,3,M⟩ (S va vn vc)) v bs:=have a:=hc.set 0 (tR e) (fun q=>by
 simp);have b:=a.set 1 (S sa sn sc) (fun q=>by
 simp);have d:=b.set 2 (S ka kn kc) (fun q=>by
 simp);(((h.set hc 0 _).set a 1 _).set b 2 _).set d 3 _
theorem Jx.quad{base:Nat}{w:L}{v:N}{l:List kI}(h:Jx base w v l){c:Nat}(hc:yO w c)(hne:c<base){e:Bool}{sa:Option rH}{sn sc:Nat}{ka va:Option rH}{kn kc vn vc:Nat}:Jx base ((((tI w ⟨c,0,M⟩ (tR e)).setCell ⟨c,1,M⟩ (S sa sn sc)).setCell ⟨c,2,M⟩ (S ka kn kc)).setCell ⟨c,3,M⟩ (S va vn vc)) v l:=have a:=hc.set 0 (tR e) (fun q=>by
 simp);have b:=a.set 1 (S sa sn sc) (fun q=>by
 simp);have d:=b.set 2 (S ka kn kc) (fun q=>by
 simp);(((h.set hc hne 0 _).set a hne 1 _).set b hne 2 _).set d hne 3 _
def Zs(n:Nat)(w:L)(v:N)(p:Dl):Prop:=∃base vs vk vv,v=sU #[tR p.empty,vs,vk,vv]∧n<=base∧base<=w.heap.size∧Jx base w vs p.steps∧XQ w vk p.pair.1∧XQ w vv p.pair.2
theorem Zs.is{n:Nat}{w:L}{v:N}{p:Dl}(h:Zs n w v p):Kl w v p:=by
 obtain⟨a,f,e,g,rfl,_,_,b,c,d⟩:=h;exact⟨f,e,g,rfl,b.list,c.1,d.1⟩
theorem An{base:Nat}{w W w1:L}{v:N}{l:List kI}(h:Y w W M)(ho:Jx base W v l)(hb:w.heap.size<=base)(hg:Y W w1 v.ownBlock):Y w w1 M:=⟨hg.os.trans h.os,hg.tape.trans h.tape,hg.output.trans h.output,tS h.size hg.size,fun i a b=>(hg.block i (tL a h.size) (fun e=>by
 have:=(ho.lt i e.symm).1;omega)).trans (h.block i a b)⟩
theorem IH:(tC.info? 195).map (fun i=>(i.zero,i.size,i.bytes))=O (O (sU #[tE tG 0,tR tB,S M 0 0]),3,40):=by
 kernel_rfl
theorem TP{w:L}{o:rK}{a:Act}{K:Act->L->Prop}{Q:Exit->Act->L->Prop}(s x:rI)(ho:o.op=.call {callee:=.builtin .append,args:=#[s,x],argTypes:=#[48,48]})(base:Nat)(v:N)(l:List kI)(hs:a.eval s=v)(hown:Jx base w v l)(vo:N)(p:kI)(hk:XQ w vo p.other)(nb:Nat)(hb:∀j u,[tE tG p.bit,tR p.right,vo][j]?=O u->w.cell? ⟨nb,j,M⟩=O u)(hx:a.eval x=S (O ⟨nb,0,M⟩) 1 1)(hl:(l.length+1)*40<=140737488355328)(hbase:base<=w.heap.size)(h:∀v' w',Jx base w' v' (l++[p])->Y w w' v.ownBlock->K (a.put o.dst v') w'):o.wp tC a w K Q:=by
 obtain⟨B,q,g,i,k⟩:=rY IH;have c:=hown.row;obtain⟨m,f,z,t,_⟩:=hown;refine wp_append_own w s x 48 ho base 195 B (sU #[tE tG 0,tR tB,S M 0 0]) 3 40 Tryz.underlying48 q g i k rfl (by decide) v l.length (K8 m) hs z ⟨nb,0,M⟩ 1 1 (K8 [(p,vo)]) hx rfl ?_ ?_ (by unfold pJ;omega) hl hbase ?_;·intro j u r;rw[ZU,sP];exact hb j u (by simpa[K8]using r)
 ·intro u A;exact LY _ u A fun y b=>by simp at b;subst b;exact RK hk
 ·intro v' w' n d _;refine h _ w' ⟨m++[(p,vo)],by simp[f],?_,?_,fun e=>by simp at e⟩ d;(·rw[Mo,tH];exact n);·intro y b;rcases sB.1 b with b|b;(·exact(t y b).kept d c);·simp at b;subst b;exact hk.kept d c
theorem jY{w:L}{ops:Array rK}{rest:List rK}{o:rK}{a:Act}{Q:Exit->Act->L->Prop}(hgd:o.guard=M)(s x:rI)(ho:o.op=.call {callee:=.builtin .append,args:=#[s,x],argTypes:=#[48,48]})(base:Nat)(v:N)(l:List kI)(hs:a.eval s=v)(hown:Jx base w v l)(vo:N)(p:kI)(hk:XQ w vo p.other)(nb:Nat)(hb:∀j u,[tE tG p.bit,tR p.right,vo][j]?=O u->w.cell? ⟨nb,j,M⟩=O u)(hx:a.eval x=S (O ⟨nb,0,M⟩) 1 1)(hl:(l.length+1)*40<=140737488355328)(hbase:base<=w.heap.size)(h:∀v' w',Jx base w' v' (l++[p])->Y w w' v.ownBlock->wpList tC ops Q rest (a.put o.dst v') w'):wpList tC ops Q (o::rest) a w:=wpList_plain hgd fun _ d=>TP s x ho base v l hs hown vo p hk nb hb hx hl hbase fun v' w' b c=>d _ _ (h v' w' b c)
theorem L0{w:L}{nb:Nat}{p:kI}{vo:N}{t:sA}(h:w.heap[nb]?=O (tD #[tE tG p.bit,tR p.right,vo] t)):∀j u,[tE tG p.bit,tR p.right,vo][j]?=O u->w.cell? ⟨nb,j,M⟩=O u:=by
 intro j u a;simp[tX,h];simpa using a
def dK:N->Nat|S _ n _=>n|_=>0
def vS(t:sA):Prop:=t=77∨t=54∨t=134∨t=25∨t=3
def Su(B:Nat)(w:L)(i:Nat):Prop:=i<B∨∀cs t fz,w.heap[i]?=O (tD cs t fz)->(¬vS t∨∃q,cs[0]?=O (tE pD q))
structure Kp (B : Nat) (w w' : L) : Prop where
  os : w'.os = w.os
  tape : w'.tape = w.tape
  output : w'.output = w.output
  size : w.heap.size <= w'.heap.size
  keep : ∀ i, i < w.heap.size -> Su B w i -> w'.heap[i]? = w.heap[i]?
theorem Kp.refl(B:Nat)(w:L):Kp B w w:=⟨rfl,rfl,rfl,sE _,fun _ _ _=>rfl⟩
theorem Su.same{B:Nat}{w w':L}{i:Nat}(h:Su B w i)(e:w'.heap[i]?=w.heap[i]?):Su B w' i:=by
 rcases h with h|h;·exact .inl h
 ·exact .inr fun a t b c=>h a t b (by rw[<-e];exact c)
theorem Kp.trans{B:Nat}{w w1 w2:L}(h:Kp B w w1)(k:Kp B w1 w2):Kp B w w2:=⟨k.os.trans h.os,k.tape.trans h.tape,k.output.trans h.output,tS h.size k.size,fun i a b=>by
 have e:=h.keep i a b;exact(k.keep i (tL a h.size) (b.same e)).trans e⟩
theorem Kp.grown{B:Nat}{w w':L}(h:Y w w' M):Kp B w w':=⟨h.os,h.tape,h.output,h.size,fun i hi _=>h.block i hi (by
 simp)⟩
theorem Kp.turn{B:Nat}{w w':L}{g:Nat}{cs:Array N}{t:sA}{fz:Nat×Nat}(h:Y w w' (O g))(hB:B<=g)(hb:w.heap[g]?=O (tD cs t fz))(ht:vS t)(h0:∀q,cs[0]?≠O (tE pD q)):Kp B w w':=⟨h.os,h.tape,h.output,h.size,fun i c a=>by
 refine h.block i c fun e=>?_;cases e;rcases a with a|a;·omega
 ·rcases a cs t fz hb with b|⟨q,b⟩;(·exact b ht);·exact h0 q b⟩
theorem Kp.low{B:Nat}{w w':L}(h:Kp B w w')(w0:L)(hg:Y w0 w M)(hB:w0.heap.size<=B):Y w0 w' M:=⟨h.os.trans hg.os,h.tape.trans hg.tape,h.output.trans hg.output,tS hg.size h.size,fun i a b=>(h.keep i (tL a hg.size) (.inl (by
 omega))).trans (hg.block i a b)⟩
def GN(t:sA):Prop:=t=5∨t=50∨t=191∨t=122∨t=140∨t=195
def qY(t:sA):Prop:=¬GN t
theorem vS.two{t:sA}(h:vS t):qY t:=by
 rcases h with rfl|rfl|rfl|rfl|rfl<;>simp[qY,GN]
def Me(B:Nat)(w:L)(i:Nat):Prop:=i<B∨∀cs t fz,w.heap[i]?=O (tD cs t fz)->(¬qY t∨∃q,cs[0]?=O (tE pD q))
structure CT (B : Nat) (w w' : L) : Prop where
  os : w'.os = w.os
  tape : w'.tape = w.tape
  output : w'.output = w.output
  size : w.heap.size <= w'.heap.size
  keep : ∀ i, i < w.heap.size -> Me B w i -> w'.heap[i]? = w.heap[i]?
theorem Kp.two{B C:Nat}{w w':L}(h:Kp B w w')(hC:C<=B):CT C w w':=⟨h.os,h.tape,h.output,h.size,fun i g a=>h.keep i g (by
 rcases a with a|a;·exact .inl (tL a hC)
 ·exact .inr fun b t c f=>(a b t c f).imp (fun d e=>d e.two) id)⟩
theorem CT.refl(B:Nat)(w:L):CT B w w:=⟨rfl,rfl,rfl,sE _,fun _ _ _=>rfl⟩
theorem Me.same{B:Nat}{w w':L}{i:Nat}(h:Me B w i)(e:w'.heap[i]?=w.heap[i]?):Me B w' i:=by
 rcases h with h|h;·exact .inl h
 ·exact .inr fun a t b c=>h a t b (by rw[<-e];exact c)
theorem CT.trans{B:Nat}{w w1 w2:L}(h:CT B w w1)(k:CT B w1 w2):CT B w w2:=⟨k.os.trans h.os,k.tape.trans h.tape,k.output.trans h.output,tS h.size k.size,fun i a b=>by
 have e:=h.keep i a b;exact(k.keep i (tL a h.size) (b.same e)).trans e⟩
theorem CT.grown{B:Nat}{w w':L}(h:Y w w' M):CT B w w':=⟨h.os,h.tape,h.output,h.size,fun i hi _=>h.block i hi (by
 simp)⟩
def SO(w:L)(i:Nat):Prop:=∀cs t fz,w.heap[i]?=O (tD cs t fz)->(GN t∨t=54∨∃q,cs[0]?=O (tE pD q))
structure KL (w w' : L) : Prop where
  os : w'.os = w.os
  tape : w'.tape = w.tape
  output : w'.output = w.output
  size : w.heap.size <= w'.heap.size
  keep : ∀ i, i < w.heap.size -> SO w i -> w'.heap[i]? = w.heap[i]?
theorem KL.two{w w':L}(h:KL w w'):CT 0 w w':=⟨h.os,h.tape,h.output,h.size,fun i f a=>h.keep i f fun c t d e=>by
 rcases a with a|a;·omega
 ·rcases a c t d e with b|b;(·exact .inl (sV b));·exact .inr (.inr b)⟩
theorem KL.refl(w:L):KL w w:=⟨rfl,rfl,rfl,sE _,fun _ _ _=>rfl⟩
theorem SO.same{w w':L}{i:Nat}(h:SO w i)(e:w'.heap[i]?=w.heap[i]?):SO w' i:=fun cs t fz hc=>h cs t fz (by
 rw[<-e];exact hc)
theorem KL.trans{w w1 w2:L}(h:KL w w1)(k:KL w1 w2):KL w w2:=⟨k.os.trans h.os,k.tape.trans h.tape,k.output.trans h.output,tS h.size k.size,fun i a b=>by
 have e:=h.keep i a b;exact(k.keep i (tL a h.size) (b.same e)).trans e⟩
theorem KL.grown{w w':L}(h:Y w w' M):KL w w':=⟨h.os,h.tape,h.output,h.size,fun i hi _=>h.block i hi (by
 simp)⟩
theorem KL.turn{w w':L}{row:Option Nat}(h:Y w w' row)(hr:∀g,row=O g->∃cs t fz,w.heap[g]?=O (tD cs t fz)∧¬GN t∧t≠54∧∀q,cs[0]?≠O (tE pD q)):KL w w':=⟨h.os,h.tape,h.output,h.size,fun i j k=>by
 refine h.block i j fun e=>?_;obtain⟨cs,t,fz,f,b,c,d⟩:=hr i e.symm;rcases k cs t fz f with a|a|⟨q,a⟩;·exact b a
 ·exact c a
 ·exact d q a⟩
def JM(w:L)(P:L->Prop):Prop:=∀w',KL w w'->P w'
theorem JM.now{w:L}{P:L->Prop}(h:JM w P):P w:=h w (KL.refl w)
theorem JM.later{w w':L}{P:L->Prop}(h:JM w P)(k:KL w w'):JM w' P:=fun w2 k2=>h w2 (k.trans k2)
theorem JM.grown{w w':L}{P:L->Prop}(h:JM w P)(k:Y w w' M):JM w' P:=h.later (KL.grown k)
def G4(w:L)(P:L->Prop):Prop:=∀w',Y w w' M->P w'
theorem G4.now{w:L}{P:L->Prop}(h:G4 w P):P w:=h w (Qb w M)
theorem G4.grown{w w':L}{P:L->Prop}(h:G4 w P)(k:Y w w' M):G4 w' P:=fun w2 k2=>h w2 (Qa k k2)
def Q9(B:Nat)(w:L)(P:L->Prop):Prop:=∀w',CT B w w'->P w'
theorem Q9.now{B:Nat}{w:L}{P:L->Prop}(h:Q9 B w P):P w:=h w (CT.refl B w)
theorem Q9.later{B C:Nat}{w w':L}{P:L->Prop}(h:Q9 C w P)(k:Kp B w w')(hC:C<=B:=by
 first|exact Nat.zero_le _|exact Nat.le_refl _):Q9 C w' P:=fun b a=>h b ((k.two hC).trans a)
theorem Q9.later2{C:Nat}{w w':L}{P:L->Prop}(h:Q9 C w P)(k:CT C w w'):Q9 C w' P:=fun w2 k2=>h w2 (k.trans k2)
theorem Q9.grown{C:Nat}{w w':L}{P:L->Prop}(h:Q9 C w P)(k:Y w w' M):Q9 C w' P:=h.later2 (CT.grown k)
theorem Q9.mono{B:Nat}{w:L}{P Q:L->Prop}(h:Q9 B w P)(k:∀w',P w'->Q w'):Q9 B w Q:=fun w' h'=>k w' (h w' h')
theorem Vc{w w':L}{v:N}{bs:List UInt8}(h:Qe w v bs)(hb:bs=[]∨∃b,v.ownBlock=O b∧w'.heap[b]?=w.heap[b]?):Qe w' v bs:=by
 obtain⟨a,cap,rfl,d,h⟩:=h;refine⟨a,cap,rfl,d,?_⟩;rcases h with h|⟨b,o,rfl,h⟩;·exact .inl h
 ·refine .inr ⟨b,o,rfl,fun i c=>?_⟩;rcases hb with rfl|⟨f,e,hb⟩;(·simp at c);·simp[pK]at e;subst e;rw[sM hb];exact h i c
theorem fW:¬qY 5:=by
 simp[qY,GN]
theorem ZP{B:Nat}{w:L}{v:N}{bs:List UInt8}(h:Qh 0 w v bs):Q9 B w (fun w=>Qh 0 w v bs):=fun m k=>by
 obtain⟨i,a⟩:=h;rcases a with a|⟨b,e,j,a⟩;·exact⟨Vc i (.inl a),.inl a⟩
 ·(obtain⟨c,d,a⟩:∃c d,w.heap[b]?=O (tD c 5 d):=by rcases a with a|a;(·omega);·exact a);have l:m.heap[b]?=w.heap[b]?:=k.keep b j (.inr fun n t f g=>.inl (by rw[a]at g;simp only[tF,tZ]at g;rw[<-g.2.1];exact fW));exact⟨Vc i (.inr ⟨b,e,l⟩),.inr ⟨b,e,tL j k.size,.inr ⟨c,d,by rw[l];exact a⟩⟩⟩
theorem Gb{B:Nat}{w:L}{v:N}{bs:List UInt8}(h:XQ w v bs):Q9 B w (fun w=>XQ w v bs):=fun n k=>by
 obtain⟨i,a⟩:=h;rcases a with a|⟨b,e,j,d,t,m,a,c⟩;·exact⟨Vc i (.inl a),.inl a⟩
 ·have l:n.heap[b]?=w.heap[b]?:=k.keep b j (.inr fun o p f g=>by rw[a]at g;simp only[tF,tZ]at g;obtain⟨rfl,rfl,_⟩:=g;rcases c with rfl|c;(·exact .inl fW);·exact .inr c);exact⟨Vc i (.inr ⟨b,e,l⟩),.inr ⟨b,e,tL j k.size,d,t,m,by rw[l];exact a,c⟩⟩
theorem UB{B base:Nat}{w:L}{t:sA}{n m:Nat}{v:N}{xs:List N}(h:w.ownsRow base t n v m xs)(ht:¬qY t):Q9 B w (fun w=>w.ownsRow base t n v m xs):=fun l k=>by
 refine⟨h.1,?_⟩;rcases h.2with h|⟨g,cap,a,e,d,c,rest⟩;·exact .inl h
 ·refine .inr ⟨g,cap,a,e,d,?_,rest⟩;rw[k.keep g (tJ.1 c).1 (.inr fun i j f b=>.inl (by rw[c]at b;simp only[tF,tZ]at b;rw[<-b.2.1];exact ht))];exact c
theorem BS{B rb:Nat}{w:L}{v:N}{l:List Rd}(h:ZD rb 0 w v l):Q9 B w (fun w=>ZD rb 0 w v l):=fun a k=>by
 obtain⟨f,d,e,b⟩:=h;exact⟨f,d,UB e (by simp[qY,GN]) a k,fun x c=>⟨ZP (b x c).1 a k,ZP (b x c).2.1 a k,ZP (b x c).2.2 a k⟩⟩
theorem Bg{B rb:Nat}{w:L}{v:N}{l:List Zc}(h:QU rb 0 w v l):Q9 B w (fun w=>QU rb 0 w v l):=fun a k=>by
 obtain⟨f,d,e,b⟩:=h;exact⟨f,d,UB e (by simp[qY,GN]) a k,fun x c=>⟨ZP (b x c).1 a k,ZP (b x c).2.1 a k,ZP (b x c).2.2 a k⟩⟩
theorem Vf{B:Nat}{w:L}{v:N}{l:PL}(h:QJ 0 w v l):Q9 B w (fun w=>QJ 0 w v l):=fun m k=>by
 obtain⟨a,cap,rfl,e,h⟩:=h;refine⟨a,cap,rfl,e,?_⟩;rcases h with h|⟨b,o,rfl,c,h⟩;·exact .inl h
 ·(obtain⟨d,g,c⟩:∃d g,w.heap[b]?=O (tD d 50 g):=by rcases c with c|c;(·omega);·exact c);have j:m.heap[b]?=w.heap[b]?:=k.keep b (tJ.1 c).1 (.inr fun y t f e=>.inl (by rw[c]at e;simp only[tF,tZ]at e;rw[<-e.2.1];simp[qY,GN]));refine .inr ⟨b,o,rfl,.inr ⟨d,g,by rw[j];exact c⟩,fun i s=>?_⟩;obtain⟨u,x,n,p,q,r⟩:=h i s;exact⟨u,x,by rw[sM j];exact n,by rw[sM j];exact p,ZP q m k,ZP r m k⟩
theorem Bp{B rb:Nat}{w:L}{v:N}{l:FL}(h:Zu rb w v l):Q9 B w (fun w=>Zu rb w v l):=fun a k=>by
 obtain⟨f,d,e,b⟩:=h;exact⟨f,d,UB e (by simp[qY,GN]) a k,fun i c=>⟨ZP (b i c).1 a k,Vf (b i c).2 a k⟩⟩
theorem Rs{B:Nat}{w:L}{v:N}{l:List Zc}(h:Xg 0 w v l):Q9 B w (fun w=>Xg 0 w v l):=fun j k=>by
 obtain⟨a,cap,rfl,e,h⟩:=h;refine⟨a,cap,rfl,e,?_⟩;rcases h with h|⟨b,o,rfl,c,h⟩;·exact .inl h
 ·(obtain⟨d,m,c⟩:∃d m,w.heap[b]?=O (tD d 122 m):=by rcases c with c|c;(·omega);·exact c);have g:j.heap[b]?=w.heap[b]?:=k.keep b (tJ.1 c).1 (.inr fun D t f e=>.inl (by rw[c]at e;simp only[tF,tZ]at e;rw[<-e.2.1];simp[qY,GN]));refine .inr ⟨b,o,rfl,.inr ⟨d,m,by rw[g];exact c⟩,fun i y=>?_⟩;obtain⟨A,z,C,n,p,q,r,s,u,x⟩:=h i y;exact⟨A,z,C,by rw[sM g];exact n,by rw[sM g];exact p,by rw[sM g];exact q,by rw[sM g];exact r,ZP s j k,ZP u j k,ZP x j k⟩
theorem vV{B:Nat}{w:L}{v:N}{t:Tx}(h:Gy w v t):Q9 B w (fun w=>Gy w v t):=fun a k=>by
 obtain⟨d,e,rfl,b,c⟩:=h;exact⟨d,e,rfl,BS b a k,Bg c a k⟩
theorem AG{B base:Nat}{w:L}{v:N}{l:List kI}(h:Jx base w v l):Q9 B w (fun w=>Jx base w v l):=fun a k=>by
 obtain⟨g,b,c,d,e⟩:=h;exact⟨g,b,UB c (by simp[qY,GN]) a k,fun x f=>Gb (d x f) a k,e⟩
theorem xN{B n:Nat}{w:L}{v:N}{p:Dl}(h:Zs n w v p):Q9 B w (fun w=>Kl w v p):=fun a k=>by
 obtain⟨b,g,f,i,rfl,_,_,c,d,e⟩:=h;exact⟨g,f,i,rfl,(AG c a k).list,(Gb d a k).1,(Gb e a k).1⟩
section
section
variable{α:Type}{T:sA}{k:Nat}{P:L->List N->α->Prop}{B:Nat}{w w':L}{v:N}{l:List α}
def Jp(T:sA)(k:Nat)(P:L->List N->α->Prop)(B:Nat)(w:L)(v:N)(l:List α):Prop:=∃us:List (List N×α),us.map (·.2)=l∧w.ownsRow B T k v l.length (us.flatMap (·.1))∧(l=[]->v=S M 0 0)∧∀x∈us,x.1.length=k∧(∀u∈x.1,u.oneCell'=tA)∧(∀q,x.1[0]?≠O (tE pD q))∧Q9 0 w (fun w=>P w x.1 x.2)
theorem uW(T:sA)(k:Nat)(P:L->List N->α->Prop)(B:Nat)(w:L):Jp T k P B w (S M 0 0) []:=⟨[],rfl,sN _ _ _ _,fun _=>rfl,fun x a=>by
 simp at a⟩
theorem Jp.kept(h:Jp T k P B w v l)(hk:Kp B w w')(hs:∀g,v.ownBlock=O g->w'.heap[g]?=w.heap[g]?):Jp T k P B w' v l:=by
 obtain⟨m,e,d,f,a⟩:=h;refine⟨m,e,⟨d.1,?_⟩,f,fun x b=>⟨(a x b).1,(a x b).2.1,(a x b).2.2.1,(a x b).2.2.2.later hk⟩⟩;rcases d.2with h|⟨g,cap,c,rfl,i,j,rest⟩;·exact .inl h
 ·exact .inr ⟨g,cap,c,rfl,i,by rw[hs g rfl];exact j,rest⟩
theorem Jp.kept2(h:Jp T k P B w v l)(hk:CT 0 w w')(hs:∀g,v.ownBlock=O g->w'.heap[g]?=w.heap[g]?):Jp T k P B w' v l:=by
 obtain⟨m,e,d,f,a⟩:=h;refine⟨m,e,⟨d.1,?_⟩,f,fun x b=>⟨(a x b).1,(a x b).2.1,(a x b).2.2.1,(a x b).2.2.2.later2 hk⟩⟩;rcases d.2with h|⟨g,cap,c,rfl,i,j,rest⟩;·exact .inl h
 ·exact .inr ⟨g,cap,c,rfl,i,by rw[hs g rfl];exact j,rest⟩
theorem Jp.lt(h:Jp T k P B w v l):∀g,v.ownBlock=O g->B<=g∧g<w.heap.size:=by
 obtain⟨e,b,a,c,d⟩:=h;exact sI a
theorem Jp.grown(h:Jp T k P B w v l)(hg:Y w w' M):Jp T k P B w' v l:=h.kept (Kp.grown hg) fun g e=>hg.block g (h.lt g e).2 (by
 simp)
theorem Jp.shape(h:Jp T k P B w v l):∃a cap,v=S a l.length cap:=by
 obtain⟨d,_,h,_⟩:=h;rcases h.2with⟨rfl,c⟩|⟨g,cap,b,rfl,_⟩;·exact⟨M,0,by rw[c]⟩
 ·exact⟨_,cap,rfl⟩
theorem SJ{k:Nat}:∀(us:List (List N×α))(_:∀x∈us,x.1.length=k)(i:Nat)(hi:i<us.length)(j:Nat),j<k->(us.flatMap (·.1))[i*k+j]?=us[i].1[j]?|[],_,i,hi,_,_=>by simp at hi|x::us,hk,0,_,j,hj=>by have:=hk x (by simp);simp[pM (show j<x.1.length by omega)]|x::us,hk,i+1,hi,j,hj=>by have a:=hk x (by simp);have:=SJ us (fun y b=>hk y (by simp[b])) i (by simpa using hi) j hj;rw[tT,List.getElem?_append_right (by rw[a,pA];omega),a,show(i+1)*k+j-k=i*k+j by rw[pA];omega,this];simp
theorem Jp.blk(hk0:0<k)(h:Jp T k P B w v l):v.ownBlock=M∨∃g cs,v.ownBlock=O g∧B<=g∧w.heap[g]?=O (tD cs T (0,0))∧∀q,cs[0]?≠O (tE pD q):=by
 obtain⟨b,c,f,i,d⟩:=h;rcases f.2with⟨rfl,_⟩|⟨g,cap,a,rfl,j,n,s,_,m,r⟩;·exact .inl rfl
 ·refine .inr ⟨g,a,rfl,j,n,fun q p=>?_⟩;cases b with|nil=>subst c;have:=i rfl;cases this|cons x b=>(have o:l.length=b.length+1:=by rw[<-c];simp);(have e:(a.toList.take (l.length*k))[0]?=((x::b).flatMap (·.1))[0]?:=by rw[r]);have t:=(d x (by simp)).1;rw[sF,if_pos (by rw[o,pA];omega),tT,pM (by omega),pB,p]at e;exact(d x (by simp)).2.2.1 q e.symm
theorem Jp.turn(hk0:0<k)(hT:vS T)(h:Jp T k P B w v l)(hg:Y w w' v.ownBlock):Kp B w w':=by
 rcases h.blk hk0 with e|⟨g,d,e,b,c,a⟩;·rw[e]at hg;exact Kp.grown hg
 ·rw[e]at hg;exact Kp.turn hg b c hT a
theorem Jp.other(hk0:0<k)(h:Jp T k P B w v l){row:Option Nat}(hk:Kp B w w')(hg:Y w w' row)(hr:row=M∨∃g cs t fz,row=O g∧w.heap[g]?=O (tD cs t fz)∧t≠T):Jp T k P B w' v l:=by
 refine h.kept hk fun g e=>?_;refine hg.block g (h.lt g e).2 fun c=>?_;rcases hr with rfl|⟨j,cs,t,fz,rfl,f,i⟩;·cases c
 ·cases c;rcases h.blk hk0 with b|⟨g2,d,b,_,a,_⟩;(·rw[b]at e;cases e);·rw[b]at e;cases e;rw[f]at a;simp only[tF,tZ]at a;exact i a.2.1
theorem Jp.at(h:Jp T k P B w v l)(d:α)(i:Nat)(hi:i<l.length):∃g cap cs,v=S (O ⟨g,0,M⟩) l.length cap∧cs.length=k∧l.length<=cap∧(∀j,j<k->w.cell? ⟨g,i*k+j,M⟩=cs[j]?)∧Q9 0 w (fun w=>P w cs (l.getD i d)):=by
 obtain⟨a,m,o,z,n⟩:=h;have u:a.length=l.length:=by rw[<-m];simp
 rcases o.2with⟨rfl,y⟩|⟨g,cap,c,rfl,A,q,s,_,p,t⟩;·omega
 ·have b:=n a[i] (sQ (by omega));refine⟨g,cap,a[i].1,rfl,b.1,s,fun j r=>?_,?_⟩;(·(have e:(c.toList.take (l.length*k))[i*k+j]?=(a.flatMap (·.1))[i*k+j]?:=by rw[t]);(have f:i*k+j<l.length*k:=by have:(i+1)*k<=l.length*k:=pF k hi;rw[pA]at this;omega);rw[SJ a (fun x b=>(n x b).1) i (by omega) j r,sF,if_pos f,pB]at e;simp[tX,q,e]);·(have e:l.getD i d=a[i].2:=by subst m;simp[List.getD,show i<a.length by omega]);rw[e];exact b.2.2.2
theorem xM{o:rK}{a:Act}{K:Act->L->Prop}{Q:Exit->Act->L->Prop}(s x:rI)(t:sA)(ho:o.op=.call {callee:=.builtin .append,args:=#[s,x],argTypes:=#[t,t]})(i:TypeInfo)(z:N)(bytes:Nat)(ht:tC.underlying t=O (.slice T))(hi:tC.info? T=O i)(hz:i.zero=O z)(hsize:i.size=k)(hby:i.bytes=bytes)(hzs:z.cells.size=k)(hsz:0<k)(hT:vS T)(hs:a.eval s=v)(hown:Jp T k P B w v l)(nb:Nat)(cs:List N)(y:α)(hx:a.eval x=S (O ⟨nb,0,M⟩) 1 1)(hcl:cs.length=k)(hc:∀j u,cs[j]?=O u->w.cell? ⟨nb,j,M⟩=O u)(h1:∀u∈cs,u.oneCell'=tA)(h0:∀q,cs[0]?≠O (tE pD q))(hP:Q9 0 w (fun w=>P w cs y))(h63:l.length+1<=pJ)(hbytes:(l.length+1)*bytes<=140737488355328)(hbase:B<=w.heap.size)(h:∀v' w',Jp T k P B w' v' (l++[y])->Kp B w w'->Y w w' v.ownBlock->K (a.put o.dst v') w'):o.wp tC a w K Q:=by
 have b:=hown;obtain⟨m,n,p,E,c⟩:=hown;refine wp_append_lies w s x t ho B T i z k bytes ht hi hz hsize hby hzs hsz v l.length (m.flatMap (·.1)) hs p ⟨nb,0,M⟩ 1 1 cs hx (by omega) (fun j u A=>by rw[ZU,sP];exact hc j u A) h1 (by omega) h63 hbytes hbase _ rfl ?_;intro g cap w' D f r C;have d:=b.turn hsz hT f;refine h _ w' ⟨m++[(cs,y)],by simp[n],?_,fun e=>by simp at e,fun x hx=>?_⟩ d f;·simpa[List.flatMap_append]using D
 ·rcases sB.1 hx with hx|hx;(·exact⟨(c x hx).1,(c x hx).2.1,(c x hx).2.2.1,(c x hx).2.2.2.later d⟩);·(obtain rfl:x=(cs,y):=by simpa using hx);exact⟨hcl,h1,h0,hP.later d⟩
theorem Jp.take(h:Jp T k P B w v l){a:Option rH}{n cap:Nat}(hv:v=S a n cap)(m:Nat)(hm:m<=l.length)(h0:0<m):Jp T k P B w (S a m cap) (l.take m):=by
 subst hv;obtain⟨i,q,r,G,s⟩:=h;have D:i.length=l.length:=by rw[<-q];simp
 have b:(l.take m).length=m:=by simp;omega
 rcases r.2with⟨e,t⟩|⟨g,F,j,e,u,z,H,p,o,C⟩;·omega
 ·simp only[tM]at e;obtain⟨rfl,rfl,rfl⟩:=e;(have f:(i.take m).flatMap (·.1)=(i.flatMap (·.1)).take (m*k):=by(have A:∀(d:List (List N×α)),(∀x∈d,x.1.length=k)->∀m,(d.take m).flatMap (·.1)=(d.flatMap (·.1)).take (m*k):=by intro d;induction d with|nil=>intro _ m;simp|cons x d ih=>intro c m;cases m with|zero=>simp|succ m=>have:=c x (by simp);rw[rJ,tT,tT,ih (fun y E=>c y (by simp[E])) m,List.take_append,this,pA,show m*k+k-k=m*k by omega,List.take_of_length_le (l:=x.1) (by omega)]);exact A i (fun x c=>(s x c).1) m);refine⟨i.take m,by rw[<-q,List.map_take],⟨?_,.inr ⟨g,cap,j,by rw[b],u,z,by omega,p,o,?_⟩⟩,fun e=>?_,fun x c=>s x (List.mem_of_mem_take c)⟩;(·rw[f,r8,r.1,b];have:m*k<=l.length*k:=pF k hm;omega);(·rw[b,f,<-C,oD];have:m*k<=l.length*k:=pF k hm;rw[oE this]);·rw[e]at b;simp at b;omega
end
end
theorem PX:(134:Nat)≠5:=by
 decide
theorem yT:(134:Nat)≠122:=by
 decide
def Do(w:L)(b o:Nat)(c:Xy):Prop:=∃vs,w.cell? ⟨b,o,M⟩=O (tE tG c.turn)∧w.cell? ⟨b,o+1,M⟩=O vs∧QN w vs c.writes
theorem Do.grown{w w':L}{b o:Nat}{c:Xy}(h:Do w b o c)(hg:Y w w' M):Do w' b o c:=by
 obtain⟨e,a,d,h⟩:=h;exact⟨e,hg.cell a (by simp),hg.cell d (by simp),h.grown hg⟩
def YW(w:L)(v:N)(l:List Xy):Prop:=∃a cap,v=S a l.length cap∧l.length<=cap∧((l=[]∧(a=M->cap=0))∨∃b o,a=O ⟨b,o,M⟩∧∀i,i<l.length->Do w b (o+i*2) (l.getD i Zh))
theorem RA(w:L):YW w (S M 0 0) []:=⟨M,0,rfl,sE _,.inl ⟨rfl,fun _=>rfl⟩⟩
theorem YW.shape{w:L}{v:N}{l:List Xy}(h:YW w v l):∃a cap,v=S a l.length cap:=by
 obtain⟨a,cap,rfl,_⟩:=h;exact⟨a,cap,rfl⟩
theorem YW.grown{w w':L}{v:N}{l:List Xy}(h:YW w v l)(hg:Y w w' M):YW w' v l:=by
 obtain⟨a,cap,rfl,c,h⟩:=h;refine⟨a,cap,rfl,c,?_⟩;rcases h with h|⟨b,o,rfl,h⟩;·exact .inl h
 ·exact .inr ⟨b,o,rfl,fun i d=>(h i d).grown hg⟩
theorem YW.at{w:L}{a:Option rH}{n cap:Nat}{l:List Xy}(h:YW w (S a n cap) l)(i:Nat)(hi:i<l.length):∃b o,a=O ⟨b,o,M⟩∧Do w b (o+i*2) (l.getD i Zh):=by
 obtain⟨d,c,e,f,h⟩:=h;simp only[tM]at e;obtain⟨rfl,rfl,rfl⟩:=e;rcases h with⟨rfl,_⟩|⟨b,o,rfl,h⟩;·simp at hi
 ·exact⟨b,o,rfl,h i hi⟩
structure Bh (l : List Xy) : Prop where
  many : l.length * 32 <= 140737488355328
  each : ∀ i, i < l.length -> ER (l.getD i Zh)
abbrev CV:=Xy×N
def jC(us:List CV):List N:=us.flatMap fun x=>[tE tG x.1.turn,x.2]
theorem Nq(a b:List CV):jC (a++b)=jC a++jC b:=by
 simp[jC]
theorem cI:(tC.info? 134).map (fun i=>(i.zero,i.size,i.bytes))=O (O (sU #[tE tG 0,S M 0 0]),2,32):=by
 kernel_rfl
def YU(base:Nat)(w:L)(v:N)(l:List Xy):Prop:=∃us:List CV,us.map (·.1)=l∧w.ownsRow base 134 2 v l.length (jC us)∧(l=[]->v=S M 0 0)∧∀x∈us,Xg 0 w x.2 x.1.writes
theorem Dr(base:Nat)(w:L):YU base w (S M 0 0) []:=⟨[],rfl,sN _ _ _ _,fun _=>rfl,fun x hx=>by
 simp at hx⟩
theorem YU.row{base:Nat}{w:L}{v:N}{l:List Xy}(h:YU base w v l):v.ownBlock=M∨∃g cur t fz,v.ownBlock=O g∧base<=g∧w.heap[g]?=O (tD cur t fz)∧t≠5∧t≠122:=by
 obtain⟨c,_,h,_⟩:=h;rcases h.2with⟨rfl,_⟩|⟨g,cap,cur,rfl,a,b,_⟩;·exact .inl rfl
 ·exact .inr ⟨g,cur,_,_,rfl,a,b,PX,yT⟩
theorem YU.row0{base:Nat}{w:L}{v:N}{l:List Xy}(h:YU base w v l):v.ownBlock=M∨∃g cur t fz,v.ownBlock=O g∧0<=g∧w.heap[g]?=O (tD cur t fz)∧t≠5∧t≠122:=by
 rcases h.row with h|⟨g,cur,t,fz,a,_,b⟩;·exact .inl h
 ·exact .inr ⟨g,cur,t,fz,a,tU _,b⟩
theorem YU.lt{base:Nat}{w:L}{v:N}{l:List Xy}(h:YU base w v l):∀k,v.ownBlock=O k->base<=k∧k<w.heap.size:=by
 obtain⟨a,_,h,_⟩:=h;exact sI h
theorem YU.grownNone{base:Nat}{w w':L}{v:N}{l:List Xy}(h:YU base w v l)(hg:Y w w' M):YU base w' v l:=by
 obtain⟨f,b,c,a,d⟩:=h;refine⟨f,b,tW c hg ?_,a,fun x e=>(d x e).kept hg (.inl rfl)⟩;cases hv:v.ownBlock with|none=>exact .inl rfl|some k=>exact .inr (by simp)
theorem YU.shape{base:Nat}{w:L}{v:N}{l:List Xy}(h:YU base w v l):∃a cap,v=S a l.length cap:=by
 obtain⟨d,_,h,_⟩:=h;rcases h.2with⟨rfl,c⟩|⟨g,cap,b,rfl,_⟩;·exact⟨M,0,by rw[c]⟩
 ·exact⟨_,cap,rfl⟩
theorem BA{base:Nat}{w W w1:L}{v:N}{l:List Xy}(h:Y w W M)(ho:YU base W v l)(hb:w.heap.size<=base)(hg:Y W w1 v.ownBlock):Y w w1 M:=⟨hg.os.trans h.os,hg.tape.trans h.tape,hg.output.trans h.output,tS h.size hg.size,fun i a b=>(hg.block i (tL a h.size) (fun e=>by
 have:=(ho.lt i e.symm).1;omega)).trans (h.block i a b)⟩
theorem Rf{w:L}{o:rK}{a:Act}{K:Act->L->Prop}{Q:Exit->Act->L->Prop}(s x:rI)(ho:o.op=.call {callee:=.builtin .append,args:=#[s,x],argTypes:=#[67,67]})(base:Nat)(v:N)(l:List Xy)(hs:a.eval s=v)(hown:YU base w v l)(vw:N)(c:Xy)(hw:Xg 0 w vw c.writes)(nb:Nat)(hb:w.heap[nb]?=O (tD #[tE tG c.turn,vw] 134))(hx:a.eval x=S (O ⟨nb,0,M⟩) 1 1)(hl:(l.length+1)*32<=140737488355328)(hbase:base<=w.heap.size)(h:∀v' w',YU base w' v' (l++[c])->Y w w' v.ownBlock->K (a.put o.dst v') w'):o.wp tC a w K Q:=by
 obtain⟨z,q,i,j,k⟩:=rY cI;have b:=hown.row0;obtain⟨p,f,t,_,r⟩:=hown;refine wp_append_lies w s x 67 ho base 134 z (sU #[tE tG 0,S M 0 0]) 2 32 Tryz.underlying67 q i j k rfl (by decide) v l.length (jC p) hs t ⟨nb,0,M⟩ 1 1 (jC [(c,vw)]) hx rfl (rA (cs:=#[tE tG c.turn,vw]) hb) ?_ (by omega) (by unfold pJ;omega) hl hbase _ rfl ?_;·intro u n;simp only[jC,tT,rG,sD,tN,tQ,or_false]at n;rcases n with rfl|rfl;(·rfl);·exact hw.oneCell
 ·intro g cap w' A m _ _;refine h _ w' ⟨p++[(c,vw)],by simp[f],?_,fun e=>by simp at e,?_⟩ m;(·rw[Nq,tH];exact A);·intro y d;rcases sB.1 d with d|d;(·exact(r y d).kept m b);·simp only[tN,tQ,or_false]at d;subst d;exact hw.kept m b
theorem jT{w:L}{ops:Array rK}{rest:List rK}{o:rK}{a:Act}{Q:Exit->Act->L->Prop}(hgd:o.guard=M)(s x:rI)(ho:o.op=.call {callee:=.builtin .append,args:=#[s,x],argTypes:=#[67,67]})(base:Nat)(v:N)(l:List Xy)(hs:a.eval s=v)(hown:YU base w v l)(vw:N)(c:Xy)(hw:Xg 0 w vw c.writes)(nb:Nat)(hb:w.heap[nb]?=O (tD #[tE tG c.turn,vw] 134))(hx:a.eval x=S (O ⟨nb,0,M⟩) 1 1)(hl:(l.length+1)*32<=140737488355328)(hbase:base<=w.heap.size)(h:∀v' w',YU base w' v' (l++[c])->Y w w' v.ownBlock->wpList tC ops Q rest (a.put o.dst v') w'):wpList tC ops Q (o::rest) a w:=wpList_plain hgd fun _ e=>Rf s x ho base v l hs hown vw c hw nb hb hx hl hbase fun v' w' b d=>e _ _ (h v' w' b d)
theorem YU.ne{base:Nat}{w:L}{v:N}{l:List Xy}(h:YU base w v l){b:Nat}{cs:Array N}{t:sA}{fz:Nat×Nat}(hb:w.heap[b]?=O (tD cs t fz))(ht:t≠134):v.ownBlock≠O b:=by
 intro e;obtain⟨d,_,h,_⟩:=h;rcases h.2with⟨rfl,_⟩|⟨g,cap,c,rfl,_,a,_⟩;·cases e
 ·cases e;rw[hb]at a;simp only[tF,tZ]at a;exact ht a.2.1
theorem YU.setOther{base:Nat}{w:L}{v:N}{l:List Xy}(h:YU base w v l){b i:Nat}{cs:Array N}{t:sA}{fz:Nat×Nat}(hb:w.heap[b]?=O (tD cs t fz))(ht:t≠5)(ht2:t≠122)(ht3:t≠134)(u:N):YU base (tI w ⟨b,i,M⟩ u) v l:=by
 have a:=h.ne hb ht3;obtain⟨j,d,e,c,f⟩:=h;exact⟨j,d,tW e (Yz w b i u) (.inr a),c,fun x g=>(f x g).kept (Yz w b i u) (.inr ⟨b,cs,t,fz,rfl,tU _,hb,ht,ht2⟩)⟩
theorem YU.other{base:Nat}{w w':L}{v:N}{l:List Xy}(h:YU base w v l)(hg:Y w w' v.ownBlock){b:Nat}{cs:Array N}{t:sA}{fz:Nat×Nat}(hb:w.heap[b]?=O (tD cs t fz))(ht:t≠134):w'.heap[b]?=O (tD cs t fz):=by
 rw[hg.block b (tJ.1 hb).1 (fun e=>h.ne hb ht e.symm)];exact hb
def Wf:Prop:=∀(w:L)(v u:N)(t:Tx)(r:Rd),GD w v t->zS t->Yl w u r->Pq r->rB tC 58 #[v,u] w fun e w'=>∃x,e=tK (sJ #[x,tE tG (Xe t r)])∧Gy w' x (XZ t r)∧Y w w' M
theorem Qk(w:L)(o:Obj):∃W:L,Hid (W=w.alloc o)∧Y w W M∧Hid (W.heap[w.heap.size]?=O o):=⟨w.alloc o,rfl,sO _ _ _,oJ w o⟩
theorem ZQ{x y:Int}(h:x=y):tK (tE tG y)=tK (tE tG x):=by
 rw[h]
theorem Z6{x y:Bool}(h:x=y):tK (tR y)=tK (tR x):=by
 rw[h]
theorem Xv{W w:L}{b:Nat}{x y z:N}{t:sA}(hg:Y W w M)(h:W.heap[b]?=O (tD #[x,y,z] t)):w.cell? ⟨b,0,M⟩=O x∧w.cell? ⟨b,1,M⟩=O y∧w.cell? ⟨b,2,M⟩=O z:=by
 have a:w.heap[b]?=O (tD #[x,y,z] t):=by rw[hg.block b (tJ.1 h).1 (by simp)];exact h
 refine⟨?_,?_,?_⟩<;>simp[tX,a]
def NH(p:List Rd)(r:Rd):Int:=if Xx r=0then(if p.any (fun q=>Xz q r)=tA then 3 else 0)else Xx r
def Mp(p:List Zc)(w:Zc):Int:=if QA w=0then(if p.any (fun q=>ZH q w)=tA then 3 else 0)else QA w
theorem OO(l:List Rd)(m:Nat)(h:m<l.length):GC (l.take m) (l.drop m)=if NH (l.take m) (l.getD m Zb)=0then GC (l.take (m+1)) (l.drop (m+1))else NH (l.take m) (l.getD m Zb):=by
 rw[sX h,GC,sZ h,show l[m]=l.getD m Zb by simp[h]];unfold NH;by_cases a:Xx (l.getD m Zb)=0;·rw[if_pos a,if_pos a];by_cases b:(l.take m).any (fun q=>Xz q (l.getD m Zb))=tA;(·rw[if_pos b,if_pos b,if_neg (by omega)]);·rw[if_neg b,if_neg b,if_pos rfl]
 ·rw[if_neg a,if_neg a,if_neg a]
theorem O1(l:List Zc)(m:Nat)(h:m<l.length):xD (l.take m) (l.drop m)=if Mp (l.take m) (l.getD m Qo)=0then xD (l.take (m+1)) (l.drop (m+1))else Mp (l.take m) (l.getD m Qo):=by
 rw[sX h,xD,sZ h,show l[m]=l.getD m Qo by simp[h]];unfold Mp;by_cases a:QA (l.getD m Qo)=0;·rw[if_pos a,if_pos a];by_cases b:(l.take m).any (fun q=>ZH q (l.getD m Qo))=tA;(·rw[if_pos b,if_pos b,if_neg (by omega)]);·rw[if_neg b,if_neg b,if_pos rfl]
 ·rw[if_neg a,if_neg a,if_neg a]
theorem Pp{α:Type}(d:α)(f:α->Bool)(l:List α)(k:Nat)(h:k<l.length):(l.take (k+1)).any f=((l.take k).any f||f (l.getD k d)):=by
 rw[sZ h,List.any_append,show l[k]=l.getD k d by simp[h]];simp
theorem Ec{α:Type}(d:α)(f:α->Bool)(l:List α)(k m:Nat)(hk:k<m)(hm:m<=l.length)(h:f (l.getD k d)=tA):(l.take m).any f=tA:=by
 rw[rF];refine⟨l.getD k d,?_,h⟩;rw[show l.getD k d=(l.take m)[k]'(by rw[r8];omega)by rw[List.getElem_take];simp[show k<l.length by omega]];exact sQ _
theorem zG{w:L}{a:Option rH}{n cap:Nat}{l:List Rd}(h:ZY w (S a n cap) l)(i:Nat)(hi:i<l.length):∃b o,a=O ⟨b,o,M⟩∧∃u1 u2 u3 u4 u5 u6,(w.cell? ⟨b,o+i*4,M⟩=O (S u1 (l.getD i Zb).name.length u2)∧w.cell? ⟨b,o+i*4+1,M⟩=O (S u3 (l.getD i Zb).key.length u4)∧w.cell? ⟨b,o+i*4+2,M⟩=O (tR (l.getD i Zb).wide)∧w.cell? ⟨b,o+i*4+3,M⟩=O (S u5 (l.getD i Zb).last.length u6))∧Yl w (sU #[S u1 (l.getD i Zb).name.length u2,S u3 (l.getD i Zb).key.length u4,tR (l.getD i Zb).wide,S u5 (l.getD i Zb).last.length u6]) (l.getD i Zb):=by
 obtain⟨b,o,rfl,c⟩:=h.at i hi;obtain⟨r,p,q,g,j,k,m,d,e,f⟩:=c;obtain⟨u1,u2,rfl⟩:=d.shape;obtain⟨u3,u4,rfl⟩:=e.shape;obtain⟨u5,u6,rfl⟩:=f.shape;exact⟨b,o,rfl,u1,u2,u3,u4,u5,u6,⟨g,j,k,m⟩,⟨_,_,_,rfl,d,e,f⟩⟩
theorem X6{w:L}{a:Option rH}{n cap:Nat}{l:List Zc}(h:QN w (S a n cap) l)(i:Nat)(hi:i<l.length):∃b o,a=O ⟨b,o,M⟩∧∃u1 u2 u3 u4 u5 u6,(w.cell? ⟨b,o+i*4,M⟩=O (S u1 (l.getD i Qo).name.length u2)∧w.cell? ⟨b,o+i*4+1,M⟩=O (S u3 (l.getD i Qo).key.length u4)∧w.cell? ⟨b,o+i*4+2,M⟩=O (tR (l.getD i Qo).gone)∧w.cell? ⟨b,o+i*4+3,M⟩=O (S u5 (l.getD i Qo).value.length u6))∧ZZ w (sU #[S u1 (l.getD i Qo).name.length u2,S u3 (l.getD i Qo).key.length u4,tR (l.getD i Qo).gone,S u5 (l.getD i Qo).value.length u6]) (l.getD i Qo):=by
 obtain⟨b,o,rfl,c⟩:=h.at i hi;obtain⟨r,p,q,g,j,k,m,d,e,f⟩:=c;obtain⟨u1,u2,rfl⟩:=d.shape;obtain⟨u3,u4,rfl⟩:=e.shape;obtain⟨u5,u6,rfl⟩:=f.shape;exact⟨b,o,rfl,u1,u2,u3,u4,u5,u6,⟨g,j,k,m⟩,⟨_,_,_,rfl,d,e,f⟩⟩
theorem Rl{x y:Bool}{a b:Int}(h:x=y)(k:a=b):tK (sJ #[tR y,tE tG b])=tK (sJ #[tR x,tE tG a]):=by
 rw[h,k]
theorem IC{α:Type}(f:α->Bool)(l:List α)(d:α)(i:Nat)(hi:i<l.length)(h:f (l.getD i d)=tA):l.any f=tA:=by
 have:=Ec d f l i l.length hi (sE _) h;rw[sG]at this;exact this
theorem qO:(72:Nat)≠5:=by
 decide
theorem jI:(72:Nat)≠140:=by
 decide
theorem GH:(72:Nat)≠122:=by
 decide
theorem ZD.block{rb pb:Nat}{W w':L}{v:N}{l:List Rd}(ho:ZD rb pb W v l)(hg:Y W w' v.ownBlock){b:Nat}{cs:Array N}{t:sA}{fz:Nat×Nat}(h:W.heap[b]?=O (tD cs t fz))(ht:t≠140):w'.heap[b]?=O (tD cs t fz):=by
 rw[hg.block b (tJ.1 h).1 (fun e=>ho.ne h ht e.symm)];exact h
theorem QU.block{rb pb:Nat}{W w':L}{v:N}{l:List Zc}(ho:QU rb pb W v l)(hg:Y W w' v.ownBlock){b:Nat}{cs:Array N}{t:sA}{fz:Nat×Nat}(h:W.heap[b]?=O (tD cs t fz))(ht:t≠122):w'.heap[b]?=O (tD cs t fz):=by
 rw[hg.block b (tJ.1 h).1 (fun e=>ho.ne h ht e.symm)];exact h
theorem ZD.keptV{rb rb':Nat}{W w':L}{v u:N}{l:List Rd}{k:List Zc}(hR:ZD rb 0 W v l)(hV:QU rb' 0 W u k)(hg:Y W w' u.ownBlock):ZD rb 0 w' v l:=by
 refine hR.kept hg ?_ ?_;·rcases hR.row with h|⟨g,a,b,e,_,h⟩;(·exact .inl h);·refine .inr ?_;rw[e];exact fun c=>hV.ne h (fun e=>fS e) c.symm
 ·rcases hV.row with h|⟨g,a,b,e,_,h⟩;(·exact .inl h);·exact .inr ⟨g,a,_,b,e,tU _,h,kK⟩
theorem QG{w:L}{b:Nat}{x y z:N}{t:sA}(h:w.heap[b]?=O (tD #[x,y,z] t)):(w.cell? ⟨b,0,M⟩=O x∧w.cell? ⟨b,1,M⟩=O y∧w.cell? ⟨b,2,M⟩=O z)∧w.frozen? ⟨b,0,M⟩=tB∧w.frozen? ⟨b,1,M⟩=tB∧w.frozen? ⟨b,2,M⟩=tB:=by
 refine⟨⟨?_,?_,?_⟩,?_,?_,?_⟩<;>simp[tX,r7,h]
theorem UE{rb:Nat}{w wr:L}{RB:Nat}{x y z:N}{st:Int}{va ua:Option rH}{n m vc uc:Nat}{R:List Rd}{V:List Zc}(h:wr.heap[RB]?=O (tD #[x,y,z] 72))(hR:ZD rb 0 wr (S va n vc) R)(hV:QU rb 0 wr (S ua m uc) V)(hg:Y w wr M)(hw:w.heap.size<=RB):((((tI wr ⟨RB,0,M⟩ (tE tG st)).setCell ⟨RB,1,M⟩ (S va n vc)).setCell ⟨RB,2,M⟩ (S ua m uc)).cell? ⟨RB,0,M⟩=O (tE tG st)∧(((tI wr ⟨RB,0,M⟩ (tE tG st)).setCell ⟨RB,1,M⟩ (S va n vc)).setCell ⟨RB,2,M⟩ (S ua m uc)).cell? ⟨RB,1,M⟩=O (S va n vc)∧(((tI wr ⟨RB,0,M⟩ (tE tG st)).setCell ⟨RB,1,M⟩ (S va n vc)).setCell ⟨RB,2,M⟩ (S ua m uc)).cell? ⟨RB,2,M⟩=O (S ua m uc))∧ZD rb 0 (((tI wr ⟨RB,0,M⟩ (tE tG st)).setCell ⟨RB,1,M⟩ (S va n vc)).setCell ⟨RB,2,M⟩ (S ua m uc)) (S va n vc) R∧QU rb 0 (((tI wr ⟨RB,0,M⟩ (tE tG st)).setCell ⟨RB,1,M⟩ (S va n vc)).setCell ⟨RB,2,M⟩ (S ua m uc)) (S ua m uc) V∧Y w (((tI wr ⟨RB,0,M⟩ (tE tG st)).setCell ⟨RB,1,M⟩ (S va n vc)).setCell ⟨RB,2,M⟩ (S ua m uc)) M:=by
 have a:=Qj (i:=0) (u:=tE tG st) h;have b:=Qj (i:=1) (u:=S va n vc) a;have c:=Qj (i:=2) (u:=S ua m uc) b;exact⟨(QG (x:=tE tG st) (y:=S va n vc) (z:=S ua m uc) c).1,((hR.setOther h qO jI (tU _) _).setOther a qO jI (tU _) _).setOther b qO jI (tU _) _,((hV.setOther h qO GH (tU _) _).setOther a qO GH (tU _) _).setOther b qO GH (tU _) _,Qc (Qc (Qc hg _ hw _ _) _ hw _ _) _ hw _ _⟩
theorem QU.keptR{rb rb':Nat}{W w':L}{v u:N}{l:List Zc}{k:List Rd}(hV:QU rb 0 W v l)(hR:ZD rb' 0 W u k)(hg:Y W w' u.ownBlock):QU rb 0 w' v l:=by
 refine hV.kept hg ?_ ?_;·rcases hV.row with h|⟨g,a,b,e,_,h⟩;(·exact .inl h);·refine .inr ?_;rw[e];exact fun c=>hR.ne h (fun e=>fS e.symm) c.symm
 ·rcases hR.row with h|⟨g,a,b,e,_,h⟩;(·exact .inl h);·exact .inr ⟨g,a,_,b,e,tU _,h,e9⟩
theorem Gp{w:L}{v1 v2:N}{st:Int}{R:List Rd}{V:List Zc}{rb:Nat}{t:Tx}(e:t=⟨st,R,V⟩)(h1:ZD rb 0 w v1 R)(h2:QU rb 0 w v2 V):Gy w (sU #[tE tG st,v1,v2]) t:=by
 subst e;exact⟨_,_,rfl,h1.down 0 (tU _),h2.down 0 (tU _)⟩
theorem UC{v:N}{a b:Int}(h:a=b):tK (sJ #[v,tE tG b])=tK (sJ #[v,tE tG a]):=by
 rw[h]
theorem SQ:∀(l:List Zc)(w:Zc)(m:Nat),m<l.length->(l.take m).any (fun q=>ZH q w)=tB->ZH (l.getD m Qo) w=tA->zJ l w=l.set m w|[],_,_,h,_,_=>by simp at h|a::l,w,0,_,_,h=>by have b:ZH a w=tA:=h;rw[zJ,if_pos b];rfl|a::l,w,m+1,h0,h1,h2=>by rw[rJ,pG,rT]at h1;rw[zJ,if_neg (by rw[h1.1];decide),pP,SQ l w m (by simpa using h0) h1.2 (by simpa using h2)]
theorem MF:∀(l:List Zc)(w:Zc),l.any (fun q=>ZH q w)=tB->zJ l w=l++[w]|[],_,_=>rfl|a::l,w,h=>by rw[pG,rT]at h;rw[zJ,if_neg (by rw[h.1];decide),MF l w h.2];rfl
theorem QU.zero{rb:Nat}{w:L}{b o n cap:Nat}{l:List Zc}(h:QU rb 0 w (S (O ⟨b,o,M⟩) n cap) l):o=0:=by
 obtain⟨k,j,d,i⟩:=h;rcases d.2with⟨e,_⟩|⟨f,a,c,e,_⟩;·cases e
 ·simp only[tM,tF,rO]at e;exact e.1.2.1
theorem QU.frozenT{rb:Nat}{w:L}{g n cap:Nat}{l:List Zc}(h:QU rb 0 w (S (O ⟨g,0,M⟩) n cap) l)(j:Nat):w.frozen? ⟨g,j,M⟩=tB:=by
 obtain⟨o,m,d,i⟩:=h;rcases d.2with⟨e,_⟩|⟨f,a,b,e,k,c,_⟩;·cases e
 ·simp only[tM,tF,rO]at e;obtain⟨⟨rfl,_⟩,_⟩:=e;simp[r7,c]
theorem Rn:∀(us:List WV)(i:Nat)(x:WV),YS (us.set i x)=((((YS us).set (i*4) x.2.1).set (i*4+1) x.2.2.1).set (i*4+2) (tR x.1.gone)).set (i*4+3) x.2.2.2|[],i,x=>by simp[YS]|y::us,0,x=>by simp[YS]|y::us,i+1,x=>by have a:=Rn us i x;(have e:∀us:List WV,YS (y::us)=y.2.1::y.2.2.1::tR y.1.gone::y.2.2.2::YS us:=fun us=>by simp[YS]);rw[pP,e,e,a,show(i+1)*4=i*4+4by omega];rfl
theorem QU.setT{rb:Nat}{w:L}{g n cap:Nat}{l:List Zc}(h:QU rb 0 w (S (O ⟨g,0,M⟩) n cap) l)(i:Nat)(vn vk vv:N)(p:Zc)(h1:Qh 0 w vn p.name)(h2:Qh 0 w vk p.key)(h3:Qh 0 w vv p.value):QU rb 0 ((((tI w ⟨g,i*4,M⟩ vn).setCell ⟨g,i*4+1,M⟩ vk).setCell ⟨g,i*4+2,M⟩ (tR p.gone)).setCell ⟨g,i*4+3,M⟩ vv) (S (O ⟨g,0,M⟩) n cap) (l.set i p):=by
 obtain⟨r,d,y,k⟩:=h;have b:Y w ((((tI w ⟨g,i*4,M⟩ vn).setCell ⟨g,i*4+1,M⟩ vk).setCell ⟨g,i*4+2,M⟩ (tR p.gone)).setCell ⟨g,i*4+3,M⟩ vv) (O g):=Qg (Qg (Qg (Qg (Qb _ _) _ _) _ _) _ _) _ _;rcases y.2with⟨e,_⟩|⟨j,o,c,e,s,q,v,u,z,A⟩;·cases e
 ·simp only[tM,tF,rO]at e;obtain⟨⟨rfl,_⟩,rfl,rfl⟩:=e;have a:(O g:Option Nat)=M∨∃j c t fz,(O g:Option Nat)=O j∧0<=j∧w.heap[j]?=O (tD c t fz)∧t≠5:=.inr ⟨g,c,_,_,rfl,tU _,q,kK⟩;(have m:r.length=l.length:=by rw[<-d];simp);refine⟨r.set i (p,vn,vk,vv),by rw[List.map_set,d],⟨by rw[LP,rU,rU,m],.inr ⟨g,cap,_,by rw[rU],s,Qj (Qj (Qj (Qj q))),by rw[rU];exact v,u,by simpa using z,?_⟩⟩,?_⟩;(·rw[Rn,rU];simp only[Array.toList_setIfInBounds];rw[pH,pH,pH,pH,A]);·intro x f;rcases List.mem_or_eq_of_mem_set f with f|rfl;(·exact⟨(k x f).1.keptT b a,(k x f).2.1.keptT b a,(k x f).2.2.keptT b a⟩);·exact⟨h1.keptT b a,h2.keptT b a,h3.keptT b a⟩
def KW(n k:List UInt8)(q:Zc):Bool:=tV (q.name=n)&&tV (q.key=k)
theorem Cr{α:Type}(p:α->Bool)(d:α):∀(l:List α)(m:Nat),m<l.length->(l.take m).any p=tB->p (l.getD m d)=tA->l.find? p=O (l.getD m d)|[],_,h,_,_=>by simp at h|a::l,0,_,_,h=>by have b:p a=tA:=h;rw[List.find?_cons_of_pos b];rfl|a::l,m+1,h0,h1,h2=>by rw[rJ,pG,rT]at h1;rw[List.find?_cons_of_neg (by rw[h1.1];decide),Cr p d l m (by simpa using h0) h1.2 (by simpa using h2)];simp
theorem S7{α:Type}(p:α->Bool)(l:List α)(h:l.any p=tB):l.find? p=M:=by
 rw[List.find?_eq_none];intro x b a;rw[List.any_eq_false]at h;exact h x b a
theorem eD{l:List Zc}{n k:List UInt8}{m:Nat}(h:m<l.length)(h1:(l.take m).any (KW n k)=tB)(h2:KW n k (l.getD m Qo)=tA):fH l n k=O (l.getD m Qo):=Cr (KW n k) Qo l m h h1 h2
theorem aX{l:List Zc}{n k:List UInt8}(h:l.any (KW n k)=tB):fH l n k=M:=S7 (KW n k) l h
theorem Ik{l:FL}{t:Tx}{n k:List UInt8}(h:Kd l t n k≠0):Vu l t n k=tB∧UW l t n k=tB∧UI l t n k=[]:=by
 rw[Vu,UW,UI,if_neg h,if_neg h,if_neg h];exact⟨rfl,rfl,rfl⟩
theorem bS{l:FL}{t:Tx}{n k:List UInt8}(h:zD l t≠0):Kd l t n k=zD l t:=by
 rw[Kd,if_neg h]
theorem MO{l:FL}{t:Tx}(h:zD l t=0):Xh l∧GZ t:=by
 unfold zD at h;by_cases a:QZ l=0;·rw[if_pos a]at h;exact⟨(XW l).1 a,(kG t).1 h⟩
 ·rw[if_neg a]at h;exact absurd h a
theorem OJ{l:FL}{t:Tx}{n k:List UInt8}(h:zD l t=0){m:Nat}(hm:m<t.writes.length)(h1:(t.writes.take m).any (KW n k)=tB)(h2:KW n k (t.writes.getD m Qo)=tA):Kd l t n k=0∧Vu l t n k=tA∧UW l t n k=!(t.writes.getD m Qo).gone∧UI l t n k=(t.writes.getD m Qo).value:=by
 obtain⟨f,e⟩:=MO h;have b:=eD hm h1 h2;have c:=Iy b;have d:=(XF _).1 (e.wrs _ c.1);rw[c.2.1,c.2.2]at d;have a:=Sf f e d.1 d.2.1;refine⟨a,?_,?_,?_⟩;·rw[Vu,if_pos a,b];rfl
 ·rw[UW,if_pos a,b]
 ·rw[UI,if_pos a,b]
theorem OG{l:FL}{t:Tx}{n k:List UInt8}(h:zD l t=0)(h1:t.writes.any (KW n k)=tB):Kd l t n k=Vr l n k∧Vu l t n k=tB∧UW l t n k=UU l n k∧UI l t n k=UV l n k:=by
 obtain⟨f,g⟩:=MO h;have d:=aX h1;have e:=(XW l).2 f;have c:Kd l t n k=Vr l n k:=by rw[Kd,if_pos h,Vr,GU,if_pos e];by_cases b:Qt n.length=0;(·rw[if_pos b,if_pos b,Z4,if_pos ((YE _).2 (K2 f n))]);·rw[if_neg b,if_neg b]
 refine⟨c,?_,?_,?_⟩;·rw[Vu,d];by_cases a:Kd l t n k=0;(·rw[if_pos a];rfl);·rw[if_neg a]
 ·rw[UW,d];by_cases a:Kd l t n k=0;(·rw[if_pos a]);·rw[if_neg a];rw[c]at a;rw[UU];by_cases b:GU l n=0;(·rw[Vr,if_pos b]at a;rw[if_pos b,Rt];simp[a]);·rw[if_neg b]
 ·rw[UI,d];by_cases a:Kd l t n k=0;(·rw[if_pos a]);·rw[if_neg a];rw[c]at a;rw[UV];by_cases b:GU l n=0;(·rw[Vr,if_pos b]at a;rw[if_pos b,Rv,if_neg a]);·rw[if_neg b]
theorem Wx{X:PL}(h:Zv X)(k:List UInt8):Zv (jP X k):=⟨tS (Sk X k) h.room,fun p hp=>h.pairs p (oC.1 hp).1,EO X k h.rises⟩
theorem MG{X:PL}(h:Zv X)(f u:List UInt8):Zv (UY X f u):=⟨tS (Hn X f u) h.room,fun p a=>h.pairs p (oC.1 a).1,Ch X f u h.rises⟩
theorem Lg{X:PL}(h:Zv X){p:Pr}(hp:(1<=p.1.length∧p.1.length<=16)∧p.2.length<=32)(hl:(JU X p).length<=60):Zv (JU X p):=⟨hl,El X p h.pairs hp,vQ X p h.rises⟩
theorem jJ(n a b:List UInt8)(w:Zc):XM ⟨n,a,tA,b⟩ w=tA↔w.name=n∧fU a b w.key=tA:=by
 show(tV (n=w.name)&&fU a b w.key)=tA↔_;rw[rP,decide_eq_true_iff];exact⟨fun h=>⟨h.1.symm,h.2⟩,fun h=>⟨h.1.symm,h.2⟩⟩
theorem WY{n a b:List UInt8}{w:Zc}(h:XM ⟨n,a,tA,b⟩ w=tB)(X:PL):KG n a b X w=X:=by
 rw[KG,if_neg];intro e;rw[(jJ n a b w).2 e]at h;cases h
theorem Oj{n a b:List UInt8}{w:Zc}(h:XM ⟨n,a,tA,b⟩ w=tA)(hg:w.gone=tA){X:PL}(hX:Zv X)(hw:QA w=0):Z4 X w.key=0∧zC X w.key=KG n a b X w∧Zv (KG n a b X w):=by
 have d:=((XF w).1 hw).2.1;have c:=vH hX d;have e:KG n a b X w=jP X w.key:=by rw[KG,if_pos ((jJ n a b w).1 h),if_pos hg]
 refine⟨c,by rw[e,zC,if_pos c],by rw[e];exact Wx hX _⟩
theorem OE{n a b:List UInt8}{w:Zc}(h:XM ⟨n,a,tA,b⟩ w=tA)(hg:w.gone=tB){X:PL}(hX:Zv X)(hw:QA w=0):KG n a b X w=JU X (w.key,w.value)∧(60<(KG n a b X w).length->JZ X (w.key,w.value)=11)∧(¬60<(KG n a b X w).length->JZ X (w.key,w.value)=0∧U8 X (w.key,w.value)=KG n a b X w∧Zv (KG n a b X w)):=by
 have d:=(XF w).1 hw;have i:w.value.length<=32:=by have:=d.2.2;rw[hg,if_neg (by decide)]at this;exact this
 have e:KG n a b X w=JU X (w.key,w.value):=by rw[KG,if_pos ((jJ n a b w).1 h),hg,if_neg (by decide)]
 have f:VK X (w.key,w.value)=0:=by rw[VK,if_pos ((YE X).2 hX)];exact(Jo _).2 ⟨d.2.1,i⟩
 refine⟨e,fun c=>?_,fun c=>?_⟩;·rw[e]at c;rw[JZ,if_pos f,if_pos c]
 ·rw[e]at c;(have g:JZ X (w.key,w.value)=0:=by rw[JZ,if_pos f,if_neg c]);refine⟨g,by rw[e,U8,if_pos g],?_⟩;rw[e];exact Lg hX ⟨d.2.1,i⟩ (by omega)
def Jr(n a b:List UInt8)(X:PL)(ws:List Zc):Int×PL:=(kD n a b X ws,if kD n a b X ws=0then AF n a b X ws else[])
theorem A6(n a b:List UInt8)(X:PL):Jr n a b X []=(0,X):=rfl
theorem v8{n a b:List UInt8}{X:PL}{ws:List Zc}{m:Nat}(hm:m<ws.length)(h:¬60<(KG n a b X (ws.getD m Qo)).length):Jr n a b X (ws.drop m)=Jr n a b (KG n a b X (ws.getD m Qo)) (ws.drop (m+1)):=by
 rw[sX hm,show ws[m]=ws.getD m Qo by simp[hm]];rw[Jr,Jr,kD,if_neg h];rfl
theorem Ds{n a b:List UInt8}{X:PL}{ws:List Zc}{m:Nat}(hm:m<ws.length)(h:60<(KG n a b X (ws.getD m Qo)).length):Jr n a b X (ws.drop m)=(11,[]):=by
 rw[sX hm,show ws[m]=ws.getD m Qo by simp[hm]];rw[Jr,kD,if_pos h,if_neg (by decide)]
theorem aS{l:FL}{t:Tx}{n a b:List UInt8}(h:zD l t≠0):Kf l t n a b=zD l t∧VI l t n a b=[]:=by
 have e:Kf l t n a b=zD l t:=by rw[Kf,if_neg h]
 exact⟨e,by rw[VI,e,if_neg h]⟩
theorem As{l:FL}{t:Tx}{n a b:List UInt8}(h:zD l t=0)(h1:Yu l n a b≠0):Kf l t n a b=Yu l n a b∧VI l t n a b=[]:=by
 obtain⟨j,k⟩:=MO h;have f:=(XW l).2 j;have e:Kf l t n a b=Yu l n a b:=by(have g:Yu l n a b=if Qt n.length=0then(if Qn a.length=0then Qn b.length else Qn a.length)else Qt n.length:=by rw[Yu,GU,if_pos f];by_cases c:Qt n.length=0;(·rw[if_pos c,if_pos c,Ys,Z4,if_pos ((YE _).2 (K2 j n))]);·rw[if_neg c,if_neg c]);rw[Kf,if_pos h,g];by_cases c:Qt n.length=0;(·rw[if_pos c,if_pos c];by_cases d:Qn a.length=0;(·rw[if_pos d,if_pos d];by_cases i:Qn b.length=0;(·rw[g,if_pos c,if_pos d]at h1;exact absurd i h1);·rw[if_neg i]);·rw[if_neg d,if_neg d]);·rw[if_neg c,if_neg c]
 exact⟨e,by rw[VI,e,if_neg h1]⟩
theorem Bo{l:FL}{t:Tx}{n a b:List UInt8}(h:zD l t=0)(h1:Yu l n a b=0):Jr n a b (J4 l n a b) t.writes=(Kf l t n a b,VI l t n a b)∧Zv (J4 l n a b):=by
 obtain⟨g,p⟩:=MO h;have o:=(XW l).2 g;have c:GU l n=0:=by by_cases c:GU l n=0;(·exact c);·rw[Yu,if_neg c]at h1;exact absurd h1 c
 have d:Ys (Y0 l n) a b=0:=by rw[Yu,if_pos c]at h1;exact h1
 have i:=C1 d;have m:Qn b.length=0:=by rw[Ys,if_pos i]at d;exact d
 have k:Qn a.length=0:=(Zr _).2 (IQ i);have f:Qt n.length=0:=(Zt _).2 (qG c).2;have e:J4 l n a b=UY (Y0 l n) a b:=by rw[J4,if_pos c,Kw,if_pos d]
 have j:Kf l t n a b=kD n a b (UY (Y0 l n) a b) t.writes:=by rw[Kf,if_pos h,if_pos f,if_pos k,if_pos m]
 refine⟨?_,by rw[e];exact MG (K2 g n) a b⟩;rw[e,Jr,VI,j]
def Hm:Prop:=∀(w:L)(v:N)(t:Tx),GD w v t->zS t->rB tC 62 #[v] w fun e w'=>e=tK (tE tG (V1 t))∧Y w w' M
def WS:Prop:=∀(w:L)(v:N)(l:PL),Qq w v l->kM l->rB tC 103 #[v] w fun e w'=>e=tK (tE tG (Qz l))∧Y w w' M
theorem Fo{w:L}{o:rK}{a:Act}{K:Act->L->Prop}{Q:Exit->Act->L->Prop}(s x:rI)(ho:o.op=.call {callee:=.builtin .append,args:=#[s,x],argTypes:=#[47,47]})(rb base:Nat)(hrb:base<=rb)(v:N)(l:PL)(hs:a.eval s=v)(hown:Ka rb base w v l)(vk vv:N)(p:Pr)(hk:Qh base w vk p.1)(hv:Qh base w vv p.2)(nb:Nat)(hb:w.heap[nb]?=O (tD #[vk,vv] 50))(hx:a.eval x=S (O ⟨nb,0,M⟩) 1 1)(hl:(l.length+1)*48<=140737488355328)(hbase:rb<=w.heap.size)(h:∀v' w',Ka rb base w' v' (l++[p])->Y w w' v.ownBlock->K (a.put o.dst v') w'):o.wp tC a w K Q:=by
 obtain⟨z,f,j,k,m⟩:=rY DI;have b:=hown.row hrb;obtain⟨r,e,y,n⟩:=hown;refine wp_append_lies w s x 47 ho rb 50 z (sU #[S M 0 0,S M 0 0]) 2 48 Tryz.underlying47 f j k m rfl (by decide) v l.length (flat r) hs y ⟨nb,0,M⟩ 1 1 (flat [(vk,vv)]) hx rfl (rA (cs:=#[vk,vv]) hb) ?_ (by omega) (by unfold pJ;omega) hl hbase _ rfl ?_;·intro u q;simp only[flat,tT,rG,sD,tN,tQ,or_false]at q;rcases q with rfl|rfl;(·exact Zz hk);·exact Zz hv
 ·intro g cap w' t d _ _;refine h _ w' ⟨r++[(vk,vv)],by simp[e],?_,?_⟩ d;(·rw[JE,tH];exact t);·intro i f;rw[Y6,Y6,e];by_cases c:i<l.length;(·rw[if_pos c,if_pos c];exact⟨(n i c).1.kept d b,(n i c).2.kept d b⟩);·rw[if_neg c,if_neg c];(obtain rfl:i=l.length:=by simp at f;omega);rw[oI];exact⟨hk.kept d b,hv.kept d b⟩
theorem VX{w:L}{ops:Array rK}{o:rK}{a:Act}{K:Act->L->Prop}{Q:Exit->Act->L->Prop}{E:Prop}(hgd:o.guard=M)(s x:rI)(ho:o.op=.call {callee:=.builtin .append,args:=#[s,x],argTypes:=#[47,47]})(rb base:Nat)(hrb:base<=rb)(v:N)(l:PL)(hs:a.eval s=v)(hown:Ka rb base w v l)(vk vv:N)(p:Pr)(hk:Qh base w vk p.1)(hv:Qh base w vv p.2)(nb:Nat)(hb:w.heap[nb]?=O (tD #[vk,vv] 50))(hx:a.eval x=S (O ⟨nb,0,M⟩) 1 1)(hl:(l.length+1)*48<=140737488355328)(hbase:rb<=w.heap.size)(h:∀v' w',Ka rb base w' v' (l++[p])->Y w w' v.ownBlock->K (a.put o.dst v') w'):if sH o (pE ops a.tmps)=tA then Oper.wp tC o a w K Q else E:=by
 have b:sH o (pE ops a.tmps)=tA:=by simp[sH,hgd]
 rw[if_pos b];exact Fo s x ho rb base hrb v l hs hown vk vv p hk hv nb hb hx hl hbase h
theorem T4(w:L):(sizeOf (tC.elem 47)).run tC w=.ok 2 w:=by
 kernel_rfl
theorem Qq.sliced{w:L}{a:Option rH}{cap:Nat}{l:PL}(h:Qq w (S a l.length cap) l)(i j:Nat)(hij:i<=j)(hj:j<=l.length):Qq w (sS a i j cap 2) ((l.take j).drop i):=by
 obtain⟨m,f,e,n,h⟩:=h;simp only[tM,true_and]at e;obtain⟨rfl,rfl⟩:=e;have c:((l.take j).drop i).length=j-i:=by simp;omega
 refine⟨if cap=i then a else a.map (·.add (i*2)),cap-i,by rw[c];rfl,by rw[c];omega,?_⟩;by_cases d:cap=i;·left;exact⟨tP (by rw[c];omega),fun _=>by omega⟩
 ·rw[if_neg d];rcases h with⟨rfl,h⟩|⟨b,o,rfl,h⟩;(·left;refine⟨by simp,fun e=>?_⟩;cases a with|none=>have:=h rfl;simp at hj;omega|some x=>cases e);·right;refine⟨b,o+i*2,by simp[ZU],fun k g=>?_⟩;rw[c]at g;have:=h (i+k) (by omega);(have e:((l.take j).drop i).getD k ([],[])=l.getD (i+k) ([],[]):=by simp[show i+k<j by omega]);rw[e,show o+i*2+k*2=o+(i+k)*2by omega];exact this
theorem uX(a:Option rH)(cap:Nat)(l:PL)(n:Nat)(hn:n<=l.length)(hc:l.length<=cap):∃a1 c1,(∀W,(rW 47 (S a l.length cap) M (O (tE tG (n:Int))) M).run tC W=.ok (S a1 n c1) W)∧∀W,Qq W (S a l.length cap) l->Qq W (S a1 n c1) (l.take n):=by
 refine⟨if cap=0then a else a.map (·.add (0*2)),cap-0,fun W=>?_,fun W h=>?_⟩;·rw[run_slice_h _ _ _ _ _ (by kernel_rfl) _ _ (by omega) (by omega),T4];simp only[rN,sS,rD,pI]
 ·have:=h.sliced 0 n (by omega) hn;simpa only[sS,oG,pI]using this
theorem vI(a:Option rH)(cap:Nat)(l:PL)(n:Nat)(hn:n<=l.length):∃a1 c1,(∀W,(rW 47 (S a l.length cap) (O (tE tG (n:Int))) M M).run tC W=.ok (S a1 (l.length-n) c1) W)∧∀W,Qq W (S a l.length cap) l->Qq W (S a1 (l.length-n) c1) (l.drop n):=by
 refine⟨if cap=n then a else a.map (·.add (n*2)),cap-n,fun W=>?_,fun W h=>?_⟩;·rw[run_slice_l _ _ _ _ _ (by kernel_rfl) _ _ (by omega) (by omega),T4];simp only[rN,sS,rD]
 ·have:=h.sliced n l.length hn (sE _);simpa only[sS,sG]using this
theorem Nc(a:Option rH)(cap:Nat)(l:PL)(i j:Nat)(hij:i<=j)(hj:j<=l.length)(hc:l.length<=cap):∃a1 c1,(∀W,(rW 47 (S a l.length cap) (O (tE tG (i:Int))) (O (tE tG (j:Int))) M).run tC W=.ok (S a1 (j-i) c1) W)∧∀W,Qq W (S a l.length cap) l->Qq W (S a1 (j-i) c1) ((l.take j).drop i):=by
 refine⟨if cap=i then a else a.map (·.add (i*2)),cap-i,fun W=>?_,fun W h=>?_⟩;·rw[run_slice_lh _ _ _ _ _ (by kernel_rfl) _ _ _ _ (by omega) (by omega) (by omega),T4];simp only[rN,sS,rD]
 ·have:=h.sliced i j hij hj;simpa only[sS]using this
theorem Qq.cap{w:L}{a:Option rH}{n cap:Nat}{l:PL}(h:Qq w (S a n cap) l):l.length<=cap:=by
 obtain⟨d,b,e,c,_⟩:=h;simp only[tM]at e;obtain⟨_,_,rfl⟩:=e;exact c
def OD:Prop:=∀(w:L)(v:N)(l:FL),ZI w v l->V2 l->rB tC 71 #[v] w fun e w'=>e=tK (tE tG (QZ l))∧Y w w' M
def MP:Prop:=∀(w:L)(v u:N)(l:FL)(ws:List Zc),ZI w v l->QN w u ws->V2 l->kP ws->rB tC 67 #[v,u] w fun e w'=>∃x,e=tK (sJ #[x,tE tG (QT l ws)])∧ZI w' x (Xn l ws)∧Y w w' M
theorem Zu.down{base:Nat}{w:L}{v:N}{l:FL}(h:Zu base w v l)(b2:Nat)(hb:b2<=base):Zu b2 w v l:=by
 obtain⟨i,d,c,f⟩:=h;refine⟨i,d,⟨c.1,?_⟩,f⟩;rcases c.2with h|⟨g,cap,a,e,b,rest⟩;·exact .inl h
 ·exact .inr ⟨g,cap,a,e,tS hb b,rest⟩
def xO:Prop:=∀(w:L)(v u:N)(l:FL)(ws:List Zc),ZI w v l->QN w u ws->V2 l->kP ws->rB tC 67 #[v,u] w fun e w'=>∃x,e=tK (sJ #[x,tE tG (QT l ws)])∧Zu w.heap.size w' x (Xn l ws)∧Y w w' M
theorem xO.ok(h:xO):MP:=fun w v u l i a b c d=>(h w v u l i a b c d).mono (by
 rintro e j⟨x,rfl,g,f⟩;exact⟨x,rfl,g.list,f⟩)
theorem qK(w:L)(b i:Nat)(u:N):∃W:L,Hid (W=tI w ⟨b,i,M⟩ u)∧Y w W (O b):=⟨_,rfl,Yz w b i u⟩
theorem qT{w:L}{ops:Array rK}{o:rK}{a:Act}{K:Act->L->Prop}{Q:Exit->Act->L->Prop}{E:Prop}(hgd:o.guard=M)(s x:rI)(ho:o.op=.call {callee:=.builtin .append,args:=#[s,x],argTypes:=#[70,70]})(rb:Nat)(v:N)(l:List Zc)(hs:a.eval s=v)(hown:QU rb 0 w v l)(vn vk vv:N)(p:Zc)(h1:Qh 0 w vn p.name)(h2:Qh 0 w vk p.key)(h3:Qh 0 w vv p.value)(nb:Nat)(hb:w.heap[nb]?=O (tD #[vn,vk,tR p.gone,vv] 122))(hx:a.eval x=S (O ⟨nb,0,M⟩) 1 1)(hl:(l.length+1)*80<=140737488355328)(hbase:rb<=w.heap.size)(h:∀v' w',QU rb 0 w' v' (l++[p])->Y w w' v.ownBlock->K (a.put o.dst v') w'):if sH o (pE ops a.tmps)=tA then Oper.wp tC o a w K Q else E:=by
 have C:sH o (pE ops a.tmps)=tA:=by simp[sH,hgd]
 rw[if_pos C];obtain⟨D,A,m,n,q⟩:=rY OW;have b:v.ownBlock=M∨∃g d t i,v.ownBlock=O g∧0<=g∧w.heap[g]?=O (tD d t i)∧t≠5:=by rcases hown.row with h|⟨g,d,i,e,_,h⟩;(·exact .inl h);·exact .inr ⟨g,d,_,i,e,tU _,h,kK⟩
 obtain⟨z,k,B,j⟩:=hown;refine wp_append_lies w s x 70 ho rb 122 D (sU #[S M 0 0,S M 0 0,tR tB,S M 0 0]) 4 80 Tryz.underlying70 A m n q rfl (by decide) v l.length (YS z) hs B ⟨nb,0,M⟩ 1 1 (YS [(p,vn,vk,vv)]) hx rfl (rA (cs:=#[vn,vk,tR p.gone,vv]) hb) ?_ (by omega) (by unfold pJ;omega) hl hbase _ rfl ?_;·intro u r;simp only[YS,tT,rG,sD,tN,tQ,or_false]at r;rcases r with rfl|rfl|rfl|rfl;(·exact Zz h1);(·exact Zz h2);(·rfl);·exact Zz h3
 ·intro g cap w' F f _ _;refine h _ w' ⟨z++[(p,vn,vk,vv)],by simp[k],?_,?_⟩ f;(·rw[kX,tH];exact F);·intro y c;rcases sB.1 c with c|c;(·exact⟨(j y c).1.keptT f b,(j y c).2.1.keptT f b,(j y c).2.2.keptT f b⟩);·simp only[tN,tQ,or_false]at c;subst c;exact⟨h1.keptT f b,h2.keptT f b,h3.keptT f b⟩
theorem xE{w:L}{ops:Array rK}{o:rK}{a:Act}{K:Act->L->Prop}{Q:Exit->Act->L->Prop}{E:Prop}(hgd:o.guard=M)(s x:rI)(ho:o.op=.call {callee:=.builtin .append,args:=#[s,x],argTypes:=#[69,69]})(rb:Nat)(v:N)(l:List Rd)(hs:a.eval s=v)(hown:ZD rb 0 w v l)(vn vk vv:N)(p:Rd)(h1:Qh 0 w vn p.name)(h2:Qh 0 w vk p.key)(h3:Qh 0 w vv p.last)(nb:Nat)(hb:w.heap[nb]?=O (tD #[vn,vk,tR p.wide,vv] 140))(hx:a.eval x=S (O ⟨nb,0,M⟩) 1 1)(hl:(l.length+1)*80<=140737488355328)(hbase:rb<=w.heap.size)(h:∀v' w',ZD rb 0 w' v' (l++[p])->Y w w' v.ownBlock->K (a.put o.dst v') w'):if sH o (pE ops a.tmps)=tA then Oper.wp tC o a w K Q else E:=by
 have C:sH o (pE ops a.tmps)=tA:=by simp[sH,hgd]
 rw[if_pos C];obtain⟨D,A,m,n,q⟩:=rY eY;have b:v.ownBlock=M∨∃g d t i,v.ownBlock=O g∧0<=g∧w.heap[g]?=O (tD d t i)∧t≠5:=by rcases hown.row with h|⟨g,d,i,e,_,h⟩;(·exact .inl h);·exact .inr ⟨g,d,_,i,e,tU _,h,e9⟩
 obtain⟨z,k,B,j⟩:=hown;refine wp_append_lies w s x 69 ho rb 140 D (sU #[S M 0 0,S M 0 0,tR tB,S M 0 0]) 4 80 Tryz.underlying69 A m n q rfl (by decide) v l.length (Ga z) hs B ⟨nb,0,M⟩ 1 1 (Ga [(p,vn,vk,vv)]) hx rfl (rA (cs:=#[vn,vk,tR p.wide,vv]) hb) ?_ (by omega) (by unfold pJ;omega) hl hbase _ rfl ?_;·intro u r;simp only[Ga,tT,rG,sD,tN,tQ,or_false]at r;rcases r with rfl|rfl|rfl|rfl;(·exact Zz h1);(·exact Zz h2);(·rfl);·exact Zz h3
 ·intro g cap w' F f _ _;refine h _ w' ⟨z++[(p,vn,vk,vv)],by simp[k],?_,?_⟩ f;(·rw[Nn,tH];exact F);·intro y c;rcases sB.1 c with c|c;(·exact⟨(j y c).1.keptT f b,(j y c).2.1.keptT f b,(j y c).2.2.keptT f b⟩);·simp only[tN,tQ,or_false]at c;subst c;exact⟨h1.keptT f b,h2.keptT f b,h3.keptT f b⟩
def OP:Prop:=∀(w:L)(v:N)(r:Rq),KV w->KZ w v r->xT r->rB tC 57 #[v] w fun e w'=>∃x,e=tK (sJ #[x,tE tG (K6 r)])∧Yl w' x (Zp r)∧Y w w' M
def ZN(K:Int)(n q l v:Nat):Nat->Bool|0=>tB|1=>!QP K 0&&tV (0<n)|2=>(!QP K 0&&tV (0<n))||(!QP K 1&&tV (0<q))|3=>((!QP K 0&&tV (0<n))||(!QP K 1&&tV (0<q)))||(!QP K 2&&tV (0<l))|_=>(((!QP K 0&&tV (0<n))||(!QP K 1&&tV (0<q)))||(!QP K 2&&tV (0<l)))||(!QP K 3&&tV (0<v))
def gL(K:Int)(n q l v:Nat):Int:=if(tV (Qt n≠0)&&QP K 0)=tA then Qt n else if(tV (Qn q≠0)&&QP K 1)=tA then Qn q else if(tV (Qn l≠0)&&QP K 2)=tA then Qn l else if 32<v then 1 else if ZN K n q l v 4=tA then 4 else 0
theorem eW(r:Rq)(hk:1<=r.kind∧r.kind<=8):Yj r=gL r.kind r.name.length r.key.length r.last.length r.value.length:=by
 rw[Yj,if_pos hk];have k:Rk r=if ZN r.kind r.name.length r.key.length r.last.length r.value.length 4=tA then 4 else 0:=by unfold Rk;by_cases d:QS r.kind=tB∧0<r.name.length+r.key.length;(·rw[if_pos d,if_pos];by_cases a:0<r.name.length;(·simp[ZN,QP,d.1,a]);·(have c:0<r.key.length:=by omega);simp[ZN,QP,d.1,c]);·rw[if_neg d];by_cases a:(r.kind≠3∧0<r.last.length)∨(r.kind≠4∧0<r.value.length);(·rw[if_pos a,if_pos];rcases a with⟨a,c⟩|⟨a,c⟩;(·simp[ZN,QP,a,c]);·simp[ZN,QP,a,c]);·rw[if_neg a,if_neg];intro b;simp only[ZN,QP,Bool.or_eq_true,rP,Bool.not_eq_true',decide_eq_true_iff,decide_eq_false_iff_not]at b;rcases b with((b|b)|b)|b;(·exact d ⟨b.1,by omega⟩);(·exact d ⟨b.1,by omega⟩);(·exact a (.inl b));·exact a (.inr b)
 rw[k];unfold yA gL;generalize ZN r.kind r.name.length r.key.length r.last.length r.value.length 4=B;show _=if(tV (Qt r.name.length≠0)&&QS r.kind)=tA then _ else if(tV (Qn r.key.length≠0)&&QS r.kind)=tA then _ else if(tV (Qn r.last.length≠0)&&tV (r.kind=3))=tA then _ else _;have c:r.kind=3->QS r.kind=tA:=fun h=>by rw[h];decide
 generalize Qt r.name.length=A at*;generalize Qn r.key.length=C at*;generalize Qn r.last.length=D at*;cases hN:QS r.kind with|false=>(have g:¬r.kind=3:=fun h=>by rw[c h]at hN;cases hN);simp[g]|true=>by_cases e:A=0;(·by_cases f:C=0;(·by_cases i:r.kind=3;(·by_cases j:D=0;(·simp[e,f,i,j]);·simp[e,f,i,j]);·simp[e,f,i]);·simp[e,f]);·simp[e]
theorem eI(r:Rq)(hk:¬(1<=r.kind∧r.kind<=8)):Yj r=5:=by
 rw[Yj,if_neg hk]
def Le:Prop:=∀(w:L)(v u a b:N)(l:FL)(t:Tx)(n k:List UInt8),ZI w v l->V2 l->GD w u t->zS t->Qe w a n->Qe w b k->n.length<=140737488355328->k.length<=140737488355328->rB tC 45 #[v,u,a,b] w fun e w'=>∃x,e=tK (sJ #[sU #[tR (UW l t n k),x],tR (Vu l t n k),tE tG (Kd l t n k)])∧Qh 0 w' x (UI l t n k)∧Y w w' M
theorem XI{w:L}{b:Nat}{x y:N}{t:sA}(h:w.heap[b]?=O (tD #[x,y] t)):w.cell? ⟨b,0,M⟩=O x∧w.cell? ⟨b,1,M⟩=O y∧w.frozen? ⟨b,0,M⟩=tB∧w.frozen? ⟨b,1,M⟩=tB:=by
 refine⟨?_,?_,?_,?_⟩<;>simp[tX,r7,h]
section
variable{D:List UInt8->List UInt8}{v u:Sv}
theorem Dh(hD:∀x,(D x).length=4)(h:ZC D v)(hs:v.synced=v.commits.length){k:Int}(hk:0<=k):Uy D v k=VS tB v.tape v.commits v.out:=by
 obtain⟨j,c,d,b,_⟩:=G3 hD h hk;obtain rfl:j=v.commits.length:=by omega
 rw[b,sG];have a:=h.mark;rw[hs,sG]at a;have:(⟨QV D v.commits,((QV D v.commits).length:Int)⟩:VQ)=v.tape:=by rw[<-a,<-h.data]
 rw[this]
end
section
variable{D:List UInt8->List UInt8}{v:Sv}
theorem ZC.nowait(h:ZC D v)(hq:v.queue=[])(s:Nat):v.waits s=tB:=by
 cases e:v.waits s with|false=>rfl|true=>have:=(h.wait s).mp e;rw[hq]at this;cases this
end
section
structure Se where
  begun : Bool
  start : Int
  writes : List Zc
structure Md where
  ses : Nat -> Se
  states : List FL
variable{D:List UInt8->List UInt8}{v:Sv}{m:Md}
theorem Ge(v:Sv)(n:Nat):Xh (QD v n):=uM _ _ G2
end
section
variable{D:List UInt8->List UInt8}{v:Sv}{m:Md}
theorem Dp{r:Rq}(hr:VA r)(hk:r.kind=2∨r.kind=3):(1<=r.name.length∧r.name.length<=8)∧(1<=r.key.length∧r.key.length<=16):=by
 have:QS r.kind=tA:=by rcases hk with e|e<;>rw[e]<;>decide
 exact⟨hr.name this,hr.key this⟩
end
def Hq:Prop:=∀(w:L)(v u:N)(t:Tx)(l:List Xy),GD w v t->zS t->YW w u l->Bh l->rB tC 66 #[v,u] w fun e w'=>e=tK (sJ #[tR (Us t l),tE tG (F3 t)])∧Y w w' M
def cL:Prop:=∀(w:L)(v:N)(c:Xy),JL w v c->ER c->rB tC 96 #[v] w fun e w'=>∃x,e=tK (sJ #[x,tE tG (Q7 c)])∧Qe w' x (F9 c)∧Y w w' M
def Ld:Prop:=∀(w:L)(v:N)(c:Xy),JL w v c->ER c->rB tC 107 #[v] w fun e w'=>e=tK (tE tG (Q7 c))∧Y w w' M
theorem FY(w:L):(sizeOf (tC.elem 35)).run tC w=.ok 1 w:=by
 kernel_rfl
theorem Qe.cap{w:L}{a:Option rH}{n cap:Nat}{bs:List UInt8}(h:Qe w (S a n cap) bs):bs.length<=cap∧n=bs.length:=by
 obtain⟨d,b,e,c,_⟩:=h;simp only[tM]at e;obtain⟨_,rfl,rfl⟩:=e;exact⟨c,rfl⟩
theorem Qe.byte{w:L}{a:Option rH}{n cap:Nat}{bs:List UInt8}(h:Qe w (S a n cap) bs)(i:Nat)(hi:i<bs.length):∃b o,a=O ⟨b,o,M⟩∧Kt w b o bs:=by
 obtain⟨d,c,e,f,h⟩:=h;simp only[tM]at e;obtain⟨rfl,rfl,rfl⟩:=e;rcases h with⟨rfl,_⟩|⟨b,o,rfl,h⟩;·simp at hi
 ·exact⟨b,o,rfl,h⟩
theorem Qe.sliced{w:L}{a:Option rH}{cap:Nat}{l:List UInt8}(h:Qe w (S a l.length cap) l)(i j:Nat)(hij:i<=j)(hj:j<=l.length):Qe w (sS a i j cap 1) ((l.take j).drop i):=by
 obtain⟨m,f,e,n,h⟩:=h;simp only[tM,true_and]at e;obtain⟨rfl,rfl⟩:=e;have c:((l.take j).drop i).length=j-i:=by simp;omega
 refine⟨if cap=i then a else a.map (·.add (i*1)),cap-i,by rw[c];rfl,by rw[c];omega,?_⟩;by_cases d:cap=i;·left;exact⟨tP (by rw[c];omega),fun _=>by omega⟩
 ·rw[if_neg d];rcases h with⟨rfl,h⟩|⟨b,o,rfl,h⟩;(·left;refine⟨by simp,fun e=>?_⟩;cases a with|none=>have:=h rfl;simp at hj;omega|some x=>cases e);·right;refine⟨b,o+i,by simp[ZU],fun k g=>?_⟩;rw[c]at g;have:=h (i+k) (by omega);(have e:((l.take j).drop i).getD k 0=l.getD (i+k) 0:=by simp[show i+k<j by omega]);rw[e,show o+i+k=o+(i+k)by omega];exact this
theorem zM(a:Option rH)(cap:Nat)(l:List UInt8)(n:Nat)(hn:n<=l.length)(hc:l.length<=cap):∃a1 c1,(∀W,(rW 35 (S a l.length cap) M (O (tE tG (n:Int))) M).run tC W=.ok (S a1 n c1) W)∧∀W,Qe W (S a l.length cap) l->Qe W (S a1 n c1) (l.take n):=by
 refine⟨if cap=0then a else a.map (·.add (0*1)),cap-0,fun W=>?_,fun W h=>?_⟩;·rw[run_slice_h _ _ _ _ _ (by kernel_rfl) _ _ (by omega) (by omega),FY];simp only[rN,sS,rD,pI]
 ·have:=h.sliced 0 n (by omega) hn;simpa only[sS,oG,pI]using this
theorem Gx(a:Option rH)(cap:Nat)(l:List UInt8)(i j:Nat)(hij:i<=j)(hj:j<=l.length)(hc:l.length<=cap):∃a1 c1,(∀W,(rW 35 (S a l.length cap) (O (tE tG (i:Int))) (O (tE tG (j:Int))) M).run tC W=.ok (S a1 (j-i) c1) W)∧∀W,Qe W (S a l.length cap) l->Qe W (S a1 (j-i) c1) ((l.take j).drop i):=by
 refine⟨if cap=i then a else a.map (·.add (i*1)),cap-i,fun W=>?_,fun W h=>?_⟩;·rw[run_slice_lh _ _ _ _ _ (by kernel_rfl) _ _ _ _ (by omega) (by omega) (by omega),FY];simp only[rN,sS,rD]
 ·have:=h.sliced i j hij hj;simpa only[sS]using this
theorem VC(a:Option rH)(cap:Nat)(l:List UInt8)(n:Nat)(hn:n<=l.length):∃a1 c1,(∀W,(rW 35 (S a l.length cap) (O (tE tG (n:Int))) M M).run tC W=.ok (S a1 (l.length-n) c1) W)∧∀W,Qe W (S a l.length cap) l->Qe W (S a1 (l.length-n) c1) (l.drop n):=by
 refine⟨if cap=n then a else a.map (·.add (n*1)),cap-n,fun W=>?_,fun W h=>?_⟩;·rw[run_slice_l _ _ _ _ _ (by kernel_rfl) _ _ (by omega) (by omega),FY];simp only[rN,sS,rD]
 ·have:=h.sliced n l.length hn (sE _);simpa only[sS,sG]using this
theorem Dq{ws:List Zc}(hn:ws.length<=1000)(h:∀w∈ws,QA w=0):kP ws:=⟨by
 omega,fun j b=>by
 have a:=h ws[j] (sQ b);rw[show ws[j]=ws.getD j Qo by simp[b]]at a;have c:=(XF _).1 a;have d:(ws.getD j Qo).value.length<=32:=by have:=c.2.2;split at this;(·rw[this];simp);·exact this
 exact⟨by omega,by omega,by omega⟩⟩
theorem Mz{c:Xy}(h:Q7 c=0):ER c:=by
 obtain⟨b,d,a⟩:=(Kz c).1 h;exact⟨by omega,Dq (by omega) a⟩
def Wh:Prop:=∀(w:L)(v u a b c:N)(l:FL)(t:Tx)(n k m:List UInt8),ZI w v l->V2 l->GD w u t->zS t->Qe w a n->Qe w b k->Qe w c m->n.length<=140737488355328->k.length<=140737488355328->m.length<=140737488355328->rB tC 47 #[v,u,a,b,c] w fun e w'=>∃x,e=tK (sJ #[x,tE tG (Kf l t n k m)])∧QJ 0 w' x (VI l t n k m)∧Y w w' M
def WK:Prop:=∀(w:L)(v u x:N)(l:PL)(f t:List UInt8),Qq w v l->Qe w u f->Qe w x t->kM l->f.length<=140737488355328->t.length<=140737488355328->rB tC 84 #[v,u,x] w fun e w'=>∃y,e=tK (sJ #[y,tE tG (Ys l f t)])∧QJ 0 w' y (Kw l f t)∧Y w w' M
def Wi:Prop:=∀(w:L)(v r u t:N)(l:FL)(n k m:List UInt8),ZI w v l->Qe w r n->Qe w u k->Qe w t m->V2 l->n.length<=140737488355328->k.length<=140737488355328->m.length<=140737488355328->rB tC 59 #[v,r,u,t] w fun e w'=>∃x,e=tK (sJ #[x,tE tG (Yu l n k m)])∧QJ 0 w' x (J4 l n k m)∧Y w w' M
def Ng:Prop:=∀(w:L)(v:N)(bs:List UInt8)(i:Int),Qe w v bs->rB tC 127 #[v,tE tG i] w fun e w'=>e=tK (sJ #[tR (Bs bs i).1,tE tG (Bs bs i).2])∧Y w w' M
theorem Ng.of(hB:Ng)(w:L)(v:N)(k:List UInt8)(i:Nat)(hv:Qe w v k)(hk:1<=k.length∧k.length<=16)(hi:i<145):rB tC 127 #[v,tE tG (i:Int)] w fun e w'=>e=tK (sJ #[tR (ZJ k i),tE tG 0])∧Y w w' M:=by
 have:=hB w v k i hv;rw[bF k i hk hi]at this;exact this
def Re:Prop:=∀(w:L)(v u:N)(a b:List UInt8),Qe w v a->Qe w u b->rB tC 138 #[v,u] w fun e w'=>e=tK (sJ #[tE tG (FH a b).1,tE tG (FH a b).2])∧Y w w' M
theorem Re.of(hP:Re)(w:L)(v u:N)(a b:List UInt8)(hv:Qe w v a)(hu:Qe w u b)(ha:1<=a.length∧a.length<=16)(hb:1<=b.length∧b.length<=16):rB tC 138 #[v,u] w fun e w'=>e=tK (sJ #[tE tG (Jv a b),tE tG 0])∧Y w w' M:=by
 have:=hP w v u a b hv hu;rw[Of a b ha hb]at this;exact this
def AR:Prop:=∀(w:L)(v u:N)(t:Tx)(r:Zc),GD w v t->zS t->ZZ w u r->YF r->rB tC 49 #[v,u] w fun e w'=>∃x,e=tK (sJ #[x,tE tG (Xb t r)])∧Gy w' x (Yv t r)∧Y w w' M
def Lm:Prop:=∀(w:L)(v:N)(r:Rq),KV w->KZ w v r->xT r->rB tC 48 #[v] w fun e w'=>∃x,e=tK (sJ #[x,tE tG (Je r)])∧ZZ w' x (Xr r)∧Y w w' M
def Og:Prop:=∀(w:L)(n t:Int),-9223372036854775808<=n->n<=9223372036854775807->-9223372036854775808<=t->t<=9223372036854775807->rB tC 44 #[tE tG n,tE tG t] w fun e w'=>e=tK (tR (JI n t))∧Y w w' M
def aR:Prop:=∀(w:L)(v:N)(b:List UInt8),KV w->Qe w v b->b.length<=140737488355328->rB tC 9 #[v] w fun e w'=>∃x,e=tK (sJ #[x,tE tG (Xc b)])∧KZ w' x (YI b)∧Y w w' M
theorem Wn(b:List UInt8)(n:Nat)(h:n<b.length):Zq (b.drop n)=if n+1+(b.getD n 0).toNat<=b.length then O ((b.take (n+1+(b.getD n 0).toNat)).drop (n+1),b.drop (n+1+(b.getD n 0).toNat))else M:=by
 rw[sX h,Zq,show b[n]=b.getD n 0 by simp[h],pU];by_cases a:n+1+(b.getD n 0).toNat<=b.length;·rw[if_pos (by omega),if_pos a,List.drop_take,List.drop_drop,Nat.add_sub_cancel_left]
 ·rw[if_neg (by omega),if_neg a]
def TW(ws:List Zc):Prop:=∀p∈ws,p.name.length<=255∧p.key.length<=255∧p.value.length<=255
theorem Cf{ws:List Zc}{p:Zc}(h:TW ws)(hp:p.name.length<=255∧p.key.length<=255∧p.value.length<=255):TW (ws++[p]):=fun q a=>by
 rcases sB.1 a with a|a;·exact h q a
 ·simp only[tN,tQ,or_false]at a;rw[a];exact hp
theorem Hi{b:List UInt8}(h:4000<b.length):Yx b=1∧Jq b=Zh:=by
 have:Yx b=1:=by rw[Yx,if_pos h]
 exact⟨this,by rw[Jq,this,if_neg (by decide)]⟩
theorem AL{b:List UInt8}(h:b.length<4):Yx b=14∧Jq b=Zh:=by
 have:Yx b=14:=by rw[Yx,if_neg (by omega),if_pos h]
 exact⟨this,by rw[Jq,this,if_neg (by decide)]⟩
theorem Lo{b:List UInt8}(h1:¬4000<b.length)(h2:¬b.length<4)(h:GI b=M):Yx b=14∧Jq b=Zh:=by
 have:Yx b=14:=by rw[Yx,if_neg h1,if_neg h2,h]
 exact⟨this,by rw[Jq,this,if_neg (by decide)]⟩
theorem Lb{b r:List UInt8}{ws:List Zc}(h1:¬4000<b.length)(h2:¬b.length<4)(h:GI b=O (ws,r))(hr:r.length≠0):Yx b=4∧Jq b=Zh:=by
 have:Yx b=4:=by rw[Yx,if_neg h1,if_neg h2,h];show(if r.length=0then _ else(4:Int))=4;rw[if_neg hr]
 exact⟨this,by rw[Jq,this,if_neg (by decide)]⟩
theorem Hx{b r:List UInt8}{ws:List Zc}(h1:¬4000<b.length)(h2:¬b.length<4)(h:GI b=O (ws,r))(hr:r.length=0):Yx b=Q7 ⟨(VT b:Int),ws⟩∧(Yx b=0->Jq b=⟨(VT b:Int),ws⟩)∧(Yx b≠0->Jq b=Zh):=by
 have:Yx b=Q7 ⟨(VT b:Int),ws⟩:=by rw[Yx,if_neg h1,if_neg h2,h];show(if r.length=0then _ else(4:Int))=_;rw[if_pos hr]
 refine⟨this,fun a=>?_,fun a=>?_⟩;·rw[Jq,if_pos a,h]
 ·rw[Jq,if_neg a]
def Z9(k:Int)(m:Nat)(p0 p1 p2 p3 r:List UInt8):Option (Rq×List UInt8):=match m with|0=>X5 k r|1=>U4 k p0 r|2=>U6 k p0 p1 r|3=>U5 k p0 p1 p2 r|_=>O (⟨k,p0,p1,p2,p3⟩,r)
theorem JK(r:List UInt8):Y5 tA r=Zq r:=rfl
theorem yB(r:List UInt8)(h:r.length=0):Zq r=M:=by
 rw[tP h];rfl
theorem kS(r:List UInt8)(h:0<r.length):Zq r=if 1+(r.getD 0 0).toNat<=r.length then O ((r.take (1+(r.getD 0 0).toNat)).drop 1,r.drop (1+(r.getD 0 0).toNat))else M:=by
 have:=Wn r 0 h;rw[sP]at this;exact this
theorem GW(k:Int)(p0 p1 p2 p3 r:List UInt8):(QP k 0=tB->Z9 k 0 p0 p1 p2 p3 r=Z9 k 1 [] p1 p2 p3 r)∧(QP k 1=tB->Z9 k 1 p0 p1 p2 p3 r=Z9 k 2 p0 [] p2 p3 r)∧(QP k 2=tB->Z9 k 2 p0 p1 p2 p3 r=Z9 k 3 p0 p1 [] p3 r)∧(QP k 3=tB->Z9 k 3 p0 p1 p2 p3 r=Z9 k 4 p0 p1 p2 [] r):=by
 refine⟨fun h=>?_,fun h=>?_,fun h=>?_,fun h=>?_⟩;·show X5 k r=U4 k [] r;rw[X5,show QS k=tB from h];rfl
 ·show U4 k p0 r=U6 k p0 [] r;rw[U4,show QS k=tB from h];rfl
 ·show U6 k p0 p1 r=U5 k p0 p1 [] r;rw[U6,show tV (k=3)=tB from h];rfl
 ·show U5 k p0 p1 p2 r=O (⟨k,p0,p1,p2,[]⟩,r);rw[U5,show tV (k=4)=tB from h];rfl
theorem VV(k:Int)(p0 p1 p2 p3 r:List UInt8)(h0:Zq r=M)(m:Nat)(hm:m<4)(h:QP k m=tA):Z9 k m p0 p1 p2 p3 r=M:=by
 match m,hm with|0,_=>show X5 k r=M;rw[X5,show QS k=tA from h,JK,h0]|1,_=>show U4 k p0 r=M;rw[U4,show QS k=tA from h,JK,h0]|2,_=>show U6 k p0 p1 r=M;rw[U6,show tV (k=3)=tA from h,JK,h0]|3,_=>show U5 k p0 p1 p2 r=M;rw[U5,show tV (k=4)=tA from h,JK,h0]
theorem VW(k:Int)(p0 p1 p2 p3 r p r2:List UInt8)(h0:Zq r=O (p,r2)):(QP k 0=tA->Z9 k 0 p0 p1 p2 p3 r=Z9 k 1 p p1 p2 p3 r2)∧(QP k 1=tA->Z9 k 1 p0 p1 p2 p3 r=Z9 k 2 p0 p p2 p3 r2)∧(QP k 2=tA->Z9 k 2 p0 p1 p2 p3 r=Z9 k 3 p0 p1 p p3 r2)∧(QP k 3=tA->Z9 k 3 p0 p1 p2 p3 r=Z9 k 4 p0 p1 p2 p r2):=by
 refine⟨fun h=>?_,fun h=>?_,fun h=>?_,fun h=>?_⟩;·show X5 k r=U4 k p r2;rw[X5,show QS k=tA from h,JK,h0]
 ·show U4 k p0 r=U6 k p0 p r2;rw[U4,show QS k=tA from h,JK,h0]
 ·show U6 k p0 p1 r=U5 k p0 p1 p r2;rw[U6,show tV (k=3)=tA from h,JK,h0]
 ·show U5 k p0 p1 p2 r=O (⟨k,p0,p1,p2,p⟩,r2);rw[U5,show tV (k=4)=tA from h,JK,h0]
def Hl(k:Int)(b:List UInt8):Int:=match X5 k b with|none=>14|O (_,x)=>if x.length=0then 0 else 4
def Ta(k:Int)(b:List UInt8):Rq:=match X5 k b with|none=>VR|O (r,x)=>if x.length=0then r else VR
theorem Fs{k:Int}{b:List UInt8}(h:X5 k b=M):Hl k b=14∧Ta k b=VR:=by
 unfold Hl Ta;rw[h];exact⟨rfl,rfl⟩
theorem Fw{k:Int}{b x:List UInt8}{r:Rq}(h:X5 k b=O (r,x))(hx:0<x.length):Hl k b=4∧Ta k b=VR:=by
 unfold Hl Ta;rw[h];exact⟨if_neg (by omega),if_neg (by omega)⟩
theorem Fr{k:Int}{b x:List UInt8}{r:Rq}(h:X5 k b=O (r,x))(hx:x.length=0):Hl k b=0∧Ta k b=r:=by
 unfold Hl Ta;rw[h];exact⟨if_pos hx,if_pos hx⟩
theorem bP{k:Int}{b:List UInt8}(h:Hl k b=0):(Ta k b).kind=k:=by
 match hD:X5 k b with|none=>rw[(Fs hD).1]at h;cases h|O (r,x)=>by_cases a:x.length=0;(·rw[(Fr hD a).2];exact(F8 hD).2);·rw[(Fw hD (by omega)).1]at h;cases h
theorem bJ{b:List UInt8}(h1:¬4000<b.length)(h2:¬b.length=0)(hk:1<=Ug b∧Ug b<=8):Xc b=(if Hl (Ug b) (b.drop 1)=0then Yj (Ta (Ug b) (b.drop 1))else Hl (Ug b) (b.drop 1))∧(Xc b=0->YI b=Ta (Ug b) (b.drop 1)):=by
 match hD:X5 (Ug b) (b.drop 1)with|none=>obtain⟨a,d⟩:=Fs hD;(have:Xc b=14:=by rw[Xc,if_neg h1,if_neg h2,if_pos hk,hD]);rw[a,this];exact⟨rfl,fun h=>by cases h⟩|O (r,x)=>(have c:Xc b=if x.length=0then Yj r else 4:=by rw[Xc,if_neg h1,if_neg h2,if_pos hk,hD]);by_cases e:x.length=0;(·obtain⟨a,d⟩:=Fr hD e;rw[if_pos e]at c;rw[a,d,if_pos rfl];exact⟨c,fun h=>by rw[YI,if_pos h,hD]⟩);·obtain⟨a,d⟩:=Fw hD (by omega);rw[if_neg e]at c;rw[a,c];exact⟨rfl,fun h=>by cases h⟩
theorem aQ{k:Int}{b:List UInt8}(hb:b.length<=4000):(Ta k b).name.length<=4000∧(Ta k b).key.length<=4000∧(Ta k b).last.length<=4000∧(Ta k b).value.length<=4000:=by
 match hD:X5 k b with|none=>rw[(Fs hD).2];simp[VR]|O (r,x)=>by_cases j:x.length=0;(·rw[(Fr hD j).2];obtain⟨_,q,a,s,e,f,g,i⟩:=kE hD;(have key:∀{c:Bool}{r p a:List UInt8},Y5 c r=O (p,a)->p.length<=r.length∧a.length<=r.length:=by intro c r p a h;have d:=Vz h;cases c with|false=>have:=Hu h rfl;subst this;rw[d];exact⟨tU _,by simp[Xf]⟩|true=>rw[d];simp[Xf,XH];omega);have l:=key e;have m:=key f;have n:=key g;have o:=key i;omega);·rw[(Fw hD (by omega)).2];simp[VR]
section
variable{D:List UInt8->List UInt8}{v:Sv}
theorem DG:∀(l:List Ac)(v:Sv),∃rs,(l.foldl (XD D) v).out=v.out++rs|[],_=>⟨[],by simp⟩|a::l,v=>by obtain⟨d,b⟩:=bQ D v a;obtain⟨e,c⟩:=DG l (XD D v a);exact⟨d++e,by rw[List.foldl_cons,c,b,pS]⟩
theorem E8(l:List Ac)(k:Nat):∃rs,(QY D l).out=(QY D (l.take k)).out++rs:=by
 obtain⟨rs,e⟩:=DG (D:=D) (l.drop k) (QY D (l.take k));refine⟨rs,?_⟩;rw[<-e,<-Da,pC]
theorem P6:∀(q:List Nat)(n:Nat),(∀t∈(Jb n q).map (fun r=>r.turn),(n:Int)<t∧t<=((n+q.length:Nat):Int))∧((Jb n q).map (fun r=>r.turn)).Pairwise (·<·)|[],n=>⟨fun t a=>by simp[Jb]at a,by simp[Jb]⟩|s::q,n=>by obtain⟨b,c⟩:=P6 q (n+1);rw[Jb,oH];refine⟨fun t a=>?_,rC.2 ⟨fun t a=>?_,c⟩⟩;(·rcases tN.1 a with e|e;(·rw[e];show(n:Int)<((n+1:Nat):Int)∧((n+1:Nat):Int)<=((n+(q.length+1):Nat):Int);omega);·have:=b t e;rw[sR];omega);·show((n+1:Nat):Int)<t;exact(b t a).1
theorem eU(v:Sv){a:Ac}(ha:a.kind=2):(∀t∈((XD D v a).out.drop v.out.length).map (fun r=>r.turn),(v.synced:Int)<t∧t<=((XD D v a).synced:Int))∧(((XD D v a).out.drop v.out.length).map (fun r=>r.turn)).Pairwise (·<·):=by
 rw[XD,if_neg (by omega),if_pos ha];split;·show(∀t∈((v.out++Jb v.synced v.queue).drop v.out.length).map _,_∧t<=((v.synced+v.queue.length:Nat):Int))∧(((v.out++Jb v.synced v.queue).drop v.out.length).map _).Pairwise _;rw[List.drop_left];exact P6 v.queue v.synced
 ·rw[List.drop_length];exact⟨fun t b=>by simp at b,by simp⟩
theorem CZ(v:Sv){a:Ac}(ha:a.kind=1):((XD D v a).out.length=v.out.length+1∧(∃p,(XD D v a).out=v.out++[p]∧p.sess=(a.sess.toNat:Int))∧(XD D v a).waits=v.waits∧(XD D v a).queue=v.queue∧(XD D v a).up=v.up)∨((XD D v a).out=v.out∧v.up=tA∧Xc a.data=0∧(YI a.data).kind=6∧v.waits a.sess.toNat=tB∧(XD D v a).waits=Kv v.waits a.sess.toNat tA∧(XD D v a).queue=v.queue++[a.sess.toNat]∧(XD D v a).up=v.up):=by
 rw[XD,if_pos ha];rcases CY D v a.sess.toNat a.data with h|⟨e,f,g,i,_,b⟩;·obtain⟨p,c,d⟩:=h.out;exact .inl ⟨by rw[c];simp,⟨p,c,d⟩,h.waits,h.queue,h.up⟩
 ·exact .inr ⟨b.out,e,f,g,i,b.waits,b.queue,b.up⟩
theorem Dw(v:Sv)(hu:v.up=tA){a:Ac}(ha:a.kind=2):(XD D v a).out=v.out++Jb v.synced v.queue∧(XD D v a).waits=K9 v.waits v.queue∧(XD D v a).queue=[]∧(XD D v a).up=tA:=by
 rw[XD,if_neg (by omega),if_pos ha,if_pos hu];exact⟨rfl,rfl,rfl,hu⟩
theorem ND(h:ZC D v){a:Ac}(ha:a.kind=3):(XD D v a).out=v.out∧(∀s,(XD D v a).waits s=tB)∧(XD D v a).queue=[]∧(XD D v a).up=tB:=by
 rw[XD,if_neg (by omega),if_neg (by omega),if_pos ha];split;·exact⟨rfl,fun _=>rfl,rfl,rfl⟩
 ·(have b:v.up=tB:=by simpa using(by assumption:¬v.up=tA));exact⟨rfl,fun s=>h.nowait (h.down b).1 s,(h.down b).1,b⟩
end
theorem NU{w:L}{o:rK}{a:Act}{K:Act->L->Prop}{Q:Exit->Act->L->Prop}(s x:rI)(ho:o.op=.call {callee:=.builtin .append,args:=#[s,x],argTypes:=#[23,23]})(rb:Nat)(v:N)(l:List Ac)(hs:a.eval s=v)(hown:VH rb w v l)(vd:N)(r:Ac)(h1:Qh 0 w vd r.data)(nb:Nat)(hb:w.heap[nb]?=O (tD #[tE tG r.kind,tE tG r.sess,tE tG r.keep,vd] 37))(hx:a.eval x=S (O ⟨nb,0,M⟩) 1 1)(hl:(l.length+1)*48<=140737488355328)(hbase:rb<=w.heap.size)(h:∀v' w',VH rb w' v' (l++[r])->Y w w' v.ownBlock->K (a.put o.dst v') w'):o.wp tC a w K Q:=by
 obtain⟨C,z,j,k,m⟩:=rY eP;have b:v.ownBlock=M∨∃g c t f,v.ownBlock=O g∧0<=g∧w.heap[g]?=O (tD c t f)∧t≠5:=by rcases hown.row with h|⟨g,c,f,e,_,h⟩;(·exact .inl h);·exact .inr ⟨g,c,_,f,e,tU _,h,bX⟩
 obtain⟨q,i,B,A⟩:=hown;refine wp_append_lies w s x 23 ho rb 37 C (sU #[tE tG 0,tE tG 0,tE tG 0,S M 0 0]) 4 48 Tryz.underlying23 z j k m rfl (by decide) v l.length (V5 q) hs B ⟨nb,0,M⟩ 1 1 (V5 [(r,vd)]) hx rfl (rA (cs:=#[tE tG r.kind,tE tG r.sess,tE tG r.keep,vd]) hb) ?_ (by omega) (by unfold pJ;omega) hl hbase _ rfl ?_;·intro u p;simp only[V5,tT,rG,sD,tN,tQ,or_false]at p;rcases p with rfl|rfl|rfl|rfl;(·rfl);(·rfl);(·rfl);·exact Zz h1
 ·intro g cap w' D n _ _;refine h _ w' ⟨q++[(r,vd)],by simp[i],?_,?_⟩ n;(·rw[N8,tH];exact D);·intro y d;rcases sB.1 d with d|d;(·exact(A y d).keptT n b);·simp only[tN,tQ,or_false]at d;subst d;exact h1.keptT n b
theorem vL{w:L}{ops:Array rK}{rest:List rK}{o:rK}{a:Act}{Q:Exit->Act->L->Prop}(hgd:o.guard=M)(s x:rI)(ho:o.op=.call {callee:=.builtin .append,args:=#[s,x],argTypes:=#[23,23]})(rb:Nat)(v:N)(l:List Ac)(hs:a.eval s=v)(hown:VH rb w v l)(vd:N)(r:Ac)(h1:Qh 0 w vd r.data)(nb:Nat)(hb:w.heap[nb]?=O (tD #[tE tG r.kind,tE tG r.sess,tE tG r.keep,vd] 37))(hx:a.eval x=S (O ⟨nb,0,M⟩) 1 1)(hl:(l.length+1)*48<=140737488355328)(hbase:rb<=w.heap.size)(h:∀v' w',VH rb w' v' (l++[r])->Y w w' v.ownBlock->wpList tC ops Q rest (a.put o.dst v') w'):wpList tC ops Q (o::rest) a w:=wpList_plain hgd fun _ c=>NU s x ho rb v l hs hown vd r h1 nb hb hx hl hbase fun v' w' h1 b=>c _ _ (h v' w' h1 b)
structure Va where
  rest : List UInt8
  short : Bool
def Fg(r:Va)(n:Nat):List UInt8:=if r.short=tA∨r.rest.length<n then[]else r.rest.take n
def CS(r:Va)(n:Nat):Va:=if r.short=tA∨r.rest.length<n then⟨r.rest,tA⟩else⟨r.rest.drop n,tB⟩
theorem FC{r:Va}{n:Nat}(h:r.short=tA∨r.rest.length<n):Fg r n=[]∧CS r n=⟨r.rest,tA⟩:=⟨if_pos h,if_pos h⟩
theorem uV{r:Va}{n:Nat}(h:¬(r.short=tA∨r.rest.length<n)):Fg r n=r.rest.take n∧CS r n=⟨r.rest.drop n,tB⟩:=⟨if_neg h,if_neg h⟩
theorem aI(r:Va)(n:Nat):(Fg r n).length<=n:=by
 unfold Fg;split;·simp
 ·rw[r8];omega
def Z8(r:Va):Va:=CS r 1
def Js(r:Va):Nat:=if(Z8 r).short=tA then 0 else((Fg r 1).getD 0 0).toNat
theorem Yg(r:Va):Js r<256:=by
 unfold Js;split;·omega
 ·exact((Fg r 1).getD 0 0).toNat_lt
theorem YK(x:UInt8)(l:List UInt8):Z8 ⟨x::l,tB⟩=⟨l,tB⟩∧Js ⟨x::l,tB⟩=x.toNat:=by
 have h:¬((⟨x::l,tB⟩:Va).short=tA∨(⟨x::l,tB⟩:Va).rest.length<1):=by simp
 obtain⟨b,c⟩:=uV h;have a:Z8 ⟨x::l,tB⟩=⟨l,tB⟩:=c;refine⟨a,?_⟩;rw[Js,a,b,if_neg (by simp)];rfl
theorem vO{r:Va}(h:r.short=tA)(n:Nat):(CS r n).short=tA:=by
 rw[(FC (.inl h)).2]
theorem JY{r:Va}(h:r.short=tA):(Z8 r).short=tA:=vO h 1
theorem xW:(Z8 ⟨[],tB⟩).short=tA:=rfl
def Sr(r:Va):List UInt8:=Fg (Z8 r) (Js r)
def Km(r:Va):Va:=CS (Z8 r) (Js r)
theorem Vp{r:Va}(h:r.short=tA):(Km r).short=tA:=vO (JY h) _
theorem vE{l p l2:List UInt8}(h:Zq l=O (p,l2)):Sr ⟨l,tB⟩=p∧Km ⟨l,tB⟩=⟨l2,tB⟩:=by
 cases l with|nil=>cases h|cons x l=>rw[Zq]at h;obtain⟨b,c⟩:=YK x l;unfold Sr Km;rw[b,c];by_cases a:x.toNat<=l.length;(·rw[if_pos a]at h;simp only[tF,rX]at h;obtain⟨rfl,rfl⟩:=h;exact uV (by simp;omega));·rw[if_neg a]at h;cases h
theorem Ft{l:List UInt8}(h:Zq l=M):(Km ⟨l,tB⟩).short=tA:=by
 cases l with|nil=>exact vO xW _|cons x l=>rw[Zq]at h;obtain⟨a,b⟩:=YK x l;unfold Km;rw[a,b];by_cases c:x.toNat<=l.length;(·rw[if_pos c]at h;cases h);·rw[(FC (.inr (by show l.length<x.toNat;omega))).2]
theorem TO(r:Va):(Sr r).length<=255:=tS (aI _ _) (pV (Yg r))
def FJ(r:Va):Zc:=if Js (Km (Km r))=255then⟨Sr r,Sr (Km r),[],tA⟩else⟨Sr r,Sr (Km r),Sr (Km (Km r)),tB⟩
def Cy(r:Va):Va:=if Js (Km (Km r))=255then Z8 (Km (Km r))else Km (Km (Km r))
theorem DH{r:Va}(h:r.short=tA):(Cy r).short=tA:=by
 unfold Cy;split;·exact JY (Vp (Vp h))
 ·exact Vp (Vp (Vp h))
theorem Ty{r:Va}(h:(Km (Km r)).short=tA):(Cy r).short=tA:=by
 unfold Cy;split;·exact JY h
 ·exact Vp h
theorem bL{l l2:List UInt8}{p:Zc}(h:YX l=O (p,l2)):FJ ⟨l,tB⟩=p∧Cy ⟨l,tB⟩=⟨l2,tB⟩:=by
 unfold YX at h;cases h1:Zq l with|none=>rw[h1]at h;cases h|some q=>obtain⟨n,f⟩:=q;rw[h1]at h;have h:Mc n f=O (p,l2):=h;unfold Mc at h;obtain⟨g,i⟩:=vE h1;cases h2:Zq f with|none=>rw[h2]at h;cases h|some q=>obtain⟨k,a⟩:=q;rw[h2]at h;have h:uF n k a=O (p,l2):=h;unfold uF at h;obtain⟨j,m⟩:=vE h2;unfold FJ Cy;rw[g,i,j,m];cases a with|nil=>cases h|cons x a=>obtain⟨o,d⟩:=YK x a;by_cases c:(x::a).head?=O 255;(·rw[if_pos c]at h;simp only[tF,rX]at h;obtain⟨rfl,rfl⟩:=h;have:x=255:=oK c;subst this;rw[d,o,if_pos (by rfl),if_pos (by rfl)];exact⟨rfl,rfl⟩);·rw[if_neg c]at h;have b:¬x.toNat=255:=fun e=>c (by rw[show x=255from pW.1 e];rfl);rw[d,if_neg b,if_neg b];cases h3:Zq (x::a)with|none=>rw[h3]at h;cases h|some q=>obtain⟨v,t⟩:=q;rw[h3]at h;simp only[tF,rX]at h;obtain⟨rfl,rfl⟩:=h;obtain⟨r,s⟩:=vE h3;rw[r,s];exact⟨rfl,rfl⟩
theorem aV{l:List UInt8}(h:YX l=M):(Cy ⟨l,tB⟩).short=tA:=by
 unfold YX at h;cases h1:Zq l with|none=>exact Ty (Vp (Ft h1))|some q=>obtain⟨n,f⟩:=q;rw[h1]at h;have h:Mc n f=M:=h;unfold Mc at h;obtain⟨j,d⟩:=vE h1;cases h2:Zq f with|none=>exact Ty (by rw[d];exact Ft h2)|some q=>obtain⟨k,a⟩:=q;rw[h2]at h;have h:uF n k a=M:=h;unfold uF at h;obtain⟨m,g⟩:=vE h2;unfold Cy;rw[d,g];cases a with|nil=>split;(·exact xW);·exact Ft rfl|cons x a=>obtain⟨o,i⟩:=YK x a;by_cases c:(x::a).head?=O 255;(·rw[if_pos c]at h;cases h);·rw[if_neg c]at h;have b:¬x.toNat=255:=fun e=>c (by rw[show x=255from pW.1 e];rfl);rw[i,if_neg b];cases h3:Zq (x::a)with|none=>exact Ft h3|some q=>obtain⟨v,p⟩:=q;rw[h3]at h;cases h
theorem Ix(r:Va):(FJ r).name.length<=255∧(FJ r).key.length<=255∧(FJ r).value.length<=255:=by
 unfold FJ;split;·exact⟨TO _,TO _,by simp⟩
 ·exact⟨TO _,TO _,TO _⟩
def Uq:Nat->Va->Va|0,r=>r|n+1,r=>Cy (Uq n r)
def Uk:Nat->Va->List Zc|0,_=>[]|n+1,r=>Uk n r++[FJ (Uq n r)]
theorem Mk:∀(n:Nat)(r:Va),(Uk n r).length=n|0,_=>rfl|n+1,r=>by rw[Uk,tH,Mk n r];rfl
theorem Ex:∀(n:Nat)(r:Va),TW (Uk n r)|0,_=>fun p a=>by simp[Uk]at a|n+1,r=>Cf (Ex n r) (Ix _)
theorem Et:∀(n:Nat){r:Va},r.short=tA->(Uq n r).short=tA|0,_,h=>h|n+1,_,h=>DH (Et n h)
theorem uU:∀(n:Nat){l l2:List UInt8}{ws:List Zc},ZK n l=O (ws,l2)->Uk n ⟨l,tB⟩=ws∧Uq n ⟨l,tB⟩=⟨l2,tB⟩|0,l,l2,ws,h=>by rw[ZK]at h;simp only[tF,rX]at h;obtain⟨rfl,rfl⟩:=h;exact⟨rfl,rfl⟩|n+1,l,l2,ws,h=>by rw[zN]at h;cases h1:ZK n l with|none=>rw[h1]at h;cases h|some q=>obtain⟨a,b⟩:=q;rw[h1]at h;have h:(match YX b with|O (w,r2)=>O (a++[w],r2)|none=>M)=O (ws,l2):=h;obtain⟨e,f⟩:=uU n h1;cases h2:YX b with|none=>rw[h2]at h;cases h|some q=>obtain⟨p,g⟩:=q;rw[h2]at h;simp only[tF,rX]at h;obtain⟨rfl,rfl⟩:=h;obtain⟨c,d⟩:=bL h2;rw[Uk,Uq,e,f,c,d];exact⟨rfl,rfl⟩
theorem Du:∀(n:Nat){l:List UInt8},ZK n l=M->(Uq n ⟨l,tB⟩).short=tA|0,l,h=>by rw[ZK]at h;cases h|n+1,l,h=>by rw[zN]at h;cases h1:ZK n l with|none=>exact DH (Du n h1)|some q=>obtain⟨a,b⟩:=q;rw[h1]at h;have h:(match YX b with|O (w,r2)=>O (a++[w],r2)|none=>M)=M:=h;obtain⟨d,c⟩:=uU n h1;cases h2:YX b with|none=>rw[Uq,c];exact aV h2|some q=>obtain⟨p,e⟩:=q;rw[h2]at h;cases h
def RS(r:Va):Va:=Uq (Js (Z8 (Z8 (Z8 r)))) (Z8 (Z8 (Z8 (Z8 r))))
def Eb(r:Va):Xy:=⟨((65536*Js r+256*Js (Z8 r)+Js (Z8 (Z8 r)):Nat):Int),Uk (Js (Z8 (Z8 (Z8 r)))) (Z8 (Z8 (Z8 (Z8 r))))⟩
theorem M5(r:Va):TW (Eb r).writes∧(Eb r).writes.length<=255:=⟨Ex _ _,by
 show(Uk _ _).length<=255;rw[Mk];exact pV (Yg _)⟩
theorem SZ(b:List UInt8)(h:¬b.length<4):Js ⟨b,tB⟩=(b.getD 0 0).toNat∧Js (Z8 ⟨b,tB⟩)=(b.getD 1 0).toNat∧Js (Z8 (Z8 ⟨b,tB⟩))=(b.getD 2 0).toNat∧Js (Z8 (Z8 (Z8 ⟨b,tB⟩)))=(b.getD 3 0).toNat∧Z8 (Z8 (Z8 (Z8 ⟨b,tB⟩)))=⟨b.drop 4,tB⟩:=by
 match b,h with|[],h=>exact absurd (by simp) h|[_],h=>exact absurd (by simp) h|[_,_],h=>exact absurd (by simp) h|[_,_,_],h=>exact absurd (by simp) h|x0::x1::x2::x3::b,_=>obtain⟨a,c⟩:=YK x0 (x1::x2::x3::b);obtain⟨d,e⟩:=YK x1 (x2::x3::b);obtain⟨f,g⟩:=YK x2 (x3::b);obtain⟨i,j⟩:=YK x3 b;rw[a,d,f,i];exact⟨c,e,g,j,rfl⟩
theorem eS(b:List UInt8)(h:b.length<4):(RS ⟨b,tB⟩).short=tA:=by
 unfold RS;refine Et _ ?_;match b,h with|[],_=>exact JY (JY (JY xW))|[x],_=>rw[(YK x []).1];exact JY (JY xW)|[x,y],_=>rw[(YK x [y]).1,(YK y []).1];exact JY xW|[x,y,z],_=>rw[(YK x [y,z]).1,(YK y [z]).1,(YK z []).1];exact xW|_::_::_::_::_,h=>exact absurd h (by simp only[sR];omega)
theorem Ir{b:List UInt8}(h0:¬4000<b.length)(h:(RS ⟨b,tB⟩).short=tA):Yx b=14∧Jq b=Zh:=by
 by_cases a:b.length<4;·exact AL a
 ·obtain⟨_,_,_,c,d⟩:=SZ b a;cases hb:GI b with|none=>exact Lo h0 a hb|some q=>obtain⟨f,l⟩:=q;obtain⟨_,e⟩:=uU _ hb;unfold RS at h;rw[c,d,e]at h;cases h
theorem MQ{b:List UInt8}(h:(RS ⟨b,tB⟩).short=tB):¬b.length<4∧GI b=O ((Eb ⟨b,tB⟩).writes,(RS ⟨b,tB⟩).rest)∧(VT b:Int)=(Eb ⟨b,tB⟩).turn:=by
 by_cases a:b.length<4;·rw[eS b a]at h;cases h
 ·obtain⟨e,f,g,c,d⟩:=SZ b a;refine⟨a,?_,?_⟩;(·cases hb:GI b with|none=>have:=Du _ hb;unfold RS at h;rw[c,d,this]at h;cases h|some q=>obtain⟨k,l⟩:=q;obtain⟨i,j⟩:=uU _ hb;unfold RS Eb;rw[c,d,i,j]);·unfold Eb;rw[e,f,g];rfl
theorem cS{b:List UInt8}(h0:¬4000<b.length)(h:(RS ⟨b,tB⟩).short=tB)(hr:(RS ⟨b,tB⟩).rest.length≠0):Yx b=4∧Jq b=Zh:=by
 obtain⟨a,c,_⟩:=MQ h;exact Lb h0 a c hr
theorem cH{b:List UInt8}(h0:¬4000<b.length)(h:(RS ⟨b,tB⟩).short=tB)(hr:(RS ⟨b,tB⟩).rest.length=0):Yx b=Q7 (Eb ⟨b,tB⟩)∧(Yx b=0->Jq b=Eb ⟨b,tB⟩)∧(Yx b≠0->Jq b=Zh):=by
 obtain⟨a,c,d⟩:=MQ h;have:=Hx h0 a c hr;rw[d]at this;exact this
theorem Zx(w:L)(o:Obj):∃W:L,Hid (W=w.alloc o)∧Y w W M∧Hid (W.heap[w.heap.size]?=O o):=⟨w.alloc o,rfl,sO _ _ _,oJ w o⟩
theorem jM(w:L)(b i:Nat)(u:N):∃W:L,Hid (W=tI w ⟨b,i,M⟩ u)∧Y w W (O b):=⟨_,rfl,Yz w b i u⟩
theorem gM:(199:Nat)≠5:=by
 decide
theorem dE:(199:Nat)≠122:=by
 decide
theorem Qe.rdr{w w':L}{b:Nat}{a0:Option rH}{n0 c0:Nat}{s:Bool}{t:sA}{v:N}{bs:List UInt8}(h:Qe w v bs)(hb:w.heap[b]?=O (tD #[S a0 n0 c0,tR s] t))(hg:Y w w' (O b)):Qe w' v bs:=by
 obtain⟨a,cap,rfl,f,h⟩:=h;refine⟨a,cap,rfl,f,?_⟩;rcases h with h|⟨g,o,rfl,h⟩;·exact .inl h
 ·by_cases d:bs=[];(·exact .inl ⟨d,fun e=>by cases e⟩);·refine .inr ⟨g,o,rfl,h.grown hg ?_⟩;intro e;cases e;have c:=h 0 (rV.2 d);simp only[tX,hb,Nat.add_zero]at c;match o,c with|0,c=>simp at c|1,c=>simp at c|o+2,c=>simp at c
structure Za (w0 w : L) (b : Nat) (r : Va) : Prop where
  at_ : ∃ a cap, w.heap[b]? = O (tD #[S a r.rest.length cap, tR r.short] 199) ∧ Qe w0 (S a r.rest.length cap) r.rest
  old : ∃ a n c s, w0.heap[b]? = O (tD #[S a n c, tR s] 199)
  grown : Y w0 w (O b)
theorem Za.lt{w0 w:L}{b:Nat}{r:Va}(h:Za w0 w b r):b<w.heap.size:=by
 obtain⟨a,cap,h,_⟩:=h.at_;exact(tJ.1 h).1
theorem Za.now{w0 w:L}{b:Nat}{r:Va}(h:Za w0 w b r){v:N}{bs:List UInt8}(hv:Qe w0 v bs):Qe w v bs:=by
 obtain⟨a,n,c,s,d⟩:=h.old;exact hv.rdr d h.grown
theorem Za.row{w0 w:L}{b:Nat}{r:Va}(h:Za w0 w b r):O b=M∨∃g cur t fz,O b=O g∧0<=g∧w.heap[g]?=O (tD cur t fz)∧t≠5:=by
 obtain⟨a,cap,h,_⟩:=h.at_;exact .inr ⟨b,_,_,_,rfl,tU _,h,gM⟩
theorem Qh.rdr{w0 w w':L}{b:Nat}{r:Va}{v:N}{bs:List UInt8}(h:Qh 0 w v bs)(hb:Za w0 w b r)(hg:Y w w' (O b)):Qh 0 w' v bs:=h.keptT hg hb.row
theorem Xj{w w':L}(hg:Y w w' M)(r:Option Nat):Y w w' r:=⟨hg.os,hg.tape,hg.output,hg.size,fun i hi _=>hg.block i hi (by
 simp)⟩
theorem Za.kept{w0 w w':L}{b:Nat}{r:Va}(h:Za w0 w b r)(hg:Y w w' M):Za w0 w' b r:=by
 have d:=h.lt;obtain⟨a,cap,c,e⟩:=h.at_;exact⟨⟨a,cap,by rw[hg.block b d (by simp)];exact c,e⟩,h.old,Qa h.grown (Xj hg _)⟩
theorem Z5{w w':L}{b:Nat}(hg:Y w w' (O b)){c:Nat}{o:Obj}(hc:w.heap[c]?=O o)(hne:c≠b):w'.heap[c]?=O o:=by
 rw[hg.block c (tJ.1 hc).1 (by simpa using hne)];exact hc
theorem Za.apart{w0 w w':L}{b:Nat}{r:Va}(h:Za w0 w b r){c:Nat}(hne:b≠c)(hc:w0.heap.size<=c)(hg:Y w w' (O c)):Za w0 w' b r:=by
 have e:=h.lt;obtain⟨a,cap,d,f⟩:=h.at_;exact⟨⟨a,cap,by rw[hg.block b e (by simpa using hne)];exact d,f⟩,h.old,Xu h.grown hc hg⟩
theorem QU.rdr{rb:Nat}{w0 w w':L}{b:Nat}{r:Va}{v:N}{l:List Zc}(h:QU rb 0 w v l)(hb:Za w0 w b r)(hg:Y w w' (O b)):QU rb 0 w' v l:=by
 obtain⟨a,cap,c,_⟩:=hb.at_;exact h.kept hg (.inr (h.ne c dE)) hb.row
theorem Za.ownV{rb:Nat}{w0 w w':L}{b:Nat}{r:Va}{v:N}{l:List Zc}(h:Za w0 w b r)(ho:QU rb 0 w v l)(hb:w0.heap.size<=rb)(hg:Y w w' v.ownBlock):Za w0 w' b r:=by
 obtain⟨a,cap,f,i⟩:=h.at_;have d:=ho.ne f dE;cases hv:v.ownBlock with|none=>rw[hv]at hg;exact h.kept hg|some g=>rw[hv]at hg d;exact h.apart (c:=g) (fun e=>d (by rw[e])) (tS hb (ho.lt g hv).1) hg
def XN(r:Rq):Nat->List UInt8|0=>[sW r.kind.toNat]|1=>[sW r.kind.toNat]++Xf (QP r.kind 0) r.name|2=>[sW r.kind.toNat]++Xf (QP r.kind 0) r.name++Xf (QP r.kind 1) r.key|3=>[sW r.kind.toNat]++Xf (QP r.kind 0) r.name++Xf (QP r.kind 1) r.key++Xf (QP r.kind 2) r.last|_=>[sW r.kind.toNat]++Xf (QP r.kind 0) r.name++Xf (QP r.kind 1) r.key++Xf (QP r.kind 2) r.last++Xf (QP r.kind 3) r.value
theorem Hf(r:Rq):XN r 4=Vb r:=by
 show[sW r.kind.toNat]++Xf (QS r.kind) r.name++Xf (QS r.kind) r.key++Xf (tV (r.kind=3)) r.last++Xf (tV (r.kind=4)) r.value=_;rw[Vb,qX];simp[pS]
theorem Lu{r:Rq}(h:VA r)(m:Nat):(XN r m).length<=200:=by
 have a:r.name.length<=8:=by by_cases e:QS r.kind=tA;(·exact(h.name e).2);·rw[h.noName (by simpa using e)];simp
 have b:r.key.length<=16:=by by_cases e:QS r.kind=tA;(·exact(h.key e).2);·rw[h.noKey (by simpa using e)];simp
 have c:r.last.length<=16:=by by_cases e:r.kind=3;(·exact(h.last e).2);·rw[h.noLast e];simp
 have d:=h.value;have f:=KI (QP r.kind 0) r.name;have g:=KI (QP r.kind 1) r.key;have i:=KI (QP r.kind 2) r.last;have j:=KI (QP r.kind 3) r.value;match m with|0=>simp[XN]|1=>simp only[XN,tH,sC];omega|2=>simp only[XN,tH,sC];omega|3=>simp only[XN,tH,sC];omega|m+4=>simp only[XN,tH,sC];omega
def Wv:Prop:=∀(w:L)(v:N)(t:VQ),KD w v t->xI t->rB tC 31 #[v] w fun e w'=>∃x,e=tK (sJ #[x,tE tG (TU t)])∧Yo w' x (J8 t)∧Y w w' M
def Br:Prop:=∀(w:L)(v:N)(t:VQ)(keep:Int),KD w v t->xI t->-9223372036854775808<=keep->keep<=9223372036854775807->rB tC 42 #[v,tE tG keep] w fun e w'=>∃x,e=tK (sJ #[x,tE tG (Ud t keep)])∧Yo w' x (Xk t keep)∧Y w w' M
theorem Ea:(66:Nat)≠5:=by
 decide
theorem SK:(66:Nat)≠122:=by
 decide
theorem RW:(66:Nat)≠134:=by
 decide
def Wp:Prop:=∀(w:L)(v:N)(a:Ac),LM w v a->Aa a->rB tC 14 #[v] w fun e w'=>e=tK (tE tG (YM a))∧Y w w' M
theorem Is(s q:Int)(d:List UInt8):YM ⟨1,s,q,d⟩=if 0<=s∧s<=7then(if 4000<d.length then 1 else if q=0then 0 else 4)else 2:=by
 unfold YM;rw[if_pos (by show(1:Int)<=1∧(1:Int)<=4;omega)];by_cases a:0<=s∧s<=7;·rw[if_pos a,if_neg (by rintro(⟨_,h⟩|⟨h,_⟩);exact h a;cases h)];by_cases b:4000<d.length;(·rw[if_pos b,if_pos b]);·rw[if_neg b,if_neg b];by_cases c:q=0;(·rw[if_pos c,if_neg];rintro(⟨h,_⟩|⟨_,h⟩|⟨h,_⟩);(·exact h rfl);(·exact h c);·exact h rfl);·rw[if_neg c,if_pos (.inr (.inl ⟨by show(1:Int)≠3;decide,c⟩))]
 ·rw[if_neg a,if_pos (.inl ⟨rfl,a⟩)]
theorem Az(s q:Int)(d:List UInt8):YM ⟨3,s,q,d⟩=if 0<=q∧q<=200000then(if 4000<d.length then 1 else if s=0then(if 0<d.length then 4 else 0)else 4)else 2:=by
 unfold YM;rw[if_pos (by show(1:Int)<=3∧(3:Int)<=4;omega)];by_cases a:0<=q∧q<=200000;·rw[if_pos a,if_neg (by rintro(⟨h,_⟩|⟨_,h⟩);cases h;exact h a)];by_cases b:4000<d.length;(·rw[if_pos b,if_pos b]);·rw[if_neg b,if_neg b];by_cases c:s=0;(·rw[if_pos c];by_cases e:0<d.length;(·rw[if_pos e,if_pos (.inr (.inr ⟨by show(3:Int)≠1;decide,e⟩))]);·rw[if_neg e,if_neg];rintro(⟨_,h⟩|⟨h,_⟩|⟨_,h⟩);(·exact h c);(·exact h rfl);·exact e h);·rw[if_neg c,if_pos (.inl ⟨by show(3:Int)≠1;decide,c⟩)]
 ·rw[if_neg a,if_pos (.inr ⟨rfl,a⟩)]
theorem Cs(k s q:Int)(d:List UInt8)(hk:k=2∨k=4):YM ⟨k,s,q,d⟩=if 4000<d.length then 1 else if s=0then(if q=0then(if 0<d.length then 4 else 0)else 4)else 4:=by
 unfold YM;have f:¬k=1:=by omega
 have g:¬k=3:=by omega
 rw[if_pos (by show 1<=k∧k<=4;omega),if_neg (by rintro(⟨h,_⟩|⟨h,_⟩);exact f h;exact g h)];by_cases a:4000<d.length;·rw[if_pos a,if_pos a]
 ·rw[if_neg a,if_neg a];by_cases b:s=0;(·rw[if_pos b];by_cases e:q=0;(·rw[if_pos e];by_cases c:0<d.length;(·rw[if_pos c,if_pos (.inr (.inr ⟨f,c⟩))]);·rw[if_neg c,if_neg];rintro(⟨_,h⟩|⟨_,h⟩|⟨_,h⟩);(·exact h b);(·exact h e);·exact c h);·rw[if_neg e,if_pos (.inr (.inl ⟨g,e⟩))]);·rw[if_neg b,if_pos (.inl ⟨f,b⟩)]
structure vP(g:Gr):Prop where kind:-9223372036854775808<=g.kind∧g.kind<=9223372036854775807sess:-9223372036854775808<=g.sess∧g.sess<=9223372036854775807name:-9223372036854775808<=g.name∧g.name<=9223372036854775807key:-9223372036854775808<=g.key∧g.key<=9223372036854775807value:-9223372036854775808<=g.value∧g.value<=9223372036854775807
def aB(w:L)(b o:Nat)(g:Gr):Prop:=w.cell? ⟨b,o,M⟩=O (tE tG g.kind)∧w.cell? ⟨b,o+1,M⟩=O (tE tG g.sess)∧w.cell? ⟨b,o+2,M⟩=O (tE tG g.name)∧w.cell? ⟨b,o+3,M⟩=O (tE tG g.key)∧w.cell? ⟨b,o+4,M⟩=O (tE tG g.value)
theorem aB.grown{w w':L}{b o:Nat}{g:Gr}(h:aB w b o g)(hg:Y w w' M):aB w' b o g:=⟨hg.cell h.1 (by
 simp),hg.cell h.2.1 (by
 simp),hg.cell h.2.2.1 (by
 simp),hg.cell h.2.2.2.1 (by
 simp),hg.cell h.2.2.2.2 (by
 simp)⟩
def Kr(w:L)(v:N)(l:List Gr):Prop:=∃a cap,v=S a l.length cap∧l.length<=cap∧(l=[]∨∃b o,a=O ⟨b,o,M⟩∧∀i,i<l.length->aB w b (o+i*5) (l.getD i jZ))
theorem Kr.shape{w:L}{v:N}{l:List Gr}(h:Kr w v l):∃a cap,v=S a l.length cap:=by
 obtain⟨a,cap,rfl,_⟩:=h;exact⟨a,cap,rfl⟩
theorem Kr.grown{w w':L}{v:N}{l:List Gr}(h:Kr w v l)(hg:Y w w' M):Kr w' v l:=by
 obtain⟨a,cap,rfl,c,h⟩:=h;refine⟨a,cap,rfl,c,?_⟩;rcases h with h|⟨b,o,rfl,h⟩;·exact .inl h
 ·exact .inr ⟨b,o,rfl,fun i d=>(h i d).grown hg⟩
theorem Kr.at{w:L}{a:Option rH}{n cap:Nat}{l:List Gr}(h:Kr w (S a n cap) l)(i:Nat)(hi:i<l.length):∃b o,a=O ⟨b,o,M⟩∧aB w b (o+i*5) (l.getD i jZ):=by
 obtain⟨d,c,e,_,h⟩:=h;simp only[tM]at e;obtain⟨rfl,_,_⟩:=e;rcases h with rfl|⟨b,o,rfl,h⟩;·simp at hi
 ·exact⟨b,o,rfl,h i hi⟩
def Nb(l:List Gr):Prop:=∀g∈l,vP g
theorem Mj{l:List Gr}{m:Nat}(h:m<l.length):Ya l (m+1)=Ya l m++[Ry (l.getD m jZ)]:=by
 unfold Ya;rw[List.take_add_one,List.map_append];simp[h]
theorem Cj(l:List Gr)(m:Nat):(Ya l m).length=min m l.length:=by
 simp[Ya]
section
open Go.ChangeShapes Go.WideShapes Go.ChangeAt Go.RowKit
theorem g8:ownKnob tC.godebug=M:=by
 kernel_rfl
theorem aW:laidOutB tC=tA:=by
 kernel_rfl
theorem VG{n:Int}(h:(Lit.int tG n).wf=tA):-9223372036854775808<=n∧n<=9223372036854775807:=bounds_i64 h
theorem Oe{w w':L}(h:Y w w' M):Below w.heap.size w w':=⟨h.os,h.tape,h.output,h.size,fun k hk=>h.block k hk (by
 simp)⟩
end
end Go.Proofs.YtpdbpagohccbpaaGreatDoor
