/-
  Texts of this proof, joined, with few blanks: AcM0, PairM0, PairB, WrMem, CmtMem, TapeA, TapeB, TapeK, HistF, HistC, TxnF, TxnG, SrvF, SrvI, SrvO, TopF, TenMem, CmtSet, RdMem, StepMem, SvK, SvG, CmtTy, CmtRow, CmtRowD, TxNote, TxM, TxnL, TxCheck, TCCheck, PairStepQ, PairSlice, FCCheck, FCApply, TxMs, RqRd, WrCkF, TxLook, FCGet, FindM, SrvS, SrvL, SrvM, SrvN, TxClash, TpEnc, TpCheck, BSlice, CmtFit, TxScan, TCRange, FCRange, BitC, PartC, TxWrite, RqWt, HsKept, RqDe, TapeH, WrDtF, SrvT, AcMem, RdrF, RdrMem, FrameB, GearM, TpSync, TpCrash, TapTy, LnCk, LineH, SrvC, WrEnF.
-/
import Derived.Deep.AppendLies
import Derived.Test.YtiahomhpaejnhaaGreatDoorQ1
import Derived.Maps.AppendAt
import Derived.Deep.RegionWith
import Derived.Handy
import Derived.ProofKit
import Derived.OpenShut
import Derived.ShutString
import Derived.ChangeOld
import Derived.Deep.DeepHandedRow
import Derived.SizedLaws
import Derived.Test.YtiahomhpaejnhaaGreatDoorRows
set_option maxRecDepth 100000
set_option maxHeartbeats 8000000
open Array renaming getElem?_eq_some_iff->tM,getElem?_modify->sC,getElem?_toList->pE
open Bool renaming false->tA,true->tB,and_eq_true->rI,or_eq_false_iff->rV,false_or->pS
open Classical renaming byContradiction->rA
open Decidable renaming decide->tX
open Go renaming World->L,Value->N,TypeId->sE,undef->sS,sliced->sZ,Calls->rC,Addr->rK,Operand->rM,Oper->rO,info_parts->r8,yielded->pG,maxLen->pN
open Go.Addr.mk renaming injEq->rS
open Go.Ending renaming returned->tI
open Go.Instr renaming slice->rY
open Go.IntKind renaming i64->tF,u8->pF
open Go.Obj renaming cells->tD
open Go.Obj.cells renaming injEq->sD
open Go.Proofs.Tryz renaming prog->tC
open Go.Region renaming wanted->sM
open Go.Result renaming andThen->rP
open Go.Value renaming slice->S,int->tE,bool->tS,tuple->sK,agg->sY,ownBlock->pQ
open Go.Value.slice renaming injEq->tL
open Go.World renaming grownBy->Y,setCell->tJ,cell?->sB,cell?_of_block->sU,ownsRow_nil->sV,grownBy_alloc->sW,news_of_block->rG,frozen?->pA,cell?_setCell_same'->pR
open Go.World.ownsRow renaming kept->sA,lt->sN
open Int renaming toNat_natCast->sH,emod_lt_of_pos->oV
open List renaming length_append->tH,eq_nil_of_length_eq_zero->tN,mem_cons->tP,mem_cons_of_mem->tQ,mem_cons_self->tR,not_mem_nil->tT,flatMap_cons->tU,append_nil->tY,length_cons->tZ,mem_append->sF,length_singleton->sI,getElem?_take->sJ,take_length->sL,foldl_cons->sO,getElem_mem->sP,getElem?_eq_some_iff->sQ,any_eq_true->sR,drop_eq_getElem_cons->rD,take_succ_eq_append_getElem->rF,pairwise_cons->rH,flatMap_nil->rJ,take_succ_cons->rN,take_append_drop->rT,length_set->rW,length_pos_iff->rX,append_assoc->pB,length_take->pC,any_cons->pI,map_cons->pJ,take_set->pK,length_drop->pM,length_nil->pO,take_append_of_le_length->pP,getElem?_append_left->pT,find?_cons_of_pos->pU,find?_cons_of_neg->pV,getElem?_append->pW,drop_succ_cons->pX,set_cons_succ->pY,nodup_append->pZ,cons_append->oW,nil_append->o5,nodup_cons->o6,mem_filter->o7,take_take->o8
open Nat renaming lt_of_lt_of_le->tK,le_trans->tV,zero_le->tW,le_refl->sG,zero_add->sX,succ_mul->pD,mul_le_mul_right->pH,sub_zero->pL,le_of_lt_succ->oX,min_eq_left->o9
open Option renaming none->M,some->O,map_some->rU
open Option.some renaming injEq->tG
open Prod.mk renaming injEq->r7
open UInt8 renaming ofNat->rB,toNat_inj->oY
namespace Go.Proofs.YtiahomhpaejnhaaGreatDoor
open Go.RowKit
def Iy(w:L)(v:N)(a:Ac):Prop:=∃vd,v=sY #[tE tF a.kind,tE tF a.sess,tE tF a.keep,vd]∧Qe w vd a.data
theorem Iy.grown{w w':L}{v:N}{a:Ac}(h:Iy w v a)(hg:Y w w' M):Iy w' v a:=by
 obtain⟨c,rfl,b⟩:=h;exact⟨c,rfl,b.grown hg⟩
theorem Iy.agg{w:L}{v:N}{a:Ac}(h:Iy w v a):∃da dc,v=sY #[tE tF a.kind,tE tF a.sess,tE tF a.keep,S da a.data.length dc]∧Qe w (S da a.data.length dc) a.data:=by
 obtain⟨c,rfl,b⟩:=h;obtain⟨da,dc,rfl⟩:=b.shape;exact⟨da,dc,rfl,b⟩
def Ah(w:L)(b o:Nat)(a:Ac):Prop:=∃vd,w.cell? ⟨b,o,M⟩=O (tE tF a.kind)∧w.cell? ⟨b,o+1,M⟩=O (tE tF a.sess)∧w.cell? ⟨b,o+2,M⟩=O (tE tF a.keep)∧w.cell? ⟨b,o+3,M⟩=O vd∧Qe w vd a.data
theorem Ah.grown{w w':L}{b o:Nat}{a:Ac}(h:Ah w b o a)(hg:Y w w' M):Ah w' b o a:=by
 obtain⟨i,c,d,e,f,g⟩:=h;exact⟨i,hg.cell c (by simp),hg.cell d (by simp),hg.cell e (by simp),hg.cell f (by simp),g.grown hg⟩
def Yn(w:L)(v:N)(l:List Ac):Prop:=∃a cap,v=S a l.length cap∧l.length<=cap∧((l=[]∧(a=M->cap=0))∨∃b o,a=O ⟨b,o,M⟩∧∀i,i<l.length->Ah w b (o+i*4) (l.getD i YM))
theorem ED(w:L):Yn w (S M 0 0) []:=⟨M,0,rfl,sG _,.inl ⟨rfl,fun _=>rfl⟩⟩
theorem Yn.shape{w:L}{v:N}{l:List Ac}(h:Yn w v l):∃a cap,v=S a l.length cap:=by
 obtain⟨a,cap,rfl,_⟩:=h;exact⟨a,cap,rfl⟩
theorem Yn.grown{w w':L}{v:N}{l:List Ac}(h:Yn w v l)(hg:Y w w' M):Yn w' v l:=by
 obtain⟨a,cap,rfl,c,h⟩:=h;refine⟨a,cap,rfl,c,?_⟩;rcases h with h|⟨b,o,rfl,h⟩;·exact .inl h
 ·exact .inr ⟨b,o,rfl,fun i d=>(h i d).grown hg⟩
theorem Yn.at{w:L}{a:Option rK}{n cap:Nat}{l:List Ac}(h:Yn w (S a n cap) l)(i:Nat)(hi:i<l.length):∃b o,a=O ⟨b,o,M⟩∧Ah w b (o+i*4) (l.getD i YM):=by
 obtain⟨d,c,e,f,h⟩:=h;simp only[tL]at e;obtain⟨rfl,rfl,rfl⟩:=e;rcases h with⟨rfl,_⟩|⟨b,o,rfl,h⟩;·simp at hi
 ·exact⟨b,o,rfl,h i hi⟩
structure Lh(a:Ac):Prop where kind:-9223372036854775808<=a.kind∧a.kind<=9223372036854775807sess:-9223372036854775808<=a.sess∧a.sess<=9223372036854775807keep:-9223372036854775808<=a.keep∧a.keep<=9223372036854775807data:a.data.length<=140737488355328
structure El (l : List Ac) : Prop where
  many : l.length * 48 <= 140737488355328
  each : ∀ i, i < l.length -> Lh (l.getD i YM)
theorem Wn{a:Ac}(h:Z6 a):Lh a:=by
 have b:=h.kind;have c:=h.data;have d:0<=a.sess∧a.sess<=7:=by by_cases e:a.kind=1;(·exact h.sess e);·rw[h.noSess e];omega
 have f:0<=a.keep∧a.keep<=200000:=by by_cases e:a.kind=3;(·exact h.keep e);·rw[h.noKeep e];omega
 exact⟨by omega,by omega,by omega,by omega⟩
abbrev AV:=Ac×N
def Lv:AV:=(YM,sS)
def YK(us:List AV):List N:=us.flatMap fun x=>[tE tF x.1.kind,tE tF x.1.sess,tE tF x.1.keep,x.2]
theorem kB(us:List AV):(YK us).length=us.length*4:=by
 induction us with|nil=>rfl|cons x us ih=>rw[YK,tU,tH,<-YK,ih,tZ];simp;omega
theorem Pv(a b:List AV):YK (a++b)=YK a++YK b:=by
 simp[YK]
theorem FK:∀(us:List AV)(i:Nat),i<us.length->(YK us)[i*4]?=O (tE tF (us.getD i Lv).1.kind)∧(YK us)[i*4+1]?=O (tE tF (us.getD i Lv).1.sess)∧(YK us)[i*4+2]?=O (tE tF (us.getD i Lv).1.keep)∧(YK us)[i*4+3]?=O (us.getD i Lv).2|[],i,h=>by simp at h|x::us,0,_=>⟨rfl,rfl,rfl,rfl⟩|x::us,i+1,h=>by have:=FK us i (by simpa using h);rw[show(i+1)*4=i*4+4by omega];exact this
theorem cU:(34:Nat)≠5:=by
 decide
def JK(rb:Nat)(w:L)(v:N)(l:List Ac):Prop:=∃us:List AV,us.map (·.1)=l∧w.ownsRow rb 34 4 v l.length (YK us)∧∀x∈us,Qf 0 w x.2 x.1.data
theorem bF(rb:Nat)(w:L):JK rb w (S M 0 0) []:=⟨[],rfl,sV _ _ _ _,fun x hx=>by
 simp at hx⟩
theorem JK.row{rb:Nat}{w:L}{v:N}{l:List Ac}(h:JK rb w v l):v.ownBlock=M∨∃g cur fz,v.ownBlock=O g∧rb<=g∧w.heap[g]?=O (tD cur 34 fz):=by
 obtain⟨c,_,h,_⟩:=h;rcases h.2with⟨rfl,_⟩|⟨g,cap,cur,rfl,a,b,_⟩;·exact .inl rfl
 ·exact .inr ⟨g,cur,_,rfl,a,b⟩
theorem JK.lt{rb:Nat}{w:L}{v:N}{l:List Ac}(h:JK rb w v l):∀k,v.ownBlock=O k->rb<=k∧k<w.heap.size:=by
 obtain⟨a,_,h,_⟩:=h;exact sN h
theorem JK.grownNone{rb:Nat}{w w':L}{v:N}{l:List Ac}(h:JK rb w v l)(hg:Y w w' M):JK rb w' v l:=by
 obtain⟨e,a,b,c⟩:=h;refine⟨e,a,sA b hg ?_,fun x d=>(c x d).keptT hg (.inl rfl)⟩;cases hv:v.ownBlock with|none=>exact .inl rfl|some k=>exact .inr (by simp)
theorem JK.alloc{rb:Nat}{w:L}{v:N}{l:List Ac}(h:JK rb w v l)(o:Obj):JK rb (w.alloc o) v l:=h.grownNone (sW _ _ _)
theorem JK.shape{rb:Nat}{w:L}{v:N}{l:List Ac}(h:JK rb w v l):∃a cap,v=S a l.length cap:=by
 obtain⟨d,_,h,_⟩:=h;rcases h.2with⟨rfl,c⟩|⟨g,cap,b,rfl,_⟩;·exact⟨M,0,by rw[c]⟩
 ·exact⟨_,cap,rfl⟩
theorem Me{us:List AV}{l:List Ac}(h:us.map (·.1)=l)(i:Nat)(hi:i<l.length):(us.getD i Lv).1=l.getD i YM∧us.getD i Lv∈us:=by
 subst h;have a:i<us.length:=by simpa using hi
 refine⟨by simp[a],?_⟩;rw[show us.getD i Lv=us[i]by simp[a]];exact sP a
theorem JK.list{rb:Nat}{w:L}{v:N}{l:List Ac}(h:JK rb w v l):Yn w v l:=by
 obtain⟨c,o,r,y⟩:=h;rcases r.2with⟨rfl,x⟩|⟨g,cap,d,rfl,D,z,B,E,F,C⟩;·have:l=[]:=tN x;rw[this];exact ED w
 ·(have a:∀j u,(YK c)[j]?=O u->w.cell? ⟨g,j,M⟩=O u:=by intro j u n;(have e:j<l.length*4:=by have:=(sQ.1 n).1;rw[r.1]at this;exact this);(have b:(d.toList.take (l.length*4))[j]?=(YK c)[j]?:=by rw[C]);rw[sJ,if_pos e,n]at b;simp[sB,z];simpa using b);refine⟨_,cap,rfl,B,.inr ⟨g,0,rfl,fun i A=>?_⟩⟩;obtain⟨t,b⟩:=Me o i A;(have p:c.length=l.length:=by rw[<-o];simp);obtain⟨f,k,m,s⟩:=FK c i (by omega);have q:=y _ b;rw[t]at f k m q;rw[sX];exact⟨_,a _ _ f,a _ _ k,a _ _ m,a _ _ s,q.1⟩
theorem T7{rb:Nat}{w W w1:L}{v:N}{l:List Ac}(h:Y w W M)(ho:JK rb W v l)(hb:w.heap.size<=rb)(hg:Y W w1 v.ownBlock):Y w w1 M:=⟨hg.os.trans h.os,hg.tape.trans h.tape,hg.output.trans h.output,tV h.size hg.size,fun i a b=>(hg.block i (tK a h.size) (fun e=>by
 have:=(ho.lt i e.symm).1;omega)).trans (h.block i a b)⟩
theorem EF:(tC.info? 34).map (fun i=>(i.zero,i.size,i.bytes))=O (O (sY #[tE tF 0,tE tF 0,tE tF 0,S M 0 0]),4,48):=by
 kernel_rfl
def Dz(w:L)(v:N)(p:Pr):Prop:=∃vk vv,v=sY #[vk,vv]∧Qe w vk p.1∧Qe w vv p.2
theorem Dz.grown{w w':L}{v:N}{p:Pr}(h:Dz w v p)(hg:Y w w' M):Dz w' v p:=by
 obtain⟨c,d,rfl,a,b⟩:=h;exact⟨c,d,rfl,a.grown hg,b.grown hg⟩
def Fz(w:L)(b o:Nat)(p:Pr):Prop:=∃vk vv,w.cell? ⟨b,o,M⟩=O vk∧w.cell? ⟨b,o+1,M⟩=O vv∧Qe w vk p.1∧Qe w vv p.2
theorem Fz.grown{w w':L}{b o:Nat}{p:Pr}(h:Fz w b o p)(hg:Y w w' M):Fz w' b o p:=by
 obtain⟨f,g,a,c,d,e⟩:=h;exact⟨f,g,hg.cell a (by simp),hg.cell c (by simp),d.grown hg,e.grown hg⟩
def Qo(w:L)(v:N)(l:PL):Prop:=∃a cap,v=S a l.length cap∧l.length<=cap∧((l=[]∧(a=M->cap=0))∨∃b o,a=O ⟨b,o,M⟩∧∀i,i<l.length->Fz w b (o+i*2) (l.getD i ([],[])))
theorem Yu(w:L):Qo w (S M 0 0) []:=⟨M,0,rfl,sG _,.inl ⟨rfl,fun _=>rfl⟩⟩
theorem Qo.grown{w w':L}{v:N}{l:PL}(h:Qo w v l)(hg:Y w w' M):Qo w' v l:=by
 obtain⟨a,cap,rfl,c,h⟩:=h;refine⟨a,cap,rfl,c,?_⟩;rcases h with h|⟨b,o,rfl,h⟩;·exact .inl h
 ·exact .inr ⟨b,o,rfl,fun i d=>(h i d).grown hg⟩
theorem Qo.shape{w:L}{v:N}{l:PL}(h:Qo w v l):∃a cap,v=S a l.length cap:=by
 obtain⟨a,cap,rfl,_⟩:=h;exact⟨a,cap,rfl⟩
theorem Qo.at{w:L}{a:Option rK}{n cap:Nat}{l:PL}(h:Qo w (S a n cap) l)(i:Nat)(hi:i<l.length):∃b o,a=O ⟨b,o,M⟩∧Fz w b (o+i*2) (l.getD i ([],[])):=by
 obtain⟨d,c,e,f,h⟩:=h;simp only[tL]at e;obtain⟨rfl,rfl,rfl⟩:=e;rcases h with⟨rfl,_⟩|⟨b,o,rfl,h⟩;·simp at hi
 ·exact⟨b,o,rfl,h i hi⟩
theorem Qf.kept{base:Nat}{w w':L}{v:N}{bs:List UInt8}(h:Qf base w v bs){row:Option Nat}(hg:Y w w' row)(hrow:row=M∨∃g cur fz,row=O g∧base<=g∧w.heap[g]?=O (tD cur 50 fz)):Qf base w' v bs:=by
 obtain⟨q,u⟩:=h;rcases u with rfl|⟨b,l,j,c⟩;·obtain⟨a,cap,rfl,c,h⟩:=q;refine⟨⟨a,cap,rfl,c,?_⟩,.inl rfl⟩;rcases h with h|⟨b,o,rfl,h⟩;(·exact .inl h);·exact .inr ⟨b,o,rfl,fun i n=>by simp at n⟩
 ·(have k:O b≠row:=by intro e;rcases hrow with rfl|⟨g,cur,fz,rfl,t,f⟩;(·cases e);·cases e;rcases c with c|⟨p,s,c⟩;(·omega);·rw[c]at f;simp at f);have d:=hg.block b j k;refine⟨?_,.inr ⟨b,l,tK j hg.size,?_⟩⟩;(·obtain⟨a,cap,rfl,m,h⟩:=q;refine⟨a,cap,rfl,m,?_⟩;rcases h with h|⟨r,o,rfl,h⟩;(·exact .inl h);·refine .inr ⟨r,o,rfl,fun i n=>?_⟩;simp[pQ]at l;subst l;exact hg.cell (h i n) (by simpa using k));·rcases c with c|⟨cur,fz,c⟩;(·exact .inl c);·exact .inr ⟨cur,fz,by rw[d];exact c⟩
def flat(vs:List (N×N)):List N:=vs.flatMap fun x=>[x.1,x.2]
theorem KW(vs:List (N×N)):(flat vs).length=vs.length*2:=by
 induction vs with|nil=>rfl|cons x r ih=>simp only[flat,tU,tH,tZ,pO]at ih⊢;omega
theorem Kj(a b:List (N×N)):flat (a++b)=flat a++flat b:=by
 simp[flat]
theorem yY:∀(vs:List (N×N))(i:Nat),i<vs.length->(flat vs)[i*2]?=O (vs.getD i (sS,sS)).1∧(flat vs)[i*2+1]?=O (vs.getD i (sS,sS)).2|[],i,h=>by simp at h|x::r,0,_=>by simp[flat]|x::r,i+1,h=>by have:=yY r i (by simpa using h);rw[show(i+1)*2=i*2+2by omega,show i*2+2+1=(i*2+1)+2by omega];simpa[flat]using this
def G3(base:Nat)(w:L)(v:N)(l:PL):Prop:=∃vs:List (N×N),vs.length=l.length∧w.ownsRow base 50 2 v l.length (flat vs)∧∀i,i<l.length->Qf base w (vs.getD i (sS,sS)).1 (l.getD i ([],[])).1∧Qf base w (vs.getD i (sS,sS)).2 (l.getD i ([],[])).2
theorem G3.row{base:Nat}{w:L}{v:N}{l:PL}(h:G3 base w v l):v.ownBlock=M∨∃g cur fz,v.ownBlock=O g∧base<=g∧w.heap[g]?=O (tD cur 50 fz):=by
 obtain⟨c,_,h,_⟩:=h;rcases h.2with⟨rfl,_⟩|⟨g,cap,cur,rfl,a,b,_⟩;·exact .inl rfl
 ·exact .inr ⟨g,cur,_,rfl,a,b⟩
theorem G3.lt{base:Nat}{w:L}{v:N}{l:PL}(h:G3 base w v l):∀k,v.ownBlock=O k->base<=k∧k<w.heap.size:=by
 obtain⟨a,_,h,_⟩:=h;exact sN h
theorem G3.grownNone{base:Nat}{w w':L}{v:N}{l:PL}(h:G3 base w v l)(hg:Y w w' M):G3 base w' v l:=by
 obtain⟨e,c,d,a⟩:=h;refine⟨e,c,sA d hg ?_,fun i b=>⟨((a i b).1).kept hg (.inl rfl),((a i b).2).kept hg (.inl rfl)⟩⟩;cases hv:v.ownBlock with|none=>exact .inl rfl|some k=>exact .inr (by simp)
theorem G3.alloc{base:Nat}{w:L}{v:N}{l:PL}(h:G3 base w v l)(o:Obj):G3 base (w.alloc o) v l:=h.grownNone (sW _ _ _)
theorem G3.shape{base:Nat}{w:L}{v:N}{l:PL}(h:G3 base w v l):∃a cap,v=S a l.length cap:=by
 obtain⟨d,_,h,_⟩:=h;rcases h.2with⟨rfl,c⟩|⟨g,cap,b,rfl,_⟩;·exact⟨M,0,by rw[c]⟩
 ·exact⟨_,cap,rfl⟩
theorem lD{base:Nat}{w W w1:L}{v:N}{l:PL}(h:Y w W M)(ho:G3 base W v l)(hb:w.heap.size<=base)(hg:Y W w1 v.ownBlock):Y w w1 M:=⟨hg.os.trans h.os,hg.tape.trans h.tape,hg.output.trans h.output,tV h.size hg.size,fun i a b=>(hg.block i (tK a h.size) (fun e=>by
 have:=(ho.lt i e.symm).1;omega)).trans (h.block i a b)⟩
theorem Bu:(tC.info? 50).map (fun i=>(i.zero,i.size,i.bytes))=O (O (sY #[S M 0 0,S M 0 0]),2,48):=by
 kernel_rfl
theorem Ju{α:Type}(a b:List α)(i:Nat)(d:α):(a++b).getD i d=if i<a.length then a.getD i d else b.getD (i-a.length) d:=by
 by_cases h:i<a.length;·rw[if_pos h];simp[pW,h]
 ·rw[if_neg h];simp[pW,h]
theorem kQ(vs:List (N×N))(k:Nat):flat (vs.take k)=(flat vs).take (k*2):=by
 induction vs generalizing k with|nil=>simp[flat]|cons x r ih=>cases k with|zero=>simp[flat]|succ k=>rw[rN,show(k+1)*2=k*2+2by omega];have:=ih k;simp only[flat,tU,oW,o5,rN]at this⊢;rw[this]
theorem NP(vs:List (N×N))(k:Nat):flat (vs.drop k)=(flat vs).drop (k*2):=by
 induction vs generalizing k with|nil=>simp[flat]|cons x r ih=>cases k with|zero=>simp[flat]|succ k=>rw[pX,show(k+1)*2=k*2+2by omega];have:=ih k;simp only[flat,tU,oW,o5,pX]at this⊢;rw[this]
theorem G3.cells{base:Nat}{w:L}{g n cap:Nat}{vs:List (N×N)}{l:PL}(hr:w.ownsRow base 50 2 (S (O ⟨g,0,M⟩) n cap) l.length (flat vs)):∀j u,(flat vs)[j]?=O u->w.cell? ⟨g,j,M⟩=O u:=by
 intro j u f;rcases hr.2with⟨e,_⟩|⟨k,c,a,e,m,h,p,o,q,i⟩;·cases e
 ·simp only[tL,tG,rS]at e;obtain⟨⟨rfl,_⟩,_,_⟩:=e;(have b:j<l.length*2:=by have:=(sQ.1 f).1;rw[hr.1]at this;exact this);(have d:(a.toList.take (l.length*2))[j]?=(flat vs)[j]?:=by rw[i]);rw[sJ,if_pos b,f]at d;simp[sB,h];simpa using d
theorem Za.setOther{base:Nat}{w:L}{v:N}{bs:List UInt8}(h:Za base w v bs)(c i:Nat)(x:N)(hc:c<base):Za base (tJ w ⟨c,i,M⟩ x) v bs:=by
 refine h.grown (row:=O c) (Qh (Qb _ _) i x) ?_;cases hv:v.ownBlock with|none=>exact .inl rfl|some k=>have:=(h.lt k hv).1;exact .inr (by simp;omega)
theorem Vt{W w:L}{b:Nat}{x y:N}{t:sE}(hg:Y W w M)(h:W.heap[b]?=O (tD #[x,y] t))(u v:N):(tJ w ⟨b,0,M⟩ u).cell? ⟨b,0,M⟩=O u∧((tJ w ⟨b,0,M⟩ u).setCell ⟨b,1,M⟩ v).cell? ⟨b,1,M⟩=O v:=by
 have a:w.heap[b]?=O (tD #[x,y] t):=by rw[hg.block b (tM.1 h).1 (by simp)];exact h
 have c:w.cell? ⟨b,0,M⟩=O x:=by simp[sB,a]
 have d:w.cell? ⟨b,1,M⟩=O y:=by simp[sB,a]
 refine⟨pR _ _ _ (by rw[c];rfl),pR _ _ _ ?_⟩;rw[World.cell?_setCell_other _ _ _ _ (by simp),d];rfl
theorem GR{base:Nat}{W:L}{pb:Nat}{x y:N}(h:W.heap[pb]?=O (tD #[x,y] 50))(hb:base<=pb)(u v:N):((tJ W ⟨pb,0,M⟩ u).setCell ⟨pb,1,M⟩ v).heap[pb]?=O (tD #[u,v] 50)∧(∀z bs,Qf base W z bs->Qf base ((tJ W ⟨pb,0,M⟩ u).setCell ⟨pb,1,M⟩ v) z bs)∧∀w0:L,w0.heap.size<=pb->Y w0 W M->Y w0 ((tJ W ⟨pb,0,M⟩ u).setCell ⟨pb,1,M⟩ v) M:=by
 refine⟨?_,fun z bs c=>?_,fun w0 a b=>Qc (Qc b _ a _ _) _ a _ _⟩;·simp only[tJ,sC,if_true,h,rU];first|rfl|simp
 ·exact c.kept (Qh (Qh (Qb _ _) _ _) _ _) (.inr ⟨pb,_,_,rfl,hb,h⟩)
def KR(rb pb:Nat)(w:L)(v:N)(l:PL):Prop:=∃vs:List (N×N),vs.length=l.length∧w.ownsRow rb 50 2 v l.length (flat vs)∧∀i,i<l.length->Qf pb w (vs.getD i (sS,sS)).1 (l.getD i ([],[])).1∧Qf pb w (vs.getD i (sS,sS)).2 (l.getD i ([],[])).2
theorem AM(rb pb:Nat)(w:L):KR rb pb w (S M 0 0) []:=⟨[],rfl,sV _ _ _ _,fun i hi=>by
 simp at hi⟩
theorem KR.p{rb pb:Nat}{w:L}{v:N}{l:PL}(h:KR rb pb w v l)(hb:pb<=rb):G3 pb w v l:=by
 obtain⟨e,c,a,d⟩:=h;refine⟨e,c,⟨a.1,?_⟩,d⟩;rcases a.2with h|⟨g,cap,b,c,a,d⟩;·exact .inl h
 ·exact .inr ⟨g,cap,b,c,tV hb a,d⟩
theorem KR.row{rb base:Nat}{w:L}{v:N}{l:PL}(h:KR rb base w v l)(hb:base<=rb):v.ownBlock=M∨∃g cur fz,v.ownBlock=O g∧base<=g∧w.heap[g]?=O (tD cur 50 fz):=(h.p hb).row
theorem KR.lt{rb pb:Nat}{w:L}{v:N}{l:PL}(h:KR rb pb w v l):∀k,v.ownBlock=O k->rb<=k∧k<w.heap.size:=by
 obtain⟨a,_,h,_⟩:=h;exact sN h
theorem KR.grownNone{rb pb:Nat}{w w':L}{v:N}{l:PL}(h:KR rb pb w v l)(hg:Y w w' M):KR rb pb w' v l:=by
 obtain⟨e,c,d,a⟩:=h;refine⟨e,c,sA d hg ?_,fun i b=>⟨((a i b).1).kept hg (.inl rfl),((a i b).2).kept hg (.inl rfl)⟩⟩;cases hv:v.ownBlock with|none=>exact .inl rfl|some k=>exact .inr (by simp)
theorem KR.alloc{rb pb:Nat}{w:L}{v:N}{l:PL}(h:KR rb pb w v l)(o:Obj):KR rb pb (w.alloc o) v l:=h.grownNone (sW _ _ _)
theorem KR.shape{rb pb:Nat}{w:L}{v:N}{l:PL}(h:KR rb pb w v l):∃a cap,v=S a l.length cap:=by
 obtain⟨d,_,h,_⟩:=h;rcases h.2with⟨rfl,c⟩|⟨g,cap,b,rfl,_⟩;·exact⟨M,0,by rw[c]⟩
 ·exact⟨_,cap,rfl⟩
theorem Ek{rb pb:Nat}{w W w1:L}{v:N}{l:PL}(h:Y w W M)(ho:KR rb pb W v l)(hb:w.heap.size<=rb)(hg:Y W w1 v.ownBlock):Y w w1 M:=⟨hg.os.trans h.os,hg.tape.trans h.tape,hg.output.trans h.output,tV h.size hg.size,fun i a b=>(hg.block i (tK a h.size) (fun e=>by
 have:=(ho.lt i e.symm).1;omega)).trans (h.block i a b)⟩
def mF(base:Nat)(w:L)(b o:Nat)(p:Pr):Prop:=∃vk vv,w.cell? ⟨b,o,M⟩=O vk∧w.cell? ⟨b,o+1,M⟩=O vv∧Qf base w vk p.1∧Qf base w vv p.2
def QK(base:Nat)(w:L)(v:N)(l:PL):Prop:=∃a cap,v=S a l.length cap∧l.length<=cap∧((l=[]∧(a=M->cap=0))∨∃b o,a=O ⟨b,o,M⟩∧(b<base∨∃cur fz,w.heap[b]?=O (tD cur 50 fz))∧∀i,i<l.length->mF base w b (o+i*2) (l.getD i ([],[])))
theorem QK.list{base:Nat}{w:L}{v:N}{l:PL}(h:QK base w v l):Qo w v l:=by
 obtain⟨a,cap,rfl,g,h⟩:=h;refine⟨a,cap,rfl,g,?_⟩;rcases h with h|⟨b,o,rfl,_,h⟩;·exact .inl h
 ·refine .inr ⟨b,o,rfl,fun i j=>?_⟩;obtain⟨k,m,c,d,e,f⟩:=h i j;exact⟨k,m,c,d,e.1,f.1⟩
theorem Qo.pairsB{w w':L}{v:N}{l:PL}(h:Qo w v l)(hg:Y w w' M)(base:Nat)(hb:w.heap.size<=base):QK base w' v l:=by
 obtain⟨a,cap,rfl,n,h⟩:=h;refine⟨a,cap,rfl,n,?_⟩;rcases h with h|⟨b,o,rfl,h⟩;·exact .inl h
 ·by_cases d:l=[];(·exact .inl ⟨d,fun e=>by cases e⟩);·have q:0<l.length:=rX.2 d;refine .inr ⟨b,o,rfl,.inl ?_,fun i p=>?_⟩;(·obtain⟨f,g,c,_⟩:=h 0 q;exact tK (Ga c) hb);·obtain⟨f,g,c,j,k,m⟩:=h i p;exact⟨f,g,hg.cell c (by simp),hg.cell j (by simp),k.part hg base hb,m.part hg base hb⟩
theorem G3.pairsB{base:Nat}{w:L}{v:N}{l:PL}(h:G3 base w v l):QK base w v l:=by
 obtain⟨c,p,j,d⟩:=h;have a:=j;rcases j.2with⟨rfl,k⟩|⟨g,cap,b,rfl,o,m,n,q,r,s⟩;·have:l=[]:=tN k;subst this;exact⟨M,0,rfl,sG _,.inl ⟨rfl,fun _=>rfl⟩⟩
 ·refine⟨_,cap,rfl,n,.inr ⟨g,0,rfl,.inr ⟨b,_,m⟩,fun i f=>?_⟩⟩;have e:=yY c i (by omega);refine⟨(c.getD i (sS,sS)).1,(c.getD i (sS,sS)).2,?_,?_,(d i f).1,(d i f).2⟩;(·have:=G3.cells a _ _ e.1;rw[sX];exact this);·have:=G3.cells a _ _ e.2;rw[sX];exact this
theorem QK.kept{base:Nat}{w w':L}{v:N}{l:PL}(h:QK base w v l){row:Option Nat}(hg:Y w w' row)(hrow:row=M∨∃g cur t fz,row=O g∧base<=g∧w.heap[g]?=O (tD cur t fz)∧t≠5∧t≠50):QK base w' v l:=by
 obtain⟨a,cap,rfl,D,h⟩:=h;refine⟨a,cap,rfl,D,?_⟩;rcases h with h|⟨b,o,rfl,d,h⟩;·exact .inl h
 ·by_cases s:l=[];(·exact .inl ⟨s,fun e=>by cases e⟩);·have F:0<l.length:=rX.2 s;(have p:b<w.heap.size:=by obtain⟨u,x,k,_⟩:=h 0 F;exact Ga k);(have j:O b≠row:=by intro e;rcases hrow with rfl|⟨g,cur,t,fz,rfl,C,f,G,q⟩;(·cases e);·cases e;rcases d with d|⟨r,z,d⟩;(·omega);·rw[d]at f;simp only[tG,sD]at f;exact q f.2.1.symm);(have c:row=M∨∃g cur t fz,row=O g∧base<=g∧w.heap[g]?=O (tD cur t fz)∧t≠5:=by rcases hrow with h|⟨g,cur,t,fz,m,n,A,B,_⟩;(·exact .inl h);·exact .inr ⟨g,cur,t,fz,m,n,A,B⟩);refine .inr ⟨b,o,rfl,?_,fun i E=>?_⟩;(·rcases d with d|⟨cur,fz,d⟩;(·exact .inl d);·exact .inr ⟨cur,fz,by rw[hg.block b p j];exact d⟩);·obtain⟨u,x,k,y,m,n⟩:=h i E;exact⟨u,x,hg.cell k (by simpa using j),hg.cell y (by simpa using j),m.keptT hg c,n.keptT hg c⟩
theorem QK.grown{base:Nat}{w w':L}{v:N}{l:PL}(h:QK base w v l)(hg:Y w w' M):QK base w' v l:=h.kept hg (.inl rfl)
theorem jQ{base:Nat}{w:L}{v:N}{l:PL}(h:QK base w v l):v.oneCell'=tB:=by
 obtain⟨a,cap,rfl,_⟩:=h;rfl
theorem YI(base:Nat)(w:L):QK base w (S M 0 0) []:=⟨M,0,rfl,sG _,.inl ⟨rfl,fun _=>rfl⟩⟩
theorem QK.shape{base:Nat}{w:L}{v:N}{l:PL}(h:QK base w v l):∃a cap,v=S a l.length cap:=by
 obtain⟨a,cap,rfl,_⟩:=h;exact⟨a,cap,rfl⟩
theorem QK.mono{base base':Nat}{w:L}{v:N}{l:PL}(h:QK base w v l)(hb:base<=base'):QK base' w v l:=by
 obtain⟨a,cap,rfl,g,h⟩:=h;refine⟨a,cap,rfl,g,?_⟩;rcases h with h|⟨b,o,rfl,c,f⟩;·exact .inl h
 ·refine .inr ⟨b,o,rfl,?_,fun i j=>?_⟩;(·rcases c with c|c;(·exact .inl (by omega));·exact .inr c);·obtain⟨n,p,d,e,k,m⟩:=f i j;exact⟨n,p,d,e,k.mono hb,m.mono hb⟩
theorem KR.pairsB{rb:Nat}{w:L}{v:N}{l:PL}(h:KR rb 0 w v l):QK 0 w v l:=(h.p (tW _)).pairsB
theorem QK.up{w:L}{v:N}{l:PL}(h:QK 0 w v l)(base:Nat):QK base w v l:=h.mono (tW _)
abbrev WV:=Q9×N×N×N
def A9:WV:=(Qp,sS,sS,sS)
def Ji(us:List WV):List N:=us.flatMap fun x=>[x.2.1,x.2.2.1,tS x.1.gone,x.2.2.2]
theorem IA(us:List WV):(Ji us).length=us.length*4:=by
 induction us with|nil=>rfl|cons x r ih=>simp only[Ji,tU,tH,tZ,pO]at ih⊢;omega
theorem v8(a b:List WV):Ji (a++b)=Ji a++Ji b:=by
 simp[Ji]
theorem MO:∀(us:List WV)(i:Nat),i<us.length->(Ji us)[i*4]?=O (us.getD i A9).2.1∧(Ji us)[i*4+1]?=O (us.getD i A9).2.2.1∧(Ji us)[i*4+2]?=O (tS (us.getD i A9).1.gone)∧(Ji us)[i*4+3]?=O (us.getD i A9).2.2.2|[],i,h=>by simp at h|x::r,0,_=>by simp[Ji]|x::r,i+1,h=>by have:=MO r i (by simpa using h);rw[show(i+1)*4=i*4+4by omega,show i*4+4+1=(i*4+1)+4by omega,show i*4+4+2=(i*4+2)+4by omega,show i*4+4+3=(i*4+3)+4by omega];simpa[Ji]using this
theorem vN:(146:Nat)≠5:=by
 decide
theorem Iz{us:List WV}{l:List Q9}(h:us.map (·.1)=l)(i:Nat)(hi:i<l.length):(us.getD i A9).1=l.getD i Qp∧us.getD i A9∈us:=by
 subst h;have a:i<us.length:=by simpa using hi
 refine⟨by simp[a],?_⟩;rw[show us.getD i A9=us[i]by simp[a]];exact sP a
theorem eG:(tC.info? 146).map (fun i=>(i.zero,i.size,i.bytes))=O (O (sY #[S M 0 0,S M 0 0,tS tA,S M 0 0]),4,80):=by
 kernel_rfl
theorem EW(w:L)(vn vk vv:N)(p:Q9)(h1:Qe w vn p.name)(h2:Qe w vk p.key)(h3:Qe w vv p.value)(t:sE):QO (w.alloc (tD #[vn,vk,tS p.gone,vv] t)) (S (O ⟨w.heap.size,0,M⟩) 1 1) [p]:=by
 refine⟨_,1,rfl,by simp,.inr ⟨w.heap.size,0,rfl,fun i a=>?_⟩⟩;match i,a with|0,_=>exact⟨vn,vk,vv,by simp,by simp,by simp,by simp,h1.alloc _,h2.alloc _,h3.alloc _⟩
def bN(base:Nat)(w:L)(b o:Nat)(p:Q9):Prop:=∃vn vk vv,w.cell? ⟨b,o,M⟩=O vn∧w.cell? ⟨b,o+1,M⟩=O vk∧w.cell? ⟨b,o+2,M⟩=O (tS p.gone)∧w.cell? ⟨b,o+3,M⟩=O vv∧Qf base w vn p.name∧Qf base w vk p.key∧Qf base w vv p.value
def Xt(base:Nat)(w:L)(v:N)(l:List Q9):Prop:=∃a cap,v=S a l.length cap∧l.length<=cap∧((l=[]∧(a=M->cap=0))∨∃b o,a=O ⟨b,o,M⟩∧(b<base∨∃cur fz,w.heap[b]?=O (tD cur 146 fz))∧∀i,i<l.length->bN base w b (o+i*4) (l.getD i Qp))
theorem C5(base:Nat)(w:L):Xt base w (S M 0 0) []:=⟨M,0,rfl,sG _,.inl ⟨rfl,fun _=>rfl⟩⟩
theorem Xt.shape{base:Nat}{w:L}{v:N}{l:List Q9}(h:Xt base w v l):∃a cap,v=S a l.length cap:=by
 obtain⟨a,cap,rfl,_⟩:=h;exact⟨a,cap,rfl⟩
theorem Xt.oneCell{base:Nat}{w:L}{v:N}{l:List Q9}(h:Xt base w v l):v.oneCell'=tB:=by
 obtain⟨a,cap,rfl,_⟩:=h;rfl
theorem Xt.list{base:Nat}{w:L}{v:N}{l:List Q9}(h:Xt base w v l):QO w v l:=by
 obtain⟨a,cap,rfl,m,h⟩:=h;refine⟨a,cap,rfl,m,?_⟩;rcases h with h|⟨b,o,rfl,_,h⟩;·exact .inl h
 ·refine .inr ⟨b,o,rfl,fun i n=>?_⟩;obtain⟨q,p,r,c,d,e,f,g,j,k⟩:=h i n;exact⟨q,p,r,c,d,e,f,g.1,j.1,k.1⟩
theorem Xt.kept{base:Nat}{w w':L}{v:N}{l:List Q9}(h:Xt base w v l){row:Option Nat}(hg:Y w w' row)(hrow:row=M∨∃g cur t fz,row=O g∧base<=g∧w.heap[g]?=O (tD cur t fz)∧t≠5∧t≠146):Xt base w' v l:=by
 obtain⟨a,cap,rfl,G,h⟩:=h;refine⟨a,cap,rfl,G,?_⟩;rcases h with h|⟨b,o,rfl,f,h⟩;·exact .inl h
 ·by_cases u:l=[];(·exact .inl ⟨u,fun e=>by cases e⟩);·have I:0<l.length:=rX.2 u;(have q:b<w.heap.size:=by obtain⟨y,x,z,k,_⟩:=h 0 I;exact Ga k);(have d:O b≠row:=by intro e;rcases hrow with rfl|⟨g,cur,t,fz,rfl,F,j,J,r⟩;(·cases e);·cases e;rcases f with f|⟨s,D,f⟩;(·omega);·rw[f]at j;simp only[tG,sD]at j;exact r j.2.1.symm);(have c:row=M∨∃g cur t fz,row=O g∧base<=g∧w.heap[g]?=O (tD cur t fz)∧t≠5:=by rcases hrow with h|⟨g,cur,t,fz,m,n,p,E,_⟩;(·exact .inl h);·exact .inr ⟨g,cur,t,fz,m,n,p,E⟩);refine .inr ⟨b,o,rfl,?_,fun i H=>?_⟩;(·rcases f with f|⟨cur,fz,f⟩;(·exact .inl f);·exact .inr ⟨cur,fz,by rw[hg.block b q d];exact f⟩);·obtain⟨y,x,z,k,A,B,C,m,n,p⟩:=h i H;exact⟨y,x,z,hg.cell k (by simpa using d),hg.cell A (by simpa using d),hg.cell B (by simpa using d),hg.cell C (by simpa using d),m.keptT hg c,n.keptT hg c,p.keptT hg c⟩
theorem Xt.grown{base:Nat}{w w':L}{v:N}{l:List Q9}(h:Xt base w v l)(hg:Y w w' M):Xt base w' v l:=h.kept hg (.inl rfl)
def Ko(w:L)(v:N)(c:Xx):Prop:=∃vs,v=sY #[tE tF c.turn,vs]∧QO w vs c.writes
theorem Ko.grown{w w':L}{v:N}{c:Xx}(h:Ko w v c)(hg:Y w w' M):Ko w' v c:=by
 obtain⟨a,rfl,h⟩:=h;exact⟨a,rfl,h.grown hg⟩
theorem Ko.agg{w:L}{v:N}{c:Xx}(h:Ko w v c):∃a cap,v=sY #[tE tF c.turn,S a c.writes.length cap]:=by
 obtain⟨b,rfl,h⟩:=h;obtain⟨a,cap,rfl⟩:=h.shape;exact⟨a,cap,rfl⟩
theorem Ko.writes{w:L}{c:Xx}{x y:N}(h:Ko w (sY #[x,y]) c):x=tE tF c.turn∧QO w y c.writes:=by
 obtain⟨a,e,h⟩:=h;injection e with e;injection e with e;injection e with e1 e;injection e with e2 e;exact⟨e1,e2▸h⟩
structure Mx(c:Xx):Prop where turn:-9223372036854775808<=c.turn∧c.turn<=9223372036854775807writes:vS c.writes
structure GA where
  data : List UInt8
  synced : Int
def GF:GA:=⟨[],0⟩
def Uh(w:L)(v:N)(t:GA):Prop:=∃vd,v=sY #[vd,tE tF t.synced]∧Qe w vd t.data
theorem Uh.grown{w w':L}{v:N}{t:GA}(h:Uh w v t)(hg:Y w w' M):Uh w' v t:=by
 obtain⟨a,rfl,h⟩:=h;exact⟨a,rfl,h.grown hg⟩
theorem Uh.agg{w:L}{v:N}{t:GA}(h:Uh w v t):∃a cap,v=sY #[S a t.data.length cap,tE tF t.synced]:=by
 obtain⟨b,rfl,h⟩:=h;obtain⟨a,cap,rfl⟩:=h.shape;exact⟨a,cap,rfl⟩
theorem Uh.data{w:L}{t:GA}{x y:N}(h:Uh w (sY #[x,y]) t):Qe w x t.data∧y=tE tF t.synced:=by
 obtain⟨a,e,h⟩:=h;injection e with e;injection e with e;injection e with e1 e;injection e with e2 e;exact⟨e1▸h,e2⟩
structure jL(t:GA):Prop where data:t.data.length<=140737488355328synced:-9223372036854775808<=t.synced∧t.synced<=9223372036854775807
def YH(w:L)(v:N)(t:GA):Prop:=∃vd,v=sY #[vd,tE tF t.synced]∧Qf 0 w vd t.data
theorem YH.is{w:L}{v:N}{t:GA}(h:YH w v t):Uh w v t:=by
 obtain⟨a,rfl,h⟩:=h;exact⟨a,rfl,h.slice⟩
theorem Gv(w:L):YH w (sY #[S M 0 0,tE tF 0]) GF:=⟨_,rfl,QE w,.inl rfl⟩
def G2(t:GA):Bool:=tX (t.data.length<=200000)&&tX (0<=t.synced∧t.synced<=(t.data.length:Int))
theorem K3(t:GA):G2 t=tB↔t.data.length<=200000∧0<=t.synced∧t.synced<=(t.data.length:Int):=by
 unfold G2;rw[rI,decide_eq_true_iff,decide_eq_true_iff]
def Rr(c:Xx):List UInt8:=if Zb c=0then Zo c else[]
def Ev(t:GA):Int:=if G2 t=tB then 0 else 6
def KO(t:GA):GA:=if G2 t=tB then⟨t.data,(t.data.length:Int)⟩else GF
def UO(t:GA)(keep:Int):Int:=if G2 t=tB then(if keep<0then 2 else 0)else 6
def XH(t:GA)(keep:Int):Nat:=if keep<(t.data.length:Int)-t.synced then(t.synced+keep).toNat else t.data.length
def XC(t:GA)(keep:Int):GA:=if UO t keep=0then⟨t.data.take (XH t keep),(XH t keep:Int)⟩else GF
def V4(D:List UInt8->List UInt8)(t:GA)(c:Xx):Int:=if G2 t=tB then(if Zb c=0then(if 200000<t.data.length+(ZM D c).length then 11 else 0)else Zb c)else 6
def xX(D:List UInt8->List UInt8)(t:GA)(c:Xx):GA:=if V4 D t c=0then⟨t.data++ZM D c,t.synced⟩else GF
def No(t:GA):Int:=if G2 t=tB then 0 else 6
def jW(D:List UInt8->List UInt8)(t:GA):List Xx:=if G2 t=tB then(K4 D 1 t.data).1 else[]
def yK(D:List UInt8->List UInt8)(t:GA):GA:=if G2 t=tB then⟨t.data.take (CA D t.data),if t.synced>(CA D t.data:Int)then(CA D t.data:Int)else t.synced⟩else GF
theorem At{D:List UInt8->List UInt8}(hD:∀x,(D x).length=4){c:Xx}(hc:Zb c=0):6<=(ZM D c).length∧(ZM D c).length<=600:=by
 have a:=Fv hD c;have b:=Vx hc;omega
theorem A8(D:List UInt8->List UInt8)(cs:List Xx)(i:Nat)(h:i<cs.length):QZ D (cs.take (i+1))=QZ D (cs.take i)++ZM D (cs.getD i Zq):=by
 rw[rF h,V9,Fm,show cs[i]=cs.getD i Zq by simp[h]]
theorem lP{D:List UInt8->List UInt8}{t:GA}(hm:G2 t=tB){cs:List Xx}{r:List UInt8}{n:Nat}(h:K4 D 1 t.data=(cs,r))(hn:CA D t.data=n):No t=0∧jW D t=cs∧yK D t=⟨t.data.take n,if t.synced>(n:Int)then(n:Int)else t.synced⟩:=by
 refine⟨by rw[No,if_pos hm],by rw[jW,if_pos hm,h],by rw[yK,if_pos hm,hn]⟩
theorem b6{D:List UInt8->List UInt8}(hD:∀x,(D x).length=4){cs:List Xx}(h:zZ 1 cs)(k:Nat)(s:Int)(hk:k<=(QZ D cs).length)(hs:0<=s∧s<=(k:Int))(hl:(QZ D cs).length<=200000):∃j,j<=cs.length∧(QZ D (cs.take j)).length<=k∧(j<cs.length->k<(QZ D (cs.take (j+1))).length)∧No ⟨(QZ D cs).take k,s⟩=0∧jW D ⟨(QZ D cs).take k,s⟩=cs.take j∧yK D ⟨(QZ D cs).take k,s⟩=⟨QZ D (cs.take j),if s>((QZ D (cs.take j)).length:Int)then((QZ D (cs.take j)).length:Int)else s⟩:=by
 obtain⟨j,i,f,g,o,l⟩:=Aq hD h k;have d:((QZ D cs).take k).length=k:=by simp;omega
 have m:G2 ⟨(QZ D cs).take k,s⟩=tB:=(K3 _).2 ⟨by show((QZ D cs).take k).length<=_;omega,by show 0<=s∧s<=(((QZ D cs).take k).length:Int);omega⟩;have n:CA D ((QZ D cs).take k)=(QZ D (cs.take j)).length:=by rw[CA,f,d];show k-(((QZ D cs).take k).drop _).length=_;rw[pM,d];omega
 obtain⟨a,b,c⟩:=lP m f n;refine⟨j,i,g,l,a,b,?_⟩;rw[c];have e:((QZ D cs).take k).take (QZ D (cs.take j)).length=QZ D (cs.take j):=by rw[o8,o9 g];(conv=>lhs;rw[<-rT j cs,V9]);rw[show(cs.take j++cs.drop j).take j=cs.take j by rw[rT]];exact List.take_left' rfl
 show(⟨((QZ D cs).take k).take _,_⟩:GA)=_;rw[e]
def bH:FL->Nat->List Xx->Int|_,_,[]=>0|f,i,c::cs=>if Zb c=0then(if c.turn=((i+1:Nat):Int)then(if QR f c.writes=0then bH (Xk f c.writes) (i+1) cs else QR f c.writes)else 3)else Zb c
def YL:FL->List Xx->FL|f,[]=>f|f,c::cs=>YL (Xk f c.writes) cs
theorem V6:∀(a b:List Xx)(f:FL),YL f (a++b)=YL (YL f a) b|[],_,_=>rfl|_::a,b,_=>V6 a b _
theorem Lr(cs:List Xx)(f:FL)(c:Xx):YL f (cs++[c])=Xk (YL f cs) c.writes:=by
 rw[V6];rfl
def VK:FL->Nat->List Xx->Prop|_,_,[]=>True|f,i,c::cs=>Zb c=0∧c.turn=((i+1:Nat):Int)∧QR f c.writes=0∧VK (Xk f c.writes) (i+1) cs
theorem VK.take:∀{cs:List Xx}{f:FL}{i:Nat}(_:VK f i cs)(j:Nat),VK f i (cs.take j)|[],_,_,_,j=>by rw[List.take_nil];trivial|_::_,_,_,_,0=>trivial|_::_,_,_,h,j+1=>⟨h.1,h.2.1,h.2.2.1,VK.take h.2.2.2 j⟩
theorem VK.at:∀{cs:List Xx}{f:FL}{i:Nat}(_:VK f i cs)(j:Nat)(_:j<cs.length),Zb (cs.getD j Zq)=0∧(cs.getD j Zq).turn=((i+j+1:Nat):Int)∧QR (YL f (cs.take j)) (cs.getD j Zq).writes=0|[],_,_,_,j,hj=>by simp at hj|c::cs,f,i,h,0,_=>⟨h.1,h.2.1,h.2.2.1⟩|c::cs,f,i,h,j+1,hj=>by have:=VK.at h.2.2.2 j (by simpa using hj);rw[show i+(j+1)+1=i+1+j+1by omega];simpa[YL]using this
theorem VH{l:FL}(h:Zk l)(ws:List Q9):Zk (Xk l ws):=by
 unfold Xk;by_cases a:QR l ws=0;·rw[if_pos a];unfold QR at a;rw[if_pos ((Xc l).2 h)]at a;by_cases b:10<ws.length;(·rw[if_pos b]at a;omega);·rw[if_neg b]at a;exact zW ws l h a
 ·rw[if_neg a];exact JA
theorem JE:∀(cs:List Xx)(f:FL),Zk f->Zk (YL f cs)|[],_,h=>h|c::cs,_,h=>JE cs _ (VH h c.writes)
def JI(n t:Int):Bool:=tX (0<=t∧t<=n∧n-t<6)
def Ej(a b:Q9):Prop:=a.name=b.name∧a.key=b.key
def Er(l:List Q9):Prop:=l.Pairwise fun a b=>¬Ej a b
def XS(a b:Rd):Bool:=a.wide==b.wide&&(tX (a.name=b.name)&&(tX (a.key=b.key)&&tX (a.last=b.last)))
theorem zO(a b:Rd):XS a b=tB↔a=b:=by
 obtain⟨n,k,w,l⟩:=a;obtain⟨i,g,j,h⟩:=b;simp only[XS,rI,decide_eq_true_iff,beq_iff_eq,Rd.mk.injEq];exact⟨fun⟨c,d,e,f⟩=>⟨d,e,c,f⟩,fun⟨c,d,e,f⟩=>⟨e,c,d,f⟩⟩
def ZR(a b:Q9):Bool:=tX (a.name=b.name)&&tX (a.key=b.key)
theorem zY(a b:Q9):ZR a b=tB↔Ej a b:=by
 simp only[ZR,rI,decide_eq_true_iff];exact Iff.rfl
def qQ:List Rd->List Rd->Int|_,[]=>0|p,r::rs=>if XQ r=0then(if p.any (fun q=>XS q r)=tB then 3 else qQ (p++[r]) rs)else XQ r
def jD:List Q9->List Q9->Int|_,[]=>0|p,w::ws=>if Qz w=0then(if p.any (fun q=>ZR q w)=tB then 3 else jD (p++[w]) ws)else Qz w
theorem Rg:∀(rs p:List Rd),qQ p rs=0↔(∀r∈rs,XQ r=0)∧(∀r∈rs,r∉p)∧rs.Nodup|[],p=>by simp[qQ]|r::rs,p=>by have m:=Rg rs (p++[r]);rw[qQ];by_cases f:XQ r=0;(·rw[if_pos f];by_cases g:p.any (fun q=>XS q r)=tB;(·rw[if_pos g];refine⟨fun h=>by omega,fun h=>?_⟩;obtain⟨q,j,k⟩:=sR.1 g;rw[(zO q r).1 k]at j;exact absurd j (h.2.1 r (tR ..)));·rw[if_neg g,m];have l:r∉p:=fun d=>g (sR.2 ⟨r,d,(zO r r).2 rfl⟩);constructor;(·rintro⟨a,b,c⟩;refine⟨fun x e=>?_,fun x e=>?_,o6.2 ⟨fun d=>b r d (by simp),c⟩⟩;(·rcases tP.1 e with rfl|e;(·exact f);·exact a x e);·rcases tP.1 e with rfl|e;(·exact l);·exact fun d=>b x e (sF.2 (.inl d)));·rintro⟨a,b,c⟩;have i:=o6.1 c;refine⟨fun x e=>a x (tQ _ e),fun x e d=>?_,i.2⟩;rcases sF.1 d with d|d;(·exact b x (tQ _ e) d);·simp only[tP,tT,or_false]at d;subst d;exact i.1 e);·rw[if_neg f];exact⟨fun h=>absurd h f,fun h=>absurd (h.1 r (tR ..)) f⟩
theorem Ci:∀(ws p:List Q9),jD p ws=0↔(∀w∈ws,Qz w=0)∧(∀w∈ws,∀q∈p,¬Ej q w)∧Er ws|[],p=>by simp[jD,Er]|w::ws,p=>by have n:=Ci ws (p++[w]);rw[jD];by_cases g:Qz w=0;(·rw[if_pos g];by_cases i:p.any (fun q=>ZR q w)=tB;(·rw[if_pos i];refine⟨fun h=>by omega,fun h=>?_⟩;obtain⟨q,j,l⟩:=sR.1 i;exact absurd ((zY q w).1 l) (h.2.1 w (tR ..) q j));·rw[if_neg i,n];have m:∀q∈p,¬Ej q w:=fun q f e=>i (sR.2 ⟨q,f,(zY q w).2 e⟩);constructor;(·rintro⟨a,b,c⟩;refine⟨fun x d=>?_,fun x d q j=>?_,rH.2 ⟨fun x d=>b x d w (by simp),c⟩⟩;(·rcases tP.1 d with rfl|d;(·exact g);·exact a x d);·rcases tP.1 d with rfl|d;(·exact m q j);·exact b x d q (sF.2 (.inl j)));·rintro⟨a,b,c⟩;have k:=rH.1 c;refine⟨fun x d=>a x (tQ _ d),fun x d q f=>?_,k.2⟩;rcases sF.1 f with f|f;(·exact b x (tQ _ d) q f);·simp only[tP,tT,or_false]at f;subst f;exact k.1 x d);·rw[if_neg g];exact⟨fun h=>absurd h g,fun h=>absurd (h.1 w (tR ..)) g⟩
structure Tx where
  start : Int
  reads : List Rd
  writes : List Q9
def Tp:Tx:=⟨0,[],[]⟩
def GN(t:Tx):Int:=if 0<=t.start∧t.start<=1048576then(if 20<t.reads.length∨10<t.writes.length then 1 else(if qQ [] t.reads=0then jD [] t.writes else qQ [] t.reads))else 2
structure Gf (t : Tx) : Prop where
  start : 0 <= t.start ∧ t.start <= 1048576
  reads : t.reads.length <= 20
  writes : t.writes.length <= 10
  each : ∀ r ∈ t.reads, XQ r = 0
  once : t.reads.Nodup
  wrs : ∀ w ∈ t.writes, Qz w = 0
  apart : Er t.writes
theorem xH(t:Tx):GN t=0↔Gf t:=by
 unfold GN;by_cases c:0<=t.start∧t.start<=1048576;·rw[if_pos c];by_cases e:20<t.reads.length∨10<t.writes.length;(·rw[if_pos e];exact⟨fun h=>by omega,fun h=>by have:=h.reads;have:=h.writes;omega⟩);·rw[if_neg e];by_cases a:qQ [] t.reads=0;(·rw[if_pos a,Ci];have b:=(Rg _ _).1 a;exact⟨fun h=>⟨c,by omega,by omega,b.1,b.2.2,h.1,h.2.2⟩,fun h=>⟨h.wrs,fun _ _ _ d=>by simp at d,h.apart⟩⟩);·rw[if_neg a];exact⟨fun h=>absurd h a,fun h=>absurd ((Rg _ _).2 ⟨h.each,fun _ _ d=>by simp at d,h.once⟩) a⟩
 ·rw[if_neg c];exact⟨fun h=>by omega,fun h=>absurd h.start c⟩
def Nn(t:Tx)(r:Rd):Bool:=t.reads.any (fun q=>XS q r)
theorem C6(t:Tx)(r:Rd):Nn t r=tB↔r∈t.reads:=by
 unfold Nn;rw[sR];exact⟨fun⟨q,a,e⟩=>(zO q r).1 e▸a,fun h=>⟨r,h,(zO r r).2 rfl⟩⟩
def Z7(t:Tx)(r:Rd):Int:=if GN t=0then(if XQ r=0then(if Nn t r=tB then 0 else(if t.reads.length=20then 11 else 0))else XQ r)else GN t
def XF(t:Tx)(r:Rd):Tx:=if Z7 t r=0then(if Nn t r=tB then t else⟨t.start,t.reads++[r],t.writes⟩)else Tp
theorem iX{t:Tx}(h:Gf t){r:Rd}(hr:XQ r=0):Z7 t r=if Nn t r=tB then 0 else(if t.reads.length=20then 11 else 0):=by
 rw[Z7,if_pos ((xH t).2 h),if_pos hr]
theorem gV{t:Tx}(h:Gf t){r:Rd}(hr:XQ r=0)(he:Z7 t r=0):Gf (XF t r):=by
 rw[XF,if_pos he];by_cases d:Nn t r=tB;·rw[if_pos d];exact h
 ·rw[if_neg d];rw[iX h hr,if_neg d]at he;have j:r∉t.reads:=fun e=>d ((C6 t r).2 e);(have g:t.reads.length≠20:=fun e=>by rw[if_pos e]at he;omega);refine⟨h.start,?_,h.writes,fun x c=>?_,?_,h.wrs,h.apart⟩;(·have:=h.reads;simp;omega);(·rcases sF.1 c with c|c;(·exact h.each x c);·simp only[tP,tT,or_false]at c;rw[c];exact hr);·rw[pZ];refine⟨h.once,by simp,fun a i b f e=>?_⟩;simp only[tP,tT,or_false]at f;subst f;subst e;exact j i
def Tl(l:List Q9)(w:Q9):Bool:=l.any (fun q=>ZR q w)
def yI:List Q9->Q9->List Q9|[],w=>[w]|a::l,w=>if ZR a w=tB then w::l else a::yI l w
def Xe(t:Tx)(w:Q9):Int:=if GN t=0then(if Qz w=0then(if Tl t.writes w=tB then 0 else(if t.writes.length=10then 11 else 0))else Qz w)else GN t
def Yq(t:Tx)(w:Q9):Tx:=if Xe t w=0then⟨t.start,t.reads,yI t.writes w⟩else Tp
theorem CU:∀(l:List Q9)(w:Q9),(yI l w).length=if Tl l w=tB then l.length else l.length+1|[],w=>rfl|a::l,w=>by rw[yI,Tl,pI];by_cases h:ZR a w=tB;(·rw[if_pos h,h];rfl);·rw[if_neg h,tZ,CU l w];(have c:ZR a w=tA:=by simpa using h);rw[c,pS];show _=if Tl l w=tB then _ else _;by_cases b:Tl l w=tB;(·rw[if_pos b,if_pos b];rfl);·rw[if_neg b,if_neg b];rfl
theorem Rv:∀(l:List Q9)(w x:Q9),x∈yI l w->x=w∨x∈l|[],w,x,h=>by simpa[yI]using h|a::l,w,x,h=>by rw[yI]at h;by_cases b:ZR a w=tB;(·rw[if_pos b]at h;rcases tP.1 h with h|h;(·exact .inl h);·exact .inr (tQ _ h));·rw[if_neg b]at h;rcases tP.1 h with h|h;(·exact .inr (by rw[h];exact tR ..));·exact(Rv l w x h).elim .inl fun h=>.inr (tQ _ h)
theorem CX{a b c:Q9}(h:Ej a b)(k:Ej b c):Ej a c:=⟨h.1.trans k.1,h.2.trans k.2⟩
theorem Rc:∀(l:List Q9)(w:Q9),Er l->Er (yI l w)|[],w,_=>List.pairwise_singleton ..|a::l,w,h=>by have c:=rH.1 h;rw[yI];by_cases d:ZR a w=tB;(·rw[if_pos d];exact rH.2 ⟨fun x b e=>c.1 x b (CX ((zY a w).1 d) e),c.2⟩);·rw[if_neg d];refine rH.2 ⟨fun x b e=>?_,Rc l w c.2⟩;rcases Rv l w x b with rfl|b;(·exact d ((zY _ _).2 e));·exact c.1 x b e
theorem bW{t:Tx}(h:Gf t){w:Q9}(hw:Qz w=0):Xe t w=if Tl t.writes w=tB then 0 else(if t.writes.length=10then 11 else 0):=by
 rw[Xe,if_pos ((xH t).2 h),if_pos hw]
theorem eJ{t:Tx}(h:Gf t){w:Q9}(hw:Qz w=0)(he:Xe t w=0):Gf (Yq t w):=by
 rw[Yq,if_pos he];rw[bW h hw]at he;refine⟨h.start,h.reads,?_,h.each,h.once,fun x a=>?_,Rc _ _ h.apart⟩;·show(yI t.writes w).length<=10;rw[CU];have:=h.writes;by_cases b:Tl t.writes w=tB;(·rw[if_pos b];exact this);·rw[if_neg b]at he⊢;(have c:t.writes.length≠10:=fun e=>by rw[if_pos e]at he;omega);omega
 ·rcases Rv _ _ _ a with rfl|a;(·exact hw);·exact h.wrs x a
def Hi(l:List Q9)(n k:List UInt8):Option Q9:=l.find? fun q=>tX (q.name=n)&&tX (q.key=k)
theorem RG{l:List Q9}{n k:List UInt8}{w:Q9}(h:Hi l n k=O w):w∈l∧w.name=n∧w.key=k:=by
 refine⟨List.mem_of_find?_eq_some h,?_⟩;have:=List.find?_some h;simpa using this
theorem Cd : ∀ (ws : List Q9) (l : FL), Zk l -> Zr l ws = 0 -> Er ws -> ∀ n k, JG (XT (Xl l ws) n) k = match Hi ws n k with
    | O w => if w.gone = tB then M else O w.value
    | none => JG (XT l n) k
  | [], l, _, _, _, n, k => rfl
  | w :: ws, l, h, he, ha, n, k => by
    have c := rH.1 ha
    rw [Zr] at he
    have g : Qz w = 0 := by
      by_cases e : Qz w = 0
      · exact e
      · rw [if_neg e] at he; exact absurd he e
    rw [if_pos g] at he
    have f : Xq l w = 0 := by
      by_cases e : Xq l w = 0
      · exact e
      · rw [if_neg e] at he; exact absurd he e
    rw [if_pos f] at he
    have o := Cd ws (QS l w) (Jq h g f) he c.2 n k
    rw [Xl, o]
    by_cases b : w.name = n ∧ w.key = k
    · have a : Hi (w :: ws) n k = O w := by
        show List.find? _ (w :: ws) = _
        rw [pU (by simpa using b)]
      have d : Hi ws n k = M := by
        cases e : Hi ws n k with
        | none => rfl
        | some q =>
          obtain ⟨i, j, m⟩ := RG e
          exact absurd ⟨b.1.trans j.symm, b.2.trans m.symm⟩ (c.1 q i)
      rw [a, d]
      show JG (XT (QS l w) n) k = if w.gone = tB then M else O w.value
      rw [jP h, if_pos b]
    · have a : Hi (w :: ws) n k = Hi ws n k := by
        show List.find? _ (w :: ws) = _
        rw [pV (by simpa using b)]; rfl
      rw [a]
      cases Hi ws n k with
      | some q => rfl
      | none =>
        show JG (XT (QS l w) n) k = JG (XT l n) k
        rw [jP h, if_neg b]
def Iv(a b k:List UInt8):Bool:=!YN k a&&!YN b k
theorem Ce(f:List UInt8->Bool):∀(l:PL)(k:List UInt8),JG (l.filter fun q=>f q.1) k=if f k=tB then JG l k else M|[],k=>by simp[JG]|q::l,k=>by have b:=Ce f l k;by_cases a:f q.1=tB;(·rw[List.filter_cons_of_pos (p:=fun q:Pr=>f q.1) a,Z5,Z5,b];by_cases e:q.1=k;(·subst e;rw[if_pos rfl,if_pos a,if_pos rfl]);·rw[if_neg e,if_neg e]);·rw[List.filter_cons_of_neg (p:=fun q:Pr=>f q.1) a,b,Z5];by_cases e:q.1=k;(·subst e;rw[if_neg a,if_neg a]);·rw[if_neg e]
theorem Gc(l:PL)(a b k:List UInt8):JG (Z4 l a b) k=if Iv a b k=tB then JG l k else M:=Ce (Iv a b) l k
theorem OG(l:PL)(h:J7 l)(a b:List UInt8)(p:Pr):Z4 (JD l p) a b=if Iv a b p.1=tB then JD (Z4 l a b) p else Z4 l a b:=by
 have d:=Uv l a b h;refine Ft _ _ (Uv _ a b (qI l p h)) ?_ fun k=>?_;·split;(·exact qI _ _ d);·exact d
 ·rw[Gc,DO l p k h];by_cases c:Iv a b p.1=tB;(·rw[if_pos c,DO _ p k d,Gc];by_cases e:p.1=k;(·subst e;rw[if_pos c,if_pos rfl,if_pos rfl]);·rw[if_neg e,if_neg e]);·rw[if_neg c,Gc];by_cases e:p.1=k;(·subst e;rw[if_neg c,if_neg c]);·rw[if_neg e]
theorem OR(l:PL)(h:J7 l)(a b k0:List UInt8):Z4 (qJ l k0) a b=if Iv a b k0=tB then qJ (Z4 l a b) k0 else Z4 l a b:=by
 have d:=Uv l a b h;refine Ft _ _ (Uv _ a b (kN l k0 h)) ?_ fun k=>?_;·split;(·exact kN _ _ d);·exact d
 ·rw[Gc,Dv];by_cases c:Iv a b k0=tB;(·rw[if_pos c,Dv,Gc];by_cases e:k0=k;(·subst e;rw[if_pos c,if_pos rfl,if_pos rfl]);·rw[if_neg e,if_neg e]);·rw[if_neg c,Gc];by_cases e:k0=k;(·subst e;rw[if_neg c,if_neg c]);·rw[if_neg e]
def Ka(n a b:List UInt8)(l:PL)(w:Q9):PL:=if w.name=n∧Iv a b w.key=tB then(if w.gone=tB then qJ l w.key else JD l (w.key,w.value))else l
def EH(n a b:List UInt8):PL->List Q9->PL|l,[]=>l|l,w::ws=>EH n a b (Ka n a b l w) ws
def xA(n a b:List UInt8):PL->List Q9->Int|_,[]=>0|l,w::ws=>if 60<(Ka n a b l w).length then 11 else xA n a b (Ka n a b l w) ws
theorem P0{f:FL}(h:Zk f)(w:Q9)(n a b:List UInt8):Ka n a b (Z4 (XT f n) a b) w=Z4 (XT (QS f w) n) a b:=by
 have i:=(Y0 h n).rises;rw[EJ h.rises];unfold Ka;by_cases d:w.name=n;·subst d;rw[if_pos rfl];unfold X6;by_cases g:w.gone=tB;(·simp only[if_pos g];rw[OR _ i];by_cases c:Iv a b w.key=tB;(·rw[if_pos ⟨by first|rfl|trivial,c⟩,if_pos c]);·rw[if_neg (fun e=>c e.2),if_neg c]);·simp only[if_neg g];rw[OG _ i];by_cases c:Iv a b w.key=tB;(·rw[if_pos ⟨by first|rfl|trivial,c⟩,if_pos c]);·rw[if_neg (fun e=>c e.2),if_neg c]
 ·rw[if_neg d,if_neg (fun e=>d e.1)]
theorem uY{f:FL}{w:Q9}{ws:List Q9}(he:Zr f (w::ws)=0):Qz w=0∧Xq f w=0∧Zr (QS f w) ws=0:=by
 rw[Zr]at he;have b:Qz w=0:=by by_cases e:Qz w=0;(·exact e);·rw[if_neg e]at he;exact absurd he e
 rw[if_pos b]at he;have a:Xq f w=0:=by by_cases e:Xq f w=0;(·exact e);·rw[if_neg e]at he;exact absurd he e
 rw[if_pos a]at he;exact⟨b,a,he⟩
theorem EY:∀(ws:List Q9)(f:FL),Zk f->Zr f ws=0->∀n a b,EH n a b (Z4 (XT f n) a b) ws=Z4 (XT (Xl f ws) n) a b∧xA n a b (Z4 (XT f n) a b) ws=0|[],f,_,_,n,a,b=>⟨rfl,rfl⟩|w::ws,f,h,he,n,a,b=>by obtain⟨k,j,c⟩:=uY he;have d:=Jq h k j;obtain⟨e,g⟩:=EY ws _ d c n a b;(have i:¬60<(Z4 (XT (QS f w) n) a b).length:=by have:=kP (XT (QS f w) n) a b;have:=(Y0 d n).room;omega);rw[EH,xA,P0 h,if_neg i];exact⟨e,g⟩
def Xa(r:Rd)(w:Q9):Bool:=tX (r.name=w.name)&&(if r.wide=tB then Iv r.key r.last w.key else tX (r.key=w.key))
def BS(t:Tx)(ws:List Q9):Bool:=ws.any fun w=>t.reads.any fun r=>Xa r w
def Fp(t:Tx)(l:List Xx):Bool:=l.any fun c=>tX (t.start<c.turn)&&BS t c.writes
def Rj(t:Tx):Int:=GN t
def KS(t:Tx)(l:List Xx):Bool:=if GN t=0then Fp t l else tA
theorem Oi{t:Tx}{ws:List Q9}(h:BS t ws=tA){r:Rd}(hr:r∈t.reads){w:Q9}(hw:w∈ws):Xa r w=tA:=by
 cases e:Xa r w with|false=>rfl|true=>have:BS t ws=tB:=sR.2 ⟨w,hw,sR.2 ⟨r,hr,e⟩⟩;rw[this]at h;cases h
theorem kZ:∀(ws:List Q9)(f:FL),Zk f->Zr f ws=0->∀(r:Rd),r.wide=tA->(∀w∈ws,Xa r w=tA)->JG (XT (Xl f ws) r.name) r.key=JG (XT f r.name) r.key|[],_,_,_,_,_,_=>rfl|w::ws,f,h,he,r,hw0,ht=>by obtain⟨d,c,b⟩:=uY he;rw[Xl,kZ ws _ (Jq h d c) b r hw0 (fun x g=>ht x (tQ _ g)),jP h];have a:=ht w (tR ..);unfold Xa at a;rw[hw0,if_neg (by decide)]at a;rw[if_neg (fun e=>by rw[e.1,e.2]at a;simp at a)]
theorem xQ:∀(ws:List Q9)(f:FL),Zk f->Zr f ws=0->∀(r:Rd),r.wide=tB->(∀w∈ws,Xa r w=tA)->Z4 (XT (Xl f ws) r.name) r.key r.last=Z4 (XT f r.name) r.key r.last|[],_,_,_,_,_,_=>rfl|w::ws,f,h,he,r,hw0,ht=>by obtain⟨d,c,b⟩:=uY he;rw[Xl,xQ ws _ (Jq h d c) b r hw0 (fun x g=>ht x (tQ _ g)),<-P0 h];have a:=ht w (tR ..);unfold Xa at a;rw[hw0,if_pos rfl]at a;unfold Ka;rw[if_neg (fun e=>by rw[<-e.1,e.2]at a;simp at a)]
theorem Ra{f:FL}(h:Zk f){ws:List Q9}(he:QR f ws=0):Zr f ws=0∧Xk f ws=Xl f ws:=by
 unfold QR at he;rw[if_pos ((Xc f).2 h)]at he;by_cases a:10<ws.length;·rw[if_pos a]at he;omega
 ·rw[if_neg a]at he;exact⟨he,by rw[Xk,QR,if_pos ((Xc f).2 h),if_neg a,if_pos he]⟩
theorem BF:∀(cs:List Xx)(f:FL)(i:Nat),Zk f->VK f i cs->∀(r:Rd),r.wide=tA->(∀c∈cs,∀w∈c.writes,Xa r w=tA)->JG (XT (YL f cs) r.name) r.key=JG (XT f r.name) r.key|[],_,_,_,_,_,_,_=>rfl|c::cs,f,i,h,hg,r,hw0,ht=>by obtain⟨a,b⟩:=Ra h hg.2.2.1;rw[YL,BF cs _ (i+1) (VH h c.writes) hg.2.2.2 r hw0 (fun x d=>ht x (tQ _ d)),b];exact kZ _ _ h a r hw0 (ht c (tR ..))
theorem EP:∀(cs:List Xx)(f:FL)(i:Nat),Zk f->VK f i cs->∀(r:Rd),r.wide=tB->(∀c∈cs,∀w∈c.writes,Xa r w=tA)->Z4 (XT (YL f cs) r.name) r.key r.last=Z4 (XT f r.name) r.key r.last|[],_,_,_,_,_,_,_=>rfl|c::cs,f,i,h,hg,r,hw0,ht=>by obtain⟨a,b⟩:=Ra h hg.2.2.1;rw[YL,EP cs _ (i+1) (VH h c.writes) hg.2.2.2 r hw0 (fun x d=>ht x (tQ _ d)),b];exact xQ _ _ h a r hw0 (ht c (tR ..))
theorem VK.drop:∀{cs:List Xx}{f:FL}{i:Nat}(_:VK f i cs)(j:Nat),VK (YL f (cs.take j)) (i+j) (cs.drop j)|_,_,_,h,0=>h|[],_,_,_,j+1=>by simp[VK]|c::cs,f,i,h,j+1=>by have:=VK.drop h.2.2.2 j;rw[show i+(j+1)=i+1+j by omega];exact this
theorem AF{t:Tx}{cs:List Xx}(hg:VK [] 0 cs){k:Nat}(hk:t.start=(k:Int))(h:Fp t cs=tA){r:Rd}(hr:r∈t.reads):∀c∈cs.drop k,∀w∈c.writes,Xa r w=tA:=by
 intro c f w d;obtain⟨j,i,rfl⟩:=List.getElem_of_mem f;rw[pM]at i;rw[List.getElem_drop]at d;have a:cs[k+j]∈cs:=sP _;have b:=(hg.at (k+j) (by omega)).2.1;rw[show cs.getD (k+j) Zq=cs[k+j]by simp[show k+j<cs.length by omega]]at b;have g:BS t (cs[k+j]).writes=tA:=by cases e:BS t (cs[k+j]).writes with|false=>rfl|true=>have:Fp t cs=tB:=sR.2 ⟨_,a,by rw[rI];exact⟨decide_eq_true (by rw[hk,b];omega),e⟩⟩;rw[this]at h;cases h
 exact Oi g hr d
theorem OM{t:Tx}{cs:List Xx}(hg:VK [] 0 cs){k:Nat}(hk:t.start=(k:Int))(h:Fp t cs=tA){r:Rd}(hr:r∈t.reads)(hw:r.wide=tA):JG (XT (YL [] cs) r.name) r.key=JG (XT (YL [] (cs.take k)) r.name) r.key:=by
 have a:=hg.drop k;have:=BF _ _ _ (JE (cs.take k) [] JA) a r hw (AF hg hk h hr);rw[<-V6,rT]at this;exact this
theorem Ct{t:Tx}{cs:List Xx}(hg:VK [] 0 cs){k:Nat}(hk:t.start=(k:Int))(h:Fp t cs=tA){r:Rd}(hr:r∈t.reads)(hw:r.wide=tB):Z4 (XT (YL [] cs) r.name) r.key r.last=Z4 (XT (YL [] (cs.take k)) r.name) r.key r.last:=by
 have a:=hg.drop k;have:=EP _ _ _ (JE (cs.take k) [] JA) a r hw (AF hg hk h hr);rw[<-V6,rT]at this;exact this
def xZ(l:FL)(t:Tx):Int:=if Q5 l=0then GN t else Q5 l
def KV(l:FL)(t:Tx)(n k:List UInt8):Int:=if xZ l t=0then(if Qt n.length=0then Qn k.length else Qt n.length)else xZ l t
def Vw(l:FL)(t:Tx)(n k:List UInt8):Bool:=if KV l t n k=0then(Hi t.writes n k).isSome else tA
def UW(l:FL)(t:Tx)(n k:List UInt8):Bool:=if KV l t n k=0then(match Hi t.writes n k with|O w=>!w.gone|none=>Y8 l n k)else tA
def UB(l:FL)(t:Tx)(n k:List UInt8):List UInt8:=if KV l t n k=0then(match Hi t.writes n k with|O w=>w.value|none=>Ja l n k)else[]
theorem M3{l:FL}{t:Tx}(hl:Zk l)(ht:Gf t){n k:List UInt8}(hn:1<=n.length∧n.length<=8)(hk:1<=k.length∧k.length<=16):KV l t n k=0:=by
 rw[KV,xZ,if_pos ((Xc l).2 hl),if_pos ((xH t).2 ht),if_pos ((Zm _).2 hn),(Zf _).2 hk]
def J0(l:FL)(t:Tx)(n a b:List UInt8):Int:=if xZ l t=0then(if Qt n.length=0then(if Qn a.length=0then(if Qn b.length=0then xA n a b (Z4 (XT l n) a b) t.writes else Qn b.length)else Qn a.length)else Qt n.length)else xZ l t
def VF(l:FL)(t:Tx)(n a b:List UInt8):PL:=if J0 l t n a b=0then EH n a b (Z4 (XT l n) a b) t.writes else[]
theorem D6{l:FL}{t:Tx}(hl:Zk l)(ht:Gf t)(he:Zr l t.writes=0){n k:List UInt8}(hn:1<=n.length∧n.length<=8)(hk:1<=k.length∧k.length<=16):UW l t n k=Y8 (Xl l t.writes) n k∧UB l t n k=Ja (Xl l t.writes) n k:=by
 have a:=M3 hl ht hn hk;have f:=zW t.writes l hl he;obtain⟨_,g2,g3⟩:=TL f n k hn hk;obtain⟨_,c,d⟩:=TL hl n k hn hk;have e:=Cd t.writes l hl he ht.apart n k;rw[UW,UB,if_pos a,if_pos a,g2,g3,e,c,d];cases hat:Hi t.writes n k with|none=>exact⟨rfl,rfl⟩|some w=>have g:=RG hat;have b:=((XD w).1 (ht.wrs w g.1)).2.2;cases hg:w.gone with|true=>rw[hg,if_pos rfl]at b;exact⟨by simp[hg],by simp[hg,b]⟩|false=>exact⟨by simp[hg],by simp[hg]⟩
theorem DG{l:FL}{t:Tx}(hl:Zk l)(ht:Gf t)(he:Zr l t.writes=0){n a b:List UInt8}(hn:1<=n.length∧n.length<=8)(ha:1<=a.length∧a.length<=16)(hb:1<=b.length∧b.length<=16):J0 l t n a b=0∧VF l t n a b=Z4 (XT (Xl l t.writes) n) a b:=by
 obtain⟨d,e⟩:=EY t.writes l hl he n a b;have c:J0 l t n a b=0:=by rw[J0,xZ,if_pos ((Xc l).2 hl),if_pos ((xH t).2 ht),if_pos ((Zm _).2 hn),if_pos ((Zf _).2 ha),if_pos ((Zf _).2 hb),e]
 exact⟨c,by rw[VF,if_pos c,d]⟩
structure Rp where
  sess : Int
  code : Int
  turn : Int
  found : Bool
  value : List UInt8
  pairs : PL
  pf : Option (FL × List UInt8 × List UInt8)
def xK(s:Nat)(e:Int):Rp:=⟨(s:Int),e,0,tA,[],[],M⟩
def eW(s:Nat)(t:Int):Rp:=⟨(s:Int),0,t,tA,[],[],M⟩
structure Sv where
  up : Bool
  tape : GA
  commits : List Xx
  synced : Nat
  begun : Nat -> Bool
  waits : Nat -> Bool
  txns : Nat -> Tx
  queue : List Nat
  out : List Rp
def UC{α:Type}(f:Nat->α)(i:Nat)(x:α):Nat->α:=fun j=>if j=i then x else f j
theorem ZA{α:Type}(f:Nat->α)(i:Nat)(x:α):UC f i x i=x:=by
 simp[UC]
theorem Zi{α:Type}(f:Nat->α){i j:Nat}(x:α)(h:j≠i):UC f i x j=f j:=by
 simp[UC,h]
def GC(up:Bool)(t:GA)(cs:List Xx)(o:List Rp):Sv:=⟨up,t,cs,cs.length,fun _=>tA,fun _=>tA,fun _=>Tp,[],o⟩
def Wc:Sv:=GC tB GF [] []
def Xn(v:Sv)(r:Rp):Sv:={v with out:=v.out++[r]}
def Qy(v:Sv)(n:Nat):FL:=YL [] (v.commits.take n)
def KM(v:Sv)(s:Nat)(x:Rd)(o:Rp):Sv:=if Z7 (v.txns s) x=0then Xn {v with txns:=UC v.txns s (XF (v.txns s) x)} o else Xn v (xK s (Z7 (v.txns s) x))
def xG(v:Sv)(s:Nat)(w:Q9):Sv:=Xn (if Xe (v.txns s) w=0then{v with txns:=UC v.txns s (Yq (v.txns s) w)}else v) (xK s (Xe (v.txns s) w))
def Nb(v:Sv)(s:Nat)(r:Rq):Sv:=if Vw (Qy v (v.txns s).start.toNat) (v.txns s) r.name r.key=tB then Xn v ⟨(s:Int),0,(v.txns s).start,UW (Qy v (v.txns s).start.toNat) (v.txns s) r.name r.key,UB (Qy v (v.txns s).start.toNat) (v.txns s) r.name r.key,[],M⟩else KM v s (QV r) ⟨(s:Int),0,(v.txns s).start,UW (Qy v (v.txns s).start.toNat) (v.txns s) r.name r.key,UB (Qy v (v.txns s).start.toNat) (v.txns s) r.name r.key,[],M⟩
def uG(v:Sv)(s:Nat)(r:Rq):Sv:=if J0 (Qy v (v.txns s).start.toNat) (v.txns s) r.name r.key r.last=0then KM v s (QV r) ⟨(s:Int),0,(v.txns s).start,tA,[],VF (Qy v (v.txns s).start.toNat) (v.txns s) r.name r.key r.last,M⟩else Xn v (xK s (J0 (Qy v (v.txns s).start.toNat) (v.txns s) r.name r.key r.last))
def jK(v:Sv)(s:Nat)(r:Rq):Sv:=if r.kind=4∨r.kind=5then xG v s (Xu r)else if r.kind=2then Nb v s r else uG v s r
def Jx(v:Sv)(s:Nat):Xx:=⟨((v.commits.length+1:Nat):Int),(v.txns s).writes⟩
def XW(v:Sv)(s:Nat):Sv:={v with begun:=UC v.begun s tA}
def Kx(D:List UInt8->List UInt8)(v:Sv)(s:Nat):Sv:=if(v.txns s).writes.length=0then Xn (XW v s) (eW s (v.txns s).start)else if v.queue.length=6∨v.commits.length=300then Xn v (xK s 11)else if KS (v.txns s) v.commits=tB then Xn (XW v s) (xK s 9)else if QR (Qy v v.commits.length) (v.txns s).writes≠0then Xn (XW v s) (xK s (QR (Qy v v.commits.length) (v.txns s).writes))else if V4 D v.tape (Jx v s)≠0then Xn (XW v s) (xK s (V4 D v.tape (Jx v s)))else{XW v s with tape:=xX D v.tape (Jx v s),commits:=v.commits++[Jx v s],queue:=v.queue++[s],waits:=UC v.waits s tB}
def Bo(v:Sv)(s:Nat)(r:Rq):Sv:=Xn v ⟨(s:Int),0,(v.synced:Int),Y8 (Qy v v.synced) r.name r.key,Ja (Qy v v.synced) r.name r.key,[],O (Qy v v.synced,r.name,r.key)⟩
def Zs(v:Sv)(s:Nat)(r:Rq):Bool:=v.waits s||(if r.kind=1then v.begun s else !v.begun s)
def VZ(D:List UInt8->List UInt8)(v:Sv)(s:Nat)(r:Rq):Sv:=if r.kind=8then Bo v s r else if Zs v s r=tB then Xn v (xK s 6)else if r.kind=1then Xn {v with begun:=UC v.begun s tB,txns:=UC v.txns s ⟨(v.synced:Int),[],[]⟩} (eW s (v.synced:Int))else if r.kind=7then Xn (XW v s) (xK s 0)else if JI (v.synced:Int) (v.txns s).start=tA then Xn (XW v s) (xK s 10)else if r.kind=6then Kx D v s else jK v s r
def UD(D:List UInt8->List UInt8)(v:Sv)(s:Nat)(data:List UInt8):Sv:=if v.up=tA then Xn v (xK s 13)else if Xz data=0then VZ D v s (Xp data)else Xn v (xK s (Xz data))
def VT:Nat->List Nat->List Rp|_,[]=>[]|n,s::q=>eW s ((n+1:Nat):Int)::VT (n+1) q
def UK(f:Nat->Bool)(q:List Nat):Nat->Bool:=fun j=>if j∈q then tA else f j
def VN(v:Sv):Sv:={v with tape:=KO v.tape,synced:=v.synced+v.queue.length,waits:=UK v.waits v.queue,queue:=[],out:=v.out++VT v.synced v.queue}
def Vh(D:List UInt8->List UInt8)(v:Sv)(k:Int):Sv:=GC tA (yK D (XC v.tape k)) (jW D (XC v.tape k)) v.out
def ZK(D:List UInt8->List UInt8)(v:Sv)(a:Ac):Sv:=if a.kind=1then UD D v a.sess.toNat a.data else if a.kind=2then(if v.up=tB then VN v else v)else if a.kind=3then(if v.up=tB then Vh D v a.keep else v)else{v with up:=tB}
def Jb(D:List UInt8->List UInt8)(l:List Ac):Sv:=l.foldl (ZK D) Wc
theorem Im(D:List UInt8->List UInt8)(l:List Ac)(a:Ac):Jb D (l++[a])=ZK D (Jb D l) a:=by
 simp[Jb]
theorem yN(D:List UInt8->List UInt8)(l k:List Ac):Jb D (l++k)=k.foldl (ZK D) (Jb D l):=by
 simp[Jb]
def zB(l:List Ac):Int:=GJ l
structure Oc where
  up : Bool
  turn : Int
  pending : Int
  forest : FL
  replies : List Rp
def V8(v:Sv):Oc:=⟨v.up,(v.synced:Int),(v.queue.length:Int),Qy v v.synced,v.out⟩
def Og:Oc:=⟨tA,0,0,[],[]⟩
def jA(D:List UInt8->List UInt8)(l:List Ac):Oc:=if zB l=0then V8 (Jb D l)else Og
section
theorem N4:∀{cs:List Xx}{f:FL}{i:Nat},VK f i cs->zZ (i+1) cs|[],_,_,_=>trivial|_::_,_,_,h=>⟨by rw[h.2.1],h.1,N4 h.2.2.2⟩
theorem Mt:∀{cs:List Xx}{f:FL}{i:Nat}{c:Xx},VK f i cs->Zb c=0->c.turn=((i+cs.length+1:Nat):Int)->QR (YL f cs) c.writes=0->VK f i (cs++[c])|[],_,_,_,_,h1,h2,h3=>⟨h1,by rw[h2];rfl,h3,trivial⟩|d::cs,f,i,c,h,h1,h2,h3=>⟨h.1,h.2.1,h.2.2.1,Mt h.2.2.2 h1 (by rw[h2,tZ];congr 1;omega) h3⟩
structure Zu (D : List UInt8 -> List UInt8) (v : Sv) : Prop where
  goes : VK [] 0 v.commits
  many : v.commits.length <= 300
  data : v.tape.data = QZ D v.commits
  mark : v.tape.synced = ((QZ D (v.commits.take v.synced)).length : Int)
  room : v.tape.data.length <= 200000
  turn : v.synced + v.queue.length = v.commits.length
  few : v.queue.length <= 6
  wait : ∀ s, v.waits s = tB ↔ s ∈ v.queue
  once : v.queue.Nodup
  tx : ∀ s, v.begun s = tB -> Gf (v.txns s) ∧ (v.txns s).start <= (v.synced : Int)
  idle : ∀ s, v.waits s = tB -> v.begun s = tA
  down : v.up = tA -> v.queue = [] ∧ ∀ s, v.begun s = tA
variable{D:List UInt8->List UInt8}{v:Sv}
theorem Zu.tell(h:Zu D v)(r:Rp):Zu D (Xn v r):=⟨h.goes,h.many,h.data,h.mark,h.room,h.turn,h.few,h.wait,h.once,h.tx,h.idle,h.down⟩
theorem NY{f:Nat->Bool}{s j:Nat}(h:UC f s tA j=tB):j≠s∧f j=tB:=by
 by_cases e:j=s;·rw[e,ZA]at h;cases h
 ·exact⟨e,by rwa[Zi f _ e]at h⟩
theorem Zu.end(h:Zu D v)(s:Nat):Zu D (XW v s):=by
 refine⟨h.goes,h.many,h.data,h.mark,h.room,h.turn,h.few,h.wait,h.once,fun j a=>h.tx j (NY a).2,fun j a=>?_,fun b=>⟨(h.down b).1,fun j=>?_⟩⟩;·show UC v.begun s tA j=tA;by_cases e:j=s;(·rw[e,ZA]);·rw[Zi _ _ e];exact h.idle j a
 ·show UC v.begun s tA j=tA;by_cases e:j=s;(·rw[e,ZA]);·rw[Zi _ _ e];exact(h.down b).2 j
theorem Zu.txn(h:Zu D v){s:Nat}{t:Tx}(ht:Gf t)(hs:t.start<=(v.synced:Int)):Zu D {v with txns:=UC v.txns s t}:=by
 refine⟨h.goes,h.many,h.data,h.mark,h.room,h.turn,h.few,h.wait,h.once,fun j a=>?_,h.idle,h.down⟩;show Gf (UC v.txns s t j)∧(UC v.txns s t j).start<=_;by_cases e:j=s;·rw[e,ZA];exact⟨ht,hs⟩
 ·rw[Zi _ _ e];exact h.tx j a
theorem Zu.may(h:Zu D v):G2 v.tape=tB:=by
 refine(K3 _).2 ⟨h.room,?_⟩;rw[h.mark,h.data];have:=Vq D v.commits v.synced v.commits.length (by have:=h.turn;omega);rw[sL]at this;omega
theorem z8{t:Tx}{r:Rd}(h:Z7 t r=0):(XF t r).start=t.start:=by
 rw[XF,if_pos h];split<;>rfl
theorem Bv{t:Tx}{w:Q9}(h:Xe t w=0):(Yq t w).start=t.start:=by
 rw[Yq,if_pos h]
theorem Zu.note(h:Zu D v){s:Nat}(hb:v.begun s=tB){x:Rd}(hx:XQ x=0)(o:Rp):Zu D (KM v s x o):=by
 obtain⟨a,b⟩:=h.tx s hb;unfold KM;by_cases e:Z7 (v.txns s) x=0;·rw[if_pos e];exact(h.txn (gV a hx e) (by rw[z8 e];exact b)).tell _
 ·rw[if_neg e];exact h.tell _
theorem Zu.write(h:Zu D v){s:Nat}(hb:v.begun s=tB){w:Q9}(hw:Qz w=0):Zu D (xG v s w):=by
 obtain⟨a,b⟩:=h.tx s hb;unfold xG;by_cases e:Xe (v.txns s) w=0;·rw[if_pos e];exact(h.txn (eJ a hw e) (by rw[Bv e];exact b)).tell _
 ·rw[if_neg e];exact h.tell _
theorem vM{r:Rq}(h:Yb r)(hk:r.kind=2∨r.kind=3):XQ (QV r)=0:=dE (by
 rw[(Ru h).1,if_pos hk])
theorem Ix{r:Rq}(h:Yb r)(hk:r.kind=4∨r.kind=5):Qz (Xu r)=0:=NQ (by
 rw[(Ru h).2,if_pos hk])
theorem Zu.work(h:Zu D v){s:Nat}(hb:v.begun s=tB){r:Rq}(hr:Yb r)(hk:2<=r.kind∧r.kind<=5):Zu D (jK v s r):=by
 unfold jK;by_cases a:r.kind=4∨r.kind=5;·rw[if_pos a];exact h.write hb (Ix hr a)
 ·rw[if_neg a];by_cases b:r.kind=2;(·rw[if_pos b];unfold Nb;split;(·exact h.tell _);·exact h.note hb (vM hr (.inl b)) _);·rw[if_neg b];unfold uG;split;(·exact h.note hb (vM hr (.inr (by omega))) _);·exact h.tell _
theorem Bn{t:Tx}(ht:Gf t)(hw:¬t.writes.length=0)(n:Nat)(hn:n<=300):Zb ⟨((n+1:Nat):Int),t.writes⟩=0:=(Uf _).2 ⟨by
 show(1:Int)<=((n+1:Nat):Int)∧((n+1:Nat):Int)<=1048576;omega,⟨by
 show 1<=t.writes.length;omega,ht.writes⟩,ht.wrs⟩
theorem An(h:Zu D v){s:Nat}(hb:v.begun s=tB)(h1:¬(v.txns s).writes.length=0)(h2:¬(v.queue.length=6∨v.commits.length=300))(h4:QR (Qy v v.commits.length) (v.txns s).writes=0)(h5:V4 D v.tape (Jx v s)=0):Zu D {XW v s with tape:=xX D v.tape (Jx v s),commits:=v.commits++[Jx v s],queue:=v.queue++[s],waits:=UC v.waits s tB}:=by
 obtain⟨r,q⟩:=h.tx s hb;have p:=h.many;have m:Zb (Jx v s)=0:=Bn r h1 _ p;have d:=h.may;have c:v.tape.data.length+(ZM D (Jx v s)).length<=200000:=by rw[V4,if_pos d,if_pos m]at h5;by_cases e:200000<v.tape.data.length+(ZM D (Jx v s)).length;(·rw[if_pos e]at h5;exact absurd h5 (by decide));·omega
 have n:xX D v.tape (Jx v s)=⟨v.tape.data++ZM D (Jx v s),v.tape.synced⟩:=by rw[xX,if_pos h5]
 have i:v.waits s≠tB:=fun e=>by have:=h.idle s e;rw[hb]at this;cases this
 have g:s∉v.queue:=fun e=>i ((h.wait s).2 e);have l:v.up=tB:=by cases k:v.up with|true=>rfl|false=>have:=(h.down k).2 s;rw[hb]at this;cases this
 have t:=h.turn;rw[n];refine⟨?_,?_,?_,?_,?_,?_,?_,?_,?_,?_,?_,?_⟩;·refine Mt h.goes m (by show((v.commits.length+1:Nat):Int)=_;congr 1;omega) ?_;rw[Qy,sL]at h4;exact h4
 ·show(v.commits++[Jx v s]).length<=300;rw[tH,sI];omega
 ·show v.tape.data++ZM D (Jx v s)=QZ D (v.commits++[Jx v s]);rw[V9,Fm,h.data]
 ·show v.tape.synced=((QZ D ((v.commits++[Jx v s]).take v.synced)).length:Int);rw[pP (by omega)];exact h.mark
 ·show(v.tape.data++ZM D (Jx v s)).length<=200000;rw[tH];exact c
 ·show v.synced+(v.queue++[s]).length=(v.commits++[Jx v s]).length;rw[tH,tH,sI,sI];omega
 ·show(v.queue++[s]).length<=6;have:=h.few;rw[tH,sI];omega
 ·intro j;show UC v.waits s tB j=tB↔j∈v.queue++[s];by_cases e:j=s;(·rw[e,ZA];simp);·rw[Zi _ _ e,h.wait j];simp[e]
 ·show(v.queue++[s]).Nodup;rw[pZ];exact⟨h.once,by simp,fun a o b hb e=>g (by simp at hb;rw[<-hb,<-e];exact o)⟩
 ·intro j f;exact h.tx j (NY f).2
 ·intro j f;show UC v.begun s tA j=tA;by_cases e:j=s;(·rw[e,ZA]);·rw[Zi _ _ e];exact h.idle j (by have:UC v.waits s tB j=tB:=f;rwa[Zi _ _ e]at this)
 ·intro k;have:v.up=tA:=k;rw[l]at this;cases this
theorem Zu.commit(h:Zu D v){s:Nat}(hb:v.begun s=tB):Zu D (Kx D v s):=by
 unfold Kx;by_cases a:(v.txns s).writes.length=0;·rw[if_pos a];exact(h.end s).tell _
 ·rw[if_neg a];by_cases b:v.queue.length=6∨v.commits.length=300;(·rw[if_pos b];exact h.tell _);·rw[if_neg b];by_cases e:KS (v.txns s) v.commits=tB;(·rw[if_pos e];exact(h.end s).tell _);·rw[if_neg e];by_cases c:QR (Qy v v.commits.length) (v.txns s).writes≠0;(·rw[if_pos c];exact(h.end s).tell _);·rw[if_neg c];by_cases d:V4 D v.tape (Jx v s)≠0;(·rw[if_pos d];exact(h.end s).tell _);·rw[if_neg d];exact An h hb a b (rA c) (rA d)
theorem Zu.req(h:Zu D v)(hup:v.up=tB)(s:Nat){r:Rq}(hr:Yb r):Zu D (VZ D v s r):=by
 unfold VZ;by_cases g:r.kind=8;·rw[if_pos g];exact h.tell _
 ·rw[if_neg g];by_cases a:Zs v s r=tB;(·rw[if_pos a];exact h.tell _);·rw[if_neg a];(have c:v.waits s=tA∧(if r.kind=1then v.begun s else !v.begun s)=tA:=by unfold Zs at a;cases hw:v.waits s;(·rw[hw]at a;exact⟨rfl,by simpa using a⟩);·rw[hw]at a;exact absurd rfl a);by_cases d:r.kind=1;(·rw[if_pos d];refine Zu.tell ?_ _;have q:=h.many;have n:=h.turn;refine⟨h.goes,h.many,h.data,h.mark,h.room,h.turn,h.few,h.wait,h.once,fun j f=>?_,fun j f=>?_,fun o=>?_⟩;(·show Gf (UC v.txns s _ j)∧(UC v.txns s _ j).start<=_;by_cases e:j=s;(·rw[e,ZA];exact⟨⟨by show(0:Int)<=(v.synced:Int)∧(v.synced:Int)<=1048576;omega,by simp,by simp,by simp,by simp,by simp,by simp[Er]⟩,Int.le_refl _⟩);·rw[Zi _ _ e];exact h.tx j (by have:UC v.begun s tB j=tB:=f;rwa[Zi _ _ e]at this));(·show UC v.begun s tB j=tA;have b:v.waits j=tB:=f;by_cases e:j=s;(·rw[e,c.1]at b;cases b);·rw[Zi _ _ e];exact h.idle j b);·have:v.up=tA:=o;rw[hup]at this;cases this);·rw[if_neg d];(have m:v.begun s=tB:=by have:=c.2;rw[if_neg d]at this;simpa using this);by_cases i:r.kind=7;(·rw[if_pos i];exact(h.end s).tell _);·rw[if_neg i];by_cases k:JI (v.synced:Int) (v.txns s).start=tA;(·rw[if_pos k];exact(h.end s).tell _);·rw[if_neg k];by_cases l:r.kind=6;(·rw[if_pos l];exact h.commit m);·rw[if_neg l];have p:=hr.kind;exact h.work m hr (by omega)
theorem Zu.ask(h:Zu D v)(s:Nat)(d:List UInt8):Zu D (UD D v s d):=by
 unfold UD;by_cases a:v.up=tA;·rw[if_pos a];exact h.tell _
 ·rw[if_neg a];by_cases b:Xz d=0;(·rw[if_pos b];exact h.req (by simpa using a) s ((GK _).1 (Mj b).1));·rw[if_neg b];exact h.tell _
theorem Zu.sync(h:Zu D v):Zu D (VN v):=by
 have c:=h.may;have a:=h.turn;refine⟨h.goes,h.many,?_,?_,?_,?_,by simp[VN],?_,by simp[VN],?_,?_,?_⟩;·show(KO v.tape).data=_;rw[KO,if_pos c];exact h.data
 ·show(KO v.tape).synced=((QZ D (v.commits.take (v.synced+v.queue.length))).length:Int);rw[KO,if_pos c,a,sL,<-h.data]
 ·show(KO v.tape).data.length<=_;rw[KO,if_pos c];exact h.room
 ·show v.synced+v.queue.length+([]:List Nat).length=v.commits.length;simpa using a
 ·intro j;show UK v.waits v.queue j=tB↔j∈([]:List Nat);rw[UK];constructor;(·intro e;split at e;(·cases e);·rename_i hq;exact absurd ((h.wait j).1 e) hq);·intro e;simp at e
 ·intro j b;obtain⟨d,f⟩:=h.tx j b;exact⟨d,by show _<=((v.synced+v.queue.length:Nat):Int);have:(v.txns j).start<=(v.synced:Int):=f;show(v.txns j).start<=_;omega⟩
 ·intro j b;have:UK v.waits v.queue j=tB:=b;rw[UK]at this;split at this;(·cases this);·exact h.idle j this
 ·intro g;exact⟨rfl,(h.down g).2⟩
theorem Ws{up:Bool}{t:GA}{cs:List Xx}{o:List Rp}(hg:VK [] 0 cs)(hm:cs.length<=300)(hd:t=⟨QZ D cs,((QZ D cs).length:Int)⟩)(hr:(QZ D cs).length<=200000):Zu D (GC up t cs o):=by
 subst hd;refine⟨hg,hm,rfl,?_,hr,rfl,by simp[GC],fun s=>by simp[GC],by simp[GC],fun s a=>by simp[GC]at a,fun s a=>by simp[GC]at a,fun _=>⟨rfl,fun _=>rfl⟩⟩;show((QZ D cs).length:Int)=((QZ D (cs.take cs.length)).length:Int);rw[sL]
theorem Sq(D:List UInt8->List UInt8):Zu D Wc:=Ws trivial (by
 simp) rfl (by
 simp[QZ])
theorem zM(hD:∀x,(D x).length=4)(h:Zu D v){k:Int}(hk:0<=k):∃j,v.synced<=j∧j<=v.commits.length∧Vh D v k=GC tA ⟨QZ D (v.commits.take j),((QZ D (v.commits.take j)).length:Int)⟩ (v.commits.take j) v.out∧(k=0->j=v.synced):=by
 have l:=h.may;obtain⟨y,z,A⟩:=(K3 _).1 l;have d:zZ 1 v.commits:=N4 h.goes;have t:=h.turn;have b:UO v.tape k=0:=by rw[UO,if_pos l,if_neg (by omega)]
 have c:XH v.tape k<=v.tape.data.length∧v.tape.synced<=(XH v.tape k:Int):=by rw[XH];split<;>omega
 have a:XC v.tape k=⟨(QZ D v.commits).take (XH v.tape k),(XH v.tape k:Int)⟩:=by rw[XC,if_pos b,h.data]
 have g:(QZ D v.commits).length<=200000:=by rw[<-h.data];exact h.room
 obtain⟨j,m,u,n,_,o,p⟩:=b6 hD d (XH v.tape k) (XH v.tape k:Int) (by rw[<-h.data];exact c.1) (by omega) g;have i:v.synced<=j:=by refine EC (D:=D) (cs:=v.commits) (k:=XH v.tape k) (by omega) n ?_;have:=h.mark;omega
 have e:(if(XH v.tape k:Int)>((QZ D (v.commits.take j)).length:Int)then((QZ D (v.commits.take j)).length:Int)else(XH v.tape k:Int))=((QZ D (v.commits.take j)).length:Int):=by split<;>omega
 refine⟨j,i,m,?_,?_⟩;·rw[Vh,a,o,p,e]
 ·intro f;by_cases r:j=v.synced;(·exact r);·exfalso;(have w:(XH v.tape k:Int)=v.tape.synced:=by rw[XH,f];split<;>omega);have g1:=Vq D v.commits (v.synced+1) j (by omega);have g2:=A8 D v.commits v.synced (by omega);have q:=(h.goes.at v.synced (by omega)).1;have g3:=(At hD q).1;have s:=h.mark;rw[g2,tH]at g1;omega
theorem Zu.crash(hD:∀x,(D x).length=4)(h:Zu D v){k:Int}(hk:0<=k):Zu D (Vh D v k):=by
 obtain⟨j,d,b,c,_⟩:=zM hD h hk;have e:=h.many;have a:=Vq D v.commits j v.commits.length b;rw[sL,<-h.data]at a;have f:=h.room;rw[c];exact Ws (h.goes.take j) (by rw[pC];omega) rfl (by omega)
theorem Zu.start(h:Zu D v):Zu D {v with up:=tB}:=⟨h.goes,h.many,h.data,h.mark,h.room,h.turn,h.few,h.wait,h.once,h.tx,h.idle,fun hu=>by
 cases hu⟩
theorem Zu.act(hD:∀x,(D x).length=4)(h:Zu D v){a:Ac}(ha:Z6 a):Zu D (ZK D v a):=by
 unfold ZK;by_cases c:a.kind=1;·rw[if_pos c];exact h.ask _ _
 ·rw[if_neg c];by_cases d:a.kind=2;(·rw[if_pos d];split;(·exact h.sync);·exact h);·rw[if_neg d];by_cases b:a.kind=3;(·rw[if_pos b];split;(·exact h.crash hD (ha.keep b).1);·exact h);·rw[if_neg b];exact h.start
theorem NU(hD:∀x,(D x).length=4):∀(l:List Ac)(v:Sv),Zu D v->(∀a∈l,Z6 a)->Zu D (l.foldl (ZK D) v)|[],_,h,_=>h|a::l,v,h,ha=>NU hD l _ (h.act hD (ha a (by simp))) (fun x b=>ha x (by simp[b]))
theorem Ro(hD:∀x,(D x).length=4)(l:List Ac)(h:∀a∈l,Z6 a):Zu D (Jb D l):=NU hD l Wc (Sq D) h
end
structure Same (v u : Sv) : Prop where
  up : u.up = v.up
  tape : u.tape = v.tape
  commits : u.commits = v.commits
  synced : u.synced = v.synced
  waits : u.waits = v.waits
  queue : u.queue = v.queue
theorem Same.rfl{v:Sv}:Same v v:=⟨by
 rfl,by
 rfl,by
 rfl,by
 rfl,by
 rfl,by
 rfl⟩
theorem Same.trans{v u w:Sv}(h:Same v u)(k:Same u w):Same v w:=⟨k.up.trans h.up,k.tape.trans h.tape,k.commits.trans h.commits,k.synced.trans h.synced,k.waits.trans h.waits,k.queue.trans h.queue⟩
structure eX (s : Nat) (v u : Sv) : Prop extends Same v u where
  out : ∃ r, u.out = v.out ++ [r] ∧ r.sess = (s : Int)
  begun : ∀ j, j ≠ s -> u.begun j = v.begun j
  txns : ∀ j, j ≠ s -> u.txns j = v.txns j
theorem UA(v:Sv)(s:Nat)(r:Rp)(h:r.sess=(s:Int)):eX s v (Xn v r):=⟨⟨rfl,rfl,rfl,rfl,rfl,rfl⟩,⟨r,rfl,h⟩,fun _ _=>rfl,fun _ _=>rfl⟩
theorem kD(v:Sv)(s:Nat)(r:Rp)(h:r.sess=(s:Int)):eX s v (Xn (XW v s) r):=⟨⟨rfl,rfl,rfl,rfl,rfl,rfl⟩,⟨r,rfl,h⟩,fun _ hj=>Zi _ _ hj,fun _ _=>rfl⟩
theorem Wf(v:Sv)(s:Nat)(t:Tx)(r:Rp)(h:r.sess=(s:Int)):eX s v (Xn {v with txns:=UC v.txns s t} r):=⟨⟨rfl,rfl,rfl,rfl,rfl,rfl⟩,⟨r,rfl,h⟩,fun _ _=>rfl,fun _ a=>Zi _ _ a⟩
theorem CD(v:Sv)(s:Nat)(x:Rd)(o:Rp)(h:o.sess=(s:Int)):eX s v (KM v s x o):=by
 unfold KM;split;·exact Wf v s _ _ h
 ·exact UA v s _ rfl
theorem I9(v:Sv)(s:Nat)(w:Q9):eX s v (xG v s w):=by
 unfold xG;split;·exact Wf v s _ _ rfl
 ·exact UA v s _ rfl
theorem aW(v:Sv)(s:Nat)(r:Rq):eX s v (jK v s r):=by
 unfold jK;split;·exact I9 v s _
 ·split;(·unfold Nb;split;(·exact UA v s _ rfl);·exact CD v s _ _ rfl);·unfold uG;split;(·exact CD v s _ _ rfl);·exact UA v s _ rfl
structure bR (D : List UInt8 -> List UInt8) (s : Nat) (v u : Sv) : Prop where
  up : u.up = v.up
  tape : u.tape = xX D v.tape (Jx v s)
  commits : u.commits = v.commits ++ [Jx v s]
  synced : u.synced = v.synced
  waits : u.waits = UC v.waits s tB
  queue : u.queue = v.queue ++ [s]
  out : u.out = v.out
  begun : u.begun = UC v.begun s tA
  txns : u.txns = v.txns
  full : (v.txns s).writes.length ≠ 0
  room : v.queue.length ≠ 6 ∧ v.commits.length ≠ 300
  clash : KS (v.txns s) v.commits = tA
  fits : QR (Qy v v.commits.length) (v.txns s).writes = 0
  app : V4 D v.tape (Jx v s) = 0
theorem OW(D:List UInt8->List UInt8)(v:Sv)(s:Nat):eX s v (Kx D v s)∨bR D s v (Kx D v s):=by
 unfold Kx;by_cases b:(v.txns s).writes.length=0;·rw[if_pos b];exact .inl (kD v s _ rfl)
 ·rw[if_neg b];by_cases a:v.queue.length=6∨v.commits.length=300;(·rw[if_pos a];exact .inl (UA v s _ rfl));·rw[if_neg a];by_cases c:KS (v.txns s) v.commits=tB;(·rw[if_pos c];exact .inl (kD v s _ rfl));·rw[if_neg c];by_cases d:QR (Qy v v.commits.length) (v.txns s).writes≠0;(·rw[if_pos d];exact .inl (kD v s _ rfl));·rw[if_neg d];by_cases f:V4 D v.tape (Jx v s)≠0;(·rw[if_pos f];exact .inl (kD v s _ rfl));·rw[if_neg f];exact .inr ⟨rfl,rfl,rfl,rfl,rfl,rfl,rfl,rfl,rfl,b,⟨fun e=>a (.inl e),fun e=>a (.inr e)⟩,by simpa using c,rA d,rA f⟩
theorem lR(D:List UInt8->List UInt8)(v:Sv)(s:Nat)(r:Rq):eX s v (VZ D v s r)∨(r.kind=6∧Zs v s r=tA∧bR D s v (VZ D v s r)):=by
 unfold VZ;by_cases d:r.kind=8;·rw[if_pos d];exact .inl (UA v s _ rfl)
 ·rw[if_neg d];by_cases a:Zs v s r=tB;(·rw[if_pos a];exact .inl (UA v s _ rfl));·rw[if_neg a];by_cases e:r.kind=1;(·rw[if_pos e];exact .inl ⟨⟨rfl,rfl,rfl,rfl,rfl,rfl⟩,⟨_,rfl,rfl⟩,fun _ c=>Zi _ _ c,fun _ c=>Zi _ _ c⟩);·rw[if_neg e];by_cases f:r.kind=7;(·rw[if_pos f];exact .inl (kD v s _ rfl));·rw[if_neg f];by_cases g:JI (v.synced:Int) (v.txns s).start=tA;(·rw[if_pos g];exact .inl (kD v s _ rfl));·rw[if_neg g];by_cases b:r.kind=6;(·rw[if_pos b];rcases OW D v s with h|h;(·exact .inl h);·exact .inr ⟨b,by simpa using a,h⟩);·rw[if_neg b];exact .inl (aW v s r)
theorem P9(D:List UInt8->List UInt8)(v:Sv)(s:Nat)(d:List UInt8):eX s v (UD D v s d)∨(v.up=tB∧Xz d=0∧(Xp d).kind=6∧v.waits s=tA∧v.begun s=tB∧bR D s v (UD D v s d)):=by
 unfold UD;by_cases b:v.up=tA;·rw[if_pos b];exact .inl (UA v s _ rfl)
 ·rw[if_neg b];by_cases c:Xz d=0;(·rw[if_pos c];rcases lR D v s (Xp d)with h|⟨e,a,f⟩;(·exact .inl h);·right;unfold Zs at a;rw[if_neg (by omega)]at a;simp only[rV,Bool.not_eq_false']at a;exact⟨by simpa using b,c,e,a.1,a.2,f⟩);·rw[if_neg c];exact .inl (UA v s _ rfl)
theorem gU(D:List UInt8->List UInt8)(v:Sv)(a:Ac):∃rs,(ZK D v a).out=v.out++rs:=by
 unfold ZK;split;·rcases P9 D v a.sess.toNat a.data with h|h;(·obtain⟨r,b,_⟩:=h.out;exact⟨[r],b⟩);·exact⟨[],by rw[tY];exact h.2.2.2.2.2.out⟩
 ·split;(·split;(·exact⟨VT v.synced v.queue,rfl⟩);·exact⟨[],by rw[tY]⟩);·split;(·split;(·exact⟨[],by rw[tY];rfl⟩);·exact⟨[],by rw[tY]⟩);·exact⟨[],by rw[tY]⟩
theorem FQ:∀(q:List Nat)(n:Nat),(VT n q).length=q.length|[],_=>rfl|_::q,n=>by rw[VT,tZ,tZ,FQ q]
structure Gr where
  kind : Int
  sess : Int
  name : Int
  key : Int
  value : Int
def JW:Gr:=⟨0,0,0,0,0⟩
def Xy(n:Int)(many:Nat):Nat:=if n<0then((-(n+1))%(many:Int)).toNat else(n%(many:Int)).toNat
theorem UQ(n:Int){many:Nat}(h:0<many):Xy n many<many:=by
 unfold Xy;split;·have a:=Int.emod_nonneg (-(n+1)) (show(many:Int)≠0 by omega);have b:=oV (-(n+1)) (show(0:Int)<many by omega);omega
 ·have a:=Int.emod_nonneg n (show(many:Int)≠0 by omega);have b:=oV n (show(0:Int)<many by omega);omega
def nO(n:Int):List UInt8:=[rB (97+Xy n 3)]
def nM(n:Int):List UInt8:=[rB (107+Xy n 5)]
def oI(n:Int):List UInt8:=[rB (Xy n 50)]
def Tm(k:Nat)(a b c d:List UInt8):Rq:=if k<4then⟨1,[],[],[],[]⟩else if k<7then⟨2,a,b,[],[]⟩else if k=7then⟨3,a,b,c,[]⟩else if k<12then⟨4,a,b,[],d⟩else if k=12then⟨5,a,b,[],[]⟩else if k<17then⟨6,[],[],[],[]⟩else if k=17then⟨7,[],[],[],[]⟩else⟨8,a,b,[],[]⟩
def Vg(g:Gr):Rq:=Tm (Xy g.kind 20) (nO g.name) (nM g.key) (nM g.value) (oI g.value)
theorem iA(k:Nat){a b c d:List UInt8}(ha:a.length=1)(hb:b.length=1)(hc:c.length=1)(hd:d.length=1):Yb (Tm k a b c d):=by
 unfold Tm;repeat' split
 all_goals(refine⟨⟨?_,?_⟩,?_,?_,?_,?_,?_,?_,?_,?_⟩<;>simp[QT, *])
theorem TV(g:Gr):Yb (Vg g):=iA _ rfl rfl rfl rfl
def VD(g:Gr):Ac:=if Xy g.kind 26=20∨Xy g.kind 26=21∨Xy g.kind 26=22then⟨2,0,0,[]⟩else if Xy g.kind 26=23then⟨3,0,(Xy g.value 80:Int),[]⟩else if Xy g.kind 26=24then⟨4,0,0,[]⟩else if Xy g.kind 26=25then⟨1,(Xy g.sess 8:Int),0,[rB (pF.wrap g.value).toNat,rB (pF.wrap g.key).toNat]⟩else⟨1,(Xy g.sess 8:Int),0,Kr (Vg g)⟩
def YP(l:List Gr)(n:Nat):List Ac:=(l.take n).map VD
theorem Wv{r:Rq}(h:Yb r):Kr r=Yj r:=by
 rw[Kr,if_pos ((GK r).2 h)]
theorem eO{r:Rq}(h:Yb r):(Kr r).length<=78:=by
 rw[Wv h];exact(vQ h).1
theorem aU{s:Int}{d:List UInt8}(h0:0<=s)(h1:s<=7)(hd:d.length<=4000):Z6 ⟨1,s,0,d⟩:=by
 refine⟨⟨by simp,by simp⟩,fun _=>⟨h0,h1⟩,fun h=>by simp at h,hd,fun h=>by simp at h,fun _=>rfl,fun h=>by simp at h⟩
theorem iE:Z6 ⟨2,0,0,[]⟩:=⟨⟨by
 simp,by
 simp⟩,fun h=>by
 simp at h,fun h=>by
 simp at h,by
 simp,fun _=>rfl,fun _=>rfl,fun _=>rfl⟩
theorem dM:Z6 ⟨4,0,0,[]⟩:=⟨⟨by
 simp,by
 simp⟩,fun h=>by
 simp at h,fun h=>by
 simp at h,by
 simp,fun _=>rfl,fun _=>rfl,fun _=>rfl⟩
theorem aP{k:Int}(h0:0<=k)(h1:k<=200000):Z6 ⟨3,0,k,[]⟩:=⟨⟨by
 simp,by
 simp⟩,fun h=>by
 simp at h,fun _=>⟨h0,h1⟩,by
 simp,fun _=>rfl,fun h=>by
 simp at h,fun _=>rfl⟩
theorem Wu(g:Gr):Z6 (VD g):=by
 have b:=UQ g.sess (many:=8) (by decide);have a:=UQ g.value (many:=80) (by decide);have c:=eO (TV g);unfold VD;split;·exact iE
 ·split;(·exact aP (by omega) (by omega));·split;(·exact dM);·split;(·exact aU (by omega) (by omega) (by simp));·exact aU (by omega) (by omega) (by omega)
theorem Lb(l:List Gr)(n:Nat):∀a∈YP l n,Z6 a:=fun a b=>by
 obtain⟨g,_,rfl⟩:=List.mem_map.1 b;exact Wu g
structure VS (l : FL) : Prop where
  many : l.length * 48 <= 140737488355328
  each : ∀ i, i < l.length -> (l.getD i ([], [])).1.length <= 140737488355328 ∧ vO (l.getD i ([], [])).2
theorem VS.len{l:FL}(h:VS l):l.length<=140737488355328:=by
 have:=h.many;omega
theorem Zk.fits{l:FL}(h:Zk l):VS l:=by
 refine⟨by have:=h.room;omega,fun i a=>?_⟩;have:=h.tens l[i] (sP a);rw[show l[i]=l.getD i ([],[])by simp[a]]at this;exact⟨by omega,this.2.2.fits⟩
def CJ(w:L)(b o:Nat)(t:Tn):Prop:=∃vn vp,w.cell? ⟨b,o,M⟩=O vn∧w.cell? ⟨b,o+1,M⟩=O vp∧Qe w vn t.1∧Qo w vp t.2
theorem CJ.grown{w w':L}{b o:Nat}{t:Tn}(h:CJ w b o t)(hg:Y w w' M):CJ w' b o t:=by
 obtain⟨f,g,a,c,d,e⟩:=h;exact⟨f,g,hg.cell a (by simp),hg.cell c (by simp),d.grown hg,e.grown hg⟩
def ZD(w:L)(v:N)(l:FL):Prop:=∃a cap,v=S a l.length cap∧l.length<=cap∧((l=[]∧(a=M->cap=0))∨∃b o,a=O ⟨b,o,M⟩∧∀i,i<l.length->CJ w b (o+i*2) (l.getD i ([],[])))
theorem zR(w:L):ZD w (S M 0 0) []:=⟨M,0,rfl,sG _,.inl ⟨rfl,fun _=>rfl⟩⟩
theorem ZD.grown{w w':L}{v:N}{l:FL}(h:ZD w v l)(hg:Y w w' M):ZD w' v l:=by
 obtain⟨a,cap,rfl,c,h⟩:=h;refine⟨a,cap,rfl,c,?_⟩;rcases h with h|⟨b,o,rfl,h⟩;·exact .inl h
 ·exact .inr ⟨b,o,rfl,fun i d=>(h i d).grown hg⟩
theorem ZD.shape{w:L}{v:N}{l:FL}(h:ZD w v l):∃a cap,v=S a l.length cap:=by
 obtain⟨a,cap,rfl,_⟩:=h;exact⟨a,cap,rfl⟩
theorem ZD.at{w:L}{a:Option rK}{n cap:Nat}{l:FL}(h:ZD w (S a n cap) l)(i:Nat)(hi:i<l.length):∃b o,a=O ⟨b,o,M⟩∧CJ w b (o+i*2) (l.getD i ([],[])):=by
 obtain⟨d,c,e,f,h⟩:=h;simp only[tL]at e;obtain⟨rfl,rfl,rfl⟩:=e;rcases h with⟨rfl,_⟩|⟨b,o,rfl,h⟩;·simp at hi
 ·exact⟨b,o,rfl,h i hi⟩
theorem lA:(112:Nat)≠5:=by
 decide
theorem i6:(112:Nat)≠50:=by
 decide
def ZI(base:Nat)(w:L)(v:N)(l:FL):Prop:=∃vs:List (N×N),vs.length=l.length∧w.ownsRow base 112 2 v l.length (flat vs)∧∀i,i<l.length->Qf 0 w (vs.getD i (sS,sS)).1 (l.getD i ([],[])).1∧QK 0 w (vs.getD i (sS,sS)).2 (l.getD i ([],[])).2
theorem jU(base:Nat)(w:L):ZI base w (S M 0 0) []:=⟨[],rfl,sV _ _ _ _,fun i hi=>by
 simp at hi⟩
theorem ZI.row{base:Nat}{w:L}{v:N}{l:FL}(h:ZI base w v l):v.ownBlock=M∨∃g cur t fz,v.ownBlock=O g∧base<=g∧w.heap[g]?=O (tD cur t fz)∧t≠5∧t≠50:=by
 obtain⟨c,_,h,_⟩:=h;rcases h.2with⟨rfl,_⟩|⟨g,cap,cur,rfl,a,b,_⟩;·exact .inl rfl
 ·exact .inr ⟨g,cur,_,_,rfl,a,b,lA,i6⟩
theorem ZI.row0{base:Nat}{w:L}{v:N}{l:FL}(h:ZI base w v l):v.ownBlock=M∨∃g cur t fz,v.ownBlock=O g∧0<=g∧w.heap[g]?=O (tD cur t fz)∧t≠5∧t≠50:=by
 rcases h.row with h|⟨g,cur,t,fz,a,_,b⟩;·exact .inl h
 ·exact .inr ⟨g,cur,t,fz,a,tW _,b⟩
theorem mJ{base:Nat}{w:L}{r:Option Nat}(h:r=M∨∃g cur t fz,r=O g∧base<=g∧w.heap[g]?=O (tD cur t fz)∧t≠5∧t≠50):r=M∨∃g cur t fz,r=O g∧base<=g∧w.heap[g]?=O (tD cur t fz)∧t≠5:=by
 rcases h with h|⟨g,cur,t,fz,a,b,c,d,_⟩;·exact .inl h
 ·exact .inr ⟨g,cur,t,fz,a,b,c,d⟩
theorem ZI.lt{base:Nat}{w:L}{v:N}{l:FL}(h:ZI base w v l):∀k,v.ownBlock=O k->base<=k∧k<w.heap.size:=by
 obtain⟨a,_,h,_⟩:=h;exact sN h
theorem ZI.grownNone{base:Nat}{w w':L}{v:N}{l:FL}(h:ZI base w v l)(hg:Y w w' M):ZI base w' v l:=by
 obtain⟨e,c,d,a⟩:=h;refine⟨e,c,sA d hg ?_,fun i b=>⟨((a i b).1).keptT hg (.inl rfl),((a i b).2).kept hg (.inl rfl)⟩⟩;cases hv:v.ownBlock with|none=>exact .inl rfl|some k=>exact .inr (by simp)
theorem ZI.alloc{base:Nat}{w:L}{v:N}{l:FL}(h:ZI base w v l)(o:Obj):ZI base (w.alloc o) v l:=h.grownNone (sW _ _ _)
theorem ZI.shape{base:Nat}{w:L}{v:N}{l:FL}(h:ZI base w v l):∃a cap,v=S a l.length cap:=by
 obtain⟨d,_,h,_⟩:=h;rcases h.2with⟨rfl,c⟩|⟨g,cap,b,rfl,_⟩;·exact⟨M,0,by rw[c]⟩
 ·exact⟨_,cap,rfl⟩
theorem ZI.cells{base:Nat}{w:L}{g n cap:Nat}{vs:List (N×N)}{l:FL}(hr:w.ownsRow base 112 2 (S (O ⟨g,0,M⟩) n cap) l.length (flat vs)):∀j u,(flat vs)[j]?=O u->w.cell? ⟨g,j,M⟩=O u:=by
 intro j u f;rcases hr.2with⟨e,_⟩|⟨k,c,a,e,m,h,p,o,q,i⟩;·cases e
 ·simp only[tL,tG,rS]at e;obtain⟨⟨rfl,_⟩,_,_⟩:=e;(have b:j<l.length*2:=by have:=(sQ.1 f).1;rw[hr.1]at this;exact this);(have d:(a.toList.take (l.length*2))[j]?=(flat vs)[j]?:=by rw[i]);rw[sJ,if_pos b,f]at d;simp[sB,h];simpa using d
theorem ZI.list{base:Nat}{w:L}{v:N}{l:FL}(h:ZI base w v l):ZD w v l:=by
 obtain⟨b,p,f,c⟩:=h;have a:=f;rcases f.2with⟨rfl,k⟩|⟨g,cap,j,rfl,n,o,m,q,r,s⟩;·have:l=[]:=tN k;subst this;exact zR w
 ·refine⟨_,cap,rfl,m,.inr ⟨g,0,rfl,fun i e=>?_⟩⟩;have d:=yY b i (by omega);refine⟨(b.getD i (sS,sS)).1,(b.getD i (sS,sS)).2,?_,?_,(c i e).1.1,(c i e).2.list⟩;(·have:=ZI.cells a _ _ d.1;rw[sX];exact this);·have:=ZI.cells a _ _ d.2;rw[sX];exact this
theorem RS{base:Nat}{w W w1:L}{v:N}{l:FL}(h:Y w W M)(ho:ZI base W v l)(hb:w.heap.size<=base)(hg:Y W w1 v.ownBlock):Y w w1 M:=⟨hg.os.trans h.os,hg.tape.trans h.tape,hg.output.trans h.output,tV h.size hg.size,fun i a b=>(hg.block i (tK a h.size) (fun e=>by
 have:=(ho.lt i e.symm).1;omega)).trans (h.block i a b)⟩
theorem TN:(tC.info? 112).map (fun i=>(i.zero,i.size,i.bytes))=O (O (sY #[S M 0 0,S M 0 0]),2,48):=by
 kernel_rfl
theorem uP{w:L}{o:rO}{a:Act}{K:Act->L->Prop}{Q:Exit->Act->L->Prop}(s x:rM)(ho:o.op=.call {callee:=.builtin .append,args:=#[s,x],argTypes:=#[26,26]})(base:Nat)(v:N)(l:FL)(hs:a.eval s=v)(hown:ZI base w v l)(vn vp:N)(t:Tn)(hk:Qf 0 w vn t.1)(hv:QK 0 w vp t.2)(nb:Nat)(hb:w.heap[nb]?=O (tD #[vn,vp] 112))(hx:a.eval x=S (O ⟨nb,0,M⟩) 1 1)(hl:(l.length+1)*48<=140737488355328)(hbase:base<=w.heap.size)(h:∀v' w',ZI base w' v' (l++[t])->Y w w' v.ownBlock->K (a.put o.dst v') w'):o.wp tC a w K Q:=by
 obtain⟨z,f,j,k,m⟩:=r8 TN;have b:=hown.row0;obtain⟨q,e,y,n⟩:=hown;refine wp_append_lies w s x 26 ho base 112 z (sY #[S M 0 0,S M 0 0]) 2 48 Tryz.underlying26 f j k m rfl (by decide) v l.length (flat q) hs y ⟨nb,0,M⟩ 1 1 (flat [(vn,vp)]) hx rfl (rG (cs:=#[vn,vp]) hb) ?_ (by omega) (by unfold pN;omega) hl hbase _ rfl ?_;·intro u p;simp only[flat,tU,rJ,tY,tP,tT,or_false]at p;rcases p with rfl|rfl;(·exact Q7 hk);·exact jQ hv
 ·intro g cap w' r d _ _;refine h _ w' ⟨q++[(vn,vp)],by simp[e],?_,?_⟩ d;(·rw[Kj,tH];exact r);·intro i f;rw[Ju,Ju,e];by_cases c:i<l.length;(·rw[if_pos c,if_pos c];exact⟨(n i c).1.keptT d (mJ b),(n i c).2.kept d b⟩);·rw[if_neg c,if_neg c];(obtain rfl:i=l.length:=by simp at f;omega);rw[Nat.sub_self];exact⟨hk.keptT d (mJ b),hv.kept d b⟩
theorem Tw{w:L}{ops:Array rO}{o:rO}{a:Act}{K:Act->L->Prop}{Q:Exit->Act->L->Prop}{E:Prop}(hgd:o.guard=M)(s x:rM)(ho:o.op=.call {callee:=.builtin .append,args:=#[s,x],argTypes:=#[26,26]})(base:Nat)(v:N)(l:FL)(hs:a.eval s=v)(hown:ZI base w v l)(vn vp:N)(t:Tn)(hk:Qf 0 w vn t.1)(hv:QK 0 w vp t.2)(nb:Nat)(hb:w.heap[nb]?=O (tD #[vn,vp] 112))(hx:a.eval x=S (O ⟨nb,0,M⟩) 1 1)(hl:(l.length+1)*48<=140737488355328)(hbase:base<=w.heap.size)(h:∀v' w',ZI base w' v' (l++[t])->Y w w' v.ownBlock->K (a.put o.dst v') w'):if sM o (pG ops a.tmps)=tB then Oper.wp tC o a w K Q else E:=by
 have b:sM o (pG ops a.tmps)=tB:=by simp[sM,hgd]
 rw[if_pos b];exact uP s x ho base v l hs hown vn vp t hk hv nb hb hx hl hbase h
theorem Pa{w:L}{ops:Array rO}{rest:List rO}{o:rO}{a:Act}{Q:Exit->Act->L->Prop}(hgd:o.guard=M)(s x:rM)(ho:o.op=.call {callee:=.builtin .append,args:=#[s,x],argTypes:=#[26,26]})(base:Nat)(v:N)(l:FL)(hs:a.eval s=v)(hown:ZI base w v l)(vn vp:N)(t:Tn)(hk:Qf 0 w vn t.1)(hv:QK 0 w vp t.2)(nb:Nat)(hb:w.heap[nb]?=O (tD #[vn,vp] 112))(hx:a.eval x=S (O ⟨nb,0,M⟩) 1 1)(hl:(l.length+1)*48<=140737488355328)(hbase:base<=w.heap.size)(h:∀v' w',ZI base w' v' (l++[t])->Y w w' v.ownBlock->wpList tC ops Q rest (a.put o.dst v') w'):wpList tC ops Q (o::rest) a w:=wpList_plain hgd fun _ d=>uP s x ho base v l hs hown vn vp t hk hv nb hb hx hl hbase fun v' w' b c=>d _ _ (h v' w' b c)
theorem Qj{w:L}{b i:Nat}{cs:Array N}{t:sE}{fz:Nat×Nat}{u:N}(h:w.heap[b]?=O (tD cs t fz)):(tJ w ⟨b,i,M⟩ u).heap[b]?=O (tD (cs.setIfInBounds i u) t fz):=by
 simp only[tJ,sC,if_true,h,rU];rfl
theorem Qw{w:L}{b c i:Nat}{o:Obj}{u:N}(h:w.heap[b]?=O o)(hne:b≠c):(tJ w ⟨c,i,M⟩ u).heap[b]?=O o:=by
 simp only[tJ,sC];rw[if_neg (fun e=>hne e.symm)];exact h
theorem YW(w:L)(b i:Nat)(u:N):Y w (tJ w ⟨b,i,M⟩ u) (O b):=Qh (Qb w _) i u
theorem Qf.setOther{base:Nat}{w:L}{v:N}{bs:List UInt8}(h:Qf base w v bs){b i:Nat}{cs:Array N}{t:sE}{fz:Nat×Nat}(hb:w.heap[b]?=O (tD cs t fz))(ht:t≠5)(hbb:base<=b)(u:N):Qf base (tJ w ⟨b,i,M⟩ u) v bs:=h.keptT (YW w b i u) (.inr ⟨b,cs,t,fz,rfl,hbb,hb,ht⟩)
def QY(rb pb:Nat)(w:L)(v:N)(l:List Q9):Prop:=∃us:List WV,us.map (·.1)=l∧w.ownsRow rb 146 4 v l.length (Ji us)∧∀x∈us,Qf pb w x.2.1 x.1.name∧Qf pb w x.2.2.1 x.1.key∧Qf pb w x.2.2.2 x.1.value
theorem XI(rb pb:Nat)(w:L):QY rb pb w (S M 0 0) []:=⟨[],rfl,sV _ _ _ _,fun x hx=>by
 simp at hx⟩
theorem QY.row{rb pb:Nat}{w:L}{v:N}{l:List Q9}(h:QY rb pb w v l):v.ownBlock=M∨∃g cur fz,v.ownBlock=O g∧rb<=g∧w.heap[g]?=O (tD cur 146 fz):=by
 obtain⟨c,_,h,_⟩:=h;rcases h.2with⟨rfl,_⟩|⟨g,cap,cur,rfl,a,b,_⟩;·exact .inl rfl
 ·exact .inr ⟨g,cur,_,rfl,a,b⟩
theorem QY.lt{rb pb:Nat}{w:L}{v:N}{l:List Q9}(h:QY rb pb w v l):∀k,v.ownBlock=O k->rb<=k∧k<w.heap.size:=by
 obtain⟨a,_,h,_⟩:=h;exact sN h
theorem QY.ne{rb pb:Nat}{w:L}{v:N}{l:List Q9}(h:QY rb pb w v l){b:Nat}{cs:Array N}{t:sE}{fz:Nat×Nat}(hb:w.heap[b]?=O (tD cs t fz))(ht:t≠146):v.ownBlock≠O b:=by
 intro e;rcases h.row with f|⟨g,c,d,i,_,a⟩;·rw[f]at e;cases e
 ·rw[i]at e;cases e;rw[hb]at a;simp only[tG,sD]at a;exact ht a.2.1
theorem QY.kept{rb pb:Nat}{w w':L}{v:N}{l:List Q9}(h:QY rb pb w v l){row:Option Nat}(hg:Y w w' row)(hne:v.ownBlock=M∨v.ownBlock≠row)(hrow:row=M∨∃g cur t fz,row=O g∧pb<=g∧w.heap[g]?=O (tD cur t fz)∧t≠5):QY rb pb w' v l:=by
 obtain⟨e,c,d,a⟩:=h;exact⟨e,c,sA d hg hne,fun x b=>⟨(a x b).1.keptT hg hrow,(a x b).2.1.keptT hg hrow,(a x b).2.2.keptT hg hrow⟩⟩
theorem QY.grownNone{rb pb:Nat}{w w':L}{v:N}{l:List Q9}(h:QY rb pb w v l)(hg:Y w w' M):QY rb pb w' v l:=h.kept hg (by
 cases hv:v.ownBlock with|none=>exact .inl rfl|some k=>exact .inr (by simp)) (.inl rfl)
theorem QY.setOther{rb pb:Nat}{w:L}{v:N}{l:List Q9}(h:QY rb pb w v l){b i:Nat}{cs:Array N}{t:sE}{fz:Nat×Nat}(hb:w.heap[b]?=O (tD cs t fz))(ht:t≠5)(ht2:t≠146)(hbb:pb<=b)(u:N):QY rb pb (tJ w ⟨b,i,M⟩ u) v l:=h.kept (YW w b i u) (.inr (h.ne hb ht2)) (.inr ⟨b,cs,t,fz,rfl,hbb,hb,ht⟩)
theorem QY.shape{rb pb:Nat}{w:L}{v:N}{l:List Q9}(h:QY rb pb w v l):∃a cap,v=S a l.length cap:=by
 obtain⟨d,_,h,_⟩:=h;rcases h.2with⟨rfl,c⟩|⟨g,cap,b,rfl,_⟩;·exact⟨M,0,by rw[c]⟩
 ·exact⟨_,cap,rfl⟩
theorem QY.any{rb pb:Nat}{w:L}{v:N}{l:List Q9}(h:QY rb pb w v l):∃a n cap,v=S a n cap:=by
 obtain⟨a,cap,e⟩:=h.shape;exact⟨a,_,cap,e⟩
theorem QY.down{rb pb:Nat}{w:L}{v:N}{l:List Q9}(h:QY rb pb w v l)(rb':Nat)(hb:rb'<=rb):QY rb' pb w v l:=by
 obtain⟨i,d,c,f⟩:=h;refine⟨i,d,⟨c.1,?_⟩,f⟩;rcases c.2with h|⟨g,cap,a,e,b,rest⟩;·exact .inl h
 ·exact .inr ⟨g,cap,a,e,tV hb b,rest⟩
theorem QY.writesB{rb pb:Nat}{w:L}{v:N}{l:List Q9}(h:QY rb pb w v l):Xt pb w v l:=by
 obtain⟨d,o,q,z⟩:=h;rcases q.2with⟨rfl,y⟩|⟨g,cap,e,rfl,D,m,B,E,F,C⟩;·have:l=[]:=tN y;rw[this];exact C5 pb w
 ·(have a:∀j u,(Ji d)[j]?=O u->w.cell? ⟨g,j,M⟩=O u:=by intro j u n;(have f:j<l.length*4:=by have:=(sQ.1 n).1;rw[q.1]at this;exact this);(have b:(e.toList.take (l.length*4))[j]?=(Ji d)[j]?:=by rw[C]);rw[sJ,if_pos f,n]at b;simp[sB,m];simpa using b);refine⟨_,cap,rfl,B,.inr ⟨g,0,rfl,.inr ⟨_,_,m⟩,fun i A=>?_⟩⟩;obtain⟨x,b⟩:=Iz o i A;(have p:d.length=l.length:=by rw[<-o];simp);obtain⟨r,s,k,t⟩:=MO d i (by omega);have c:=z _ b;rw[x]at k c;rw[sX];exact⟨_,_,_,a _ _ r,a _ _ s,a _ _ k,a _ _ t,c.1,c.2.1,c.2.2⟩
theorem QY.list{rb pb:Nat}{w:L}{v:N}{l:List Q9}(h:QY rb pb w v l):QO w v l:=h.writesB.list
theorem Gy{rb pb:Nat}{w W w1:L}{v:N}{l:List Q9}(h:Y w W M)(ho:QY rb pb W v l)(hb:w.heap.size<=rb)(hg:Y W w1 v.ownBlock):Y w w1 M:=⟨hg.os.trans h.os,hg.tape.trans h.tape,hg.output.trans h.output,tV h.size hg.size,fun i a b=>(hg.block i (tK a h.size) (fun e=>by
 have:=(ho.lt i e.symm).1;omega)).trans (h.block i a b)⟩
def Eu(w:L)(b o:Nat)(r:Rd):Prop:=∃vn vk vl,w.cell? ⟨b,o,M⟩=O vn∧w.cell? ⟨b,o+1,M⟩=O vk∧w.cell? ⟨b,o+2,M⟩=O (tS r.wide)∧w.cell? ⟨b,o+3,M⟩=O vl∧Qe w vn r.name∧Qe w vk r.key∧Qe w vl r.last
theorem Eu.grown{w w':L}{b o:Nat}{r:Rd}(h:Eu w b o r)(hg:Y w w' M):Eu w' b o r:=by
 obtain⟨l,j,k,a,c,d,e,f,g,i⟩:=h;exact⟨l,j,k,hg.cell a (by simp),hg.cell c (by simp),hg.cell d (by simp),hg.cell e (by simp),f.grown hg,g.grown hg,i.grown hg⟩
def Xf(w:L)(v:N)(l:List Rd):Prop:=∃a cap,v=S a l.length cap∧l.length<=cap∧((l=[]∧(a=M->cap=0))∨∃b o,a=O ⟨b,o,M⟩∧∀i,i<l.length->Eu w b (o+i*4) (l.getD i Zj))
theorem Al(w:L):Xf w (S M 0 0) []:=⟨M,0,rfl,sG _,.inl ⟨rfl,fun _=>rfl⟩⟩
theorem Xf.shape{w:L}{v:N}{l:List Rd}(h:Xf w v l):∃a cap,v=S a l.length cap:=by
 obtain⟨a,cap,rfl,_⟩:=h;exact⟨a,cap,rfl⟩
theorem Xf.grown{w w':L}{v:N}{l:List Rd}(h:Xf w v l)(hg:Y w w' M):Xf w' v l:=by
 obtain⟨a,cap,rfl,c,h⟩:=h;refine⟨a,cap,rfl,c,?_⟩;rcases h with h|⟨b,o,rfl,h⟩;·exact .inl h
 ·exact .inr ⟨b,o,rfl,fun i d=>(h i d).grown hg⟩
theorem Xf.at{w:L}{a:Option rK}{n cap:Nat}{l:List Rd}(h:Xf w (S a n cap) l)(i:Nat)(hi:i<l.length):∃b o,a=O ⟨b,o,M⟩∧Eu w b (o+i*4) (l.getD i Zj):=by
 obtain⟨d,c,e,f,h⟩:=h;simp only[tL]at e;obtain⟨rfl,rfl,rfl⟩:=e;rcases h with⟨rfl,_⟩|⟨b,o,rfl,h⟩;·simp at hi
 ·exact⟨b,o,rfl,h i hi⟩
structure nI (l : List Rd) : Prop where
  many : l.length * 80 <= 140737488355328
  each : ∀ i, i < l.length -> FN (l.getD i Zj)
structure yS (t : Tx) : Prop where
  start : -9223372036854775808 <= t.start ∧ t.start <= 9223372036854775807
  reads : nI t.reads
  writes : vS t.writes
def qR(w:L)(v:N)(t:Tx):Prop:=∃vr vw,v=sY #[tE tF t.start,vr,vw]∧Xf w vr t.reads∧QO w vw t.writes
theorem qR.grown{w w':L}{v:N}{t:Tx}(h:qR w v t)(hg:Y w w' M):qR w' v t:=by
 obtain⟨c,d,rfl,a,b⟩:=h;exact⟨c,d,rfl,a.grown hg,b.grown hg⟩
theorem qR.agg{w:L}{v:N}{t:Tx}(h:qR w v t):∃ra rc wa wc,v=sY #[tE tF t.start,S ra t.reads.length rc,S wa t.writes.length wc]:=by
 obtain⟨c,d,rfl,a,b⟩:=h;obtain⟨ra,rc,rfl⟩:=a.shape;obtain⟨wa,wc,rfl⟩:=b.shape;exact⟨ra,rc,wa,wc,rfl⟩
theorem qR.parts{w:L}{t:Tx}{x y z:N}(h:qR w (sY #[x,y,z]) t):x=tE tF t.start∧Xf w y t.reads∧QO w z t.writes:=by
 obtain⟨c,d,e,a,b⟩:=h;simp only[Value.agg.injEq,Array.mk.injEq,List.cons.injEq,and_true]at e;obtain⟨rfl,rfl,rfl⟩:=e;exact⟨rfl,a,b⟩
theorem Fq{r:Rd}(h:XQ r=0):FN r:=by
 obtain⟨b,c,a⟩:=(Nv r).1 h;refine⟨by omega,by omega,?_⟩;split at a;·omega
 ·rw[a];simp
abbrev RV:=Rd×N×N×N
def A7:RV:=(Zj,sS,sS,sS)
def GU(us:List RV):List N:=us.flatMap fun x=>[x.2.1,x.2.2.1,tS x.1.wide,x.2.2.2]
theorem M4(a b:List RV):GU (a++b)=GU a++GU b:=by
 simp[GU]
theorem Mm:∀(us:List RV)(i:Nat),i<us.length->(GU us)[i*4]?=O (us.getD i A7).2.1∧(GU us)[i*4+1]?=O (us.getD i A7).2.2.1∧(GU us)[i*4+2]?=O (tS (us.getD i A7).1.wide)∧(GU us)[i*4+3]?=O (us.getD i A7).2.2.2|[],i,h=>by simp at h|x::us,0,_=>⟨rfl,rfl,rfl,rfl⟩|x::us,i+1,h=>by have:=Mm us i (by simpa using h);rw[show(i+1)*4=i*4+4by omega];exact this
theorem mO:(162:Nat)≠5:=by
 decide
theorem nA:(162:Nat)≠146:=by
 decide
def ZP(rb pb:Nat)(w:L)(v:N)(l:List Rd):Prop:=∃us:List RV,us.map (·.1)=l∧w.ownsRow rb 162 4 v l.length (GU us)∧∀x∈us,Qf pb w x.2.1 x.1.name∧Qf pb w x.2.2.1 x.1.key∧Qf pb w x.2.2.2 x.1.last
theorem UN(rb pb:Nat)(w:L):ZP rb pb w (S M 0 0) []:=⟨[],rfl,sV _ _ _ _,fun x hx=>by
 simp at hx⟩
theorem ZP.row{rb pb:Nat}{w:L}{v:N}{l:List Rd}(h:ZP rb pb w v l):v.ownBlock=M∨∃g cur fz,v.ownBlock=O g∧rb<=g∧w.heap[g]?=O (tD cur 162 fz):=by
 obtain⟨c,_,h,_⟩:=h;rcases h.2with⟨rfl,_⟩|⟨g,cap,cur,rfl,a,b,_⟩;·exact .inl rfl
 ·exact .inr ⟨g,cur,_,rfl,a,b⟩
theorem ZP.lt{rb pb:Nat}{w:L}{v:N}{l:List Rd}(h:ZP rb pb w v l):∀k,v.ownBlock=O k->rb<=k∧k<w.heap.size:=by
 obtain⟨a,_,h,_⟩:=h;exact sN h
theorem ZP.ne{rb pb:Nat}{w:L}{v:N}{l:List Rd}(h:ZP rb pb w v l){b:Nat}{cs:Array N}{t:sE}{fz:Nat×Nat}(hb:w.heap[b]?=O (tD cs t fz))(ht:t≠162):v.ownBlock≠O b:=by
 intro e;rcases h.row with f|⟨g,c,d,i,_,a⟩;·rw[f]at e;cases e
 ·rw[i]at e;cases e;rw[hb]at a;simp only[tG,sD]at a;exact ht a.2.1
theorem ZP.kept{rb pb:Nat}{w w':L}{v:N}{l:List Rd}(h:ZP rb pb w v l){row:Option Nat}(hg:Y w w' row)(hne:v.ownBlock=M∨v.ownBlock≠row)(hrow:row=M∨∃g cur t fz,row=O g∧pb<=g∧w.heap[g]?=O (tD cur t fz)∧t≠5):ZP rb pb w' v l:=by
 obtain⟨e,c,d,a⟩:=h;exact⟨e,c,sA d hg hne,fun x b=>⟨(a x b).1.keptT hg hrow,(a x b).2.1.keptT hg hrow,(a x b).2.2.keptT hg hrow⟩⟩
theorem ZP.grownNone{rb pb:Nat}{w w':L}{v:N}{l:List Rd}(h:ZP rb pb w v l)(hg:Y w w' M):ZP rb pb w' v l:=h.kept hg (by
 cases hv:v.ownBlock with|none=>exact .inl rfl|some k=>exact .inr (by simp)) (.inl rfl)
theorem ZP.setOther{rb pb:Nat}{w:L}{v:N}{l:List Rd}(h:ZP rb pb w v l){b i:Nat}{cs:Array N}{t:sE}{fz:Nat×Nat}(hb:w.heap[b]?=O (tD cs t fz))(ht:t≠5)(ht2:t≠162)(hbb:pb<=b)(u:N):ZP rb pb (tJ w ⟨b,i,M⟩ u) v l:=h.kept (YW w b i u) (.inr (h.ne hb ht2)) (.inr ⟨b,cs,t,fz,rfl,hbb,hb,ht⟩)
theorem ZP.down{rb pb:Nat}{w:L}{v:N}{l:List Rd}(h:ZP rb pb w v l)(rb':Nat)(hb:rb'<=rb):ZP rb' pb w v l:=by
 obtain⟨i,d,c,f⟩:=h;refine⟨i,d,⟨c.1,?_⟩,f⟩;rcases c.2with h|⟨g,cap,a,e,b,rest⟩;·exact .inl h
 ·exact .inr ⟨g,cap,a,e,tV hb b,rest⟩
theorem ZP.shape{rb pb:Nat}{w:L}{v:N}{l:List Rd}(h:ZP rb pb w v l):∃a cap,v=S a l.length cap:=by
 obtain⟨d,_,h,_⟩:=h;rcases h.2with⟨rfl,c⟩|⟨g,cap,b,rfl,_⟩;·exact⟨M,0,by rw[c]⟩
 ·exact⟨_,cap,rfl⟩
theorem Ov{us:List RV}{l:List Rd}(h:us.map (·.1)=l)(i:Nat)(hi:i<l.length):(us.getD i A7).1=l.getD i Zj∧us.getD i A7∈us:=by
 subst h;have a:i<us.length:=by simpa using hi
 refine⟨by simp[a],?_⟩;rw[show us.getD i A7=us[i]by simp[a]];exact sP a
theorem ZP.list{rb pb:Nat}{w:L}{v:N}{l:List Rd}(h:ZP rb pb w v l):Xf w v l:=by
 obtain⟨d,n,p,y⟩:=h;rcases p.2with⟨rfl,x⟩|⟨g,cap,e,rfl,D,z,B,E,F,C⟩;·have:l=[]:=tN x;rw[this];exact Al w
 ·(have a:∀j u,(GU d)[j]?=O u->w.cell? ⟨g,j,M⟩=O u:=by intro j u m;(have f:j<l.length*4:=by have:=(sQ.1 m).1;rw[p.1]at this;exact this);(have b:(e.toList.take (l.length*4))[j]?=(GU d)[j]?:=by rw[C]);rw[sJ,if_pos f,m]at b;simp[sB,z];simpa using b);refine⟨_,cap,rfl,B,.inr ⟨g,0,rfl,fun i A=>?_⟩⟩;obtain⟨t,b⟩:=Ov n i A;(have o:d.length=l.length:=by rw[<-n];simp);obtain⟨q,r,k,s⟩:=Mm d i (by omega);have c:=y _ b;rw[t]at k c;rw[sX];exact⟨_,_,_,a _ _ q,a _ _ r,a _ _ k,a _ _ s,c.1.1,c.2.1.1,c.2.2.1⟩
theorem Rt{rb pb:Nat}{w W w1:L}{v:N}{l:List Rd}(h:Y w W M)(ho:ZP rb pb W v l)(hb:w.heap.size<=rb)(hg:Y W w1 v.ownBlock):Y w w1 M:=⟨hg.os.trans h.os,hg.tape.trans h.tape,hg.output.trans h.output,tV h.size hg.size,fun i a b=>(hg.block i (tK a h.size) (fun e=>by
 have:=(ho.lt i e.symm).1;omega)).trans (h.block i a b)⟩
theorem mM:(tC.info? 162).map (fun i=>(i.zero,i.size,i.bytes))=O (O (sY #[S M 0 0,S M 0 0,tS tA,S M 0 0]),4,80):=by
 kernel_rfl
def qM(w:L)(v:N)(t:Tx):Prop:=∃vr vw,v=sY #[tE tF t.start,vr,vw]∧ZP 0 0 w vr t.reads∧QY 0 0 w vw t.writes
theorem qM.is{w:L}{v:N}{t:Tx}(h:qM w v t):qR w v t:=by
 obtain⟨c,d,rfl,a,b⟩:=h;exact⟨c,d,rfl,a.list,b.list⟩
theorem yQ(w:L):qM w (sY #[tE tF 0,S M 0 0,S M 0 0]) Tp:=⟨_,_,rfl,UN 0 0 w,XI 0 0 w⟩
def DM(w:L)(b o:Nat)(s:vL):Prop:=∃vo,w.cell? ⟨b,o,M⟩=O (tE tF s.bit)∧w.cell? ⟨b,o+1,M⟩=O (tS s.right)∧w.cell? ⟨b,o+2,M⟩=O vo∧Qe w vo s.other
theorem DM.grown{w w':L}{b o:Nat}{s:vL}(h:DM w b o s)(hg:Y w w' M):DM w' b o s:=by
 obtain⟨f,a,c,d,e⟩:=h;exact⟨f,hg.cell a (by simp),hg.cell c (by simp),hg.cell d (by simp),e.grown hg⟩
def GP(w:L)(v:N)(l:List vL):Prop:=∃a cap,v=S a l.length cap∧l.length<=cap∧((l=[]∧(a=M->cap=0))∨∃b o,a=O ⟨b,o,M⟩∧∀i,i<l.length->DM w b (o+i*3) (l.getD i Ht))
theorem Af(w:L):GP w (S M 0 0) []:=⟨M,0,rfl,sG _,.inl ⟨rfl,fun _=>rfl⟩⟩
theorem GP.grown{w w':L}{v:N}{l:List vL}(h:GP w v l)(hg:Y w w' M):GP w' v l:=by
 obtain⟨a,cap,rfl,c,h⟩:=h;refine⟨a,cap,rfl,c,?_⟩;rcases h with h|⟨b,o,rfl,h⟩;·exact .inl h
 ·exact .inr ⟨b,o,rfl,fun i d=>(h i d).grown hg⟩
theorem GP.shape{w:L}{v:N}{l:List vL}(h:GP w v l):∃a cap,v=S a l.length cap:=by
 obtain⟨a,cap,rfl,_⟩:=h;exact⟨a,cap,rfl⟩
def K7(w:L)(v:N)(p:C8):Prop:=∃vs vk vv,v=sY #[tS p.empty,vs,vk,vv]∧GP w vs p.steps∧Qe w vk p.pair.1∧Qe w vv p.pair.2
theorem K7.grown{w w':L}{v:N}{p:C8}(h:K7 w v p)(hg:Y w w' M):K7 w' v p:=by
 obtain⟨e,d,f,rfl,a,b,c⟩:=h;exact⟨e,d,f,rfl,a.grown hg,b.grown hg,c.grown hg⟩
theorem U5{w:L}{b:Nat}{x y:N}{t:sE}(h:w.heap[b]?=O (tD #[x,y] t)):w.cell? ⟨b,0,M⟩=O x∧w.cell? ⟨b,1,M⟩=O y∧w.frozen? ⟨b,0,M⟩=tA∧w.frozen? ⟨b,1,M⟩=tA:=by
 refine⟨?_,?_,?_,?_⟩<;>simp[sB,pA,h]
theorem fL{w:L}{b:Nat}{x y:N}{t:sE}(h:w.heap[b]?=O (tD #[x,y] t))(u v:N):((tJ w ⟨b,0,M⟩ u).setCell ⟨b,1,M⟩ v).heap[b]?=O (tD #[u,v] t):=by
 have a:(tJ w ⟨b,0,M⟩ u).heap[b]?=O (tD #[u,y] t):=by simp only[tJ,sC,if_true,h,rU];first|rfl|simp
 rw[tJ,sC,if_pos rfl,a];first|rfl|simp
theorem GM{w:L}{b:Nat}{x y z:N}{t:sE}(h:w.heap[b]?=O (tD #[x,y,z] t)):(w.cell? ⟨b,0,M⟩=O x∧w.cell? ⟨b,1,M⟩=O y∧w.cell? ⟨b,2,M⟩=O z)∧w.frozen? ⟨b,0,M⟩=tA∧w.frozen? ⟨b,1,M⟩=tA∧w.frozen? ⟨b,2,M⟩=tA:=by
 refine⟨⟨?_,?_,?_⟩,?_,?_,?_⟩<;>simp[sB,pA,h]
theorem N7{w:L}{b:Nat}{x y z:N}{t:sE}(h:w.heap[b]?=O (tD #[x,y,z] t))(x' y' z':N):(((tJ w ⟨b,0,M⟩ x').setCell ⟨b,1,M⟩ y').setCell ⟨b,2,M⟩ z').heap[b]?=O (tD #[x',y',z'] t):=by
 have a:(tJ w ⟨b,0,M⟩ x').heap[b]?=O (tD #[x',y,z] t):=by simp only[tJ,sC,if_true,h,rU];first|rfl|simp
 have c:((tJ w ⟨b,0,M⟩ x').setCell ⟨b,1,M⟩ y').heap[b]?=O (tD #[x',y',z] t):=by rw[tJ,sC,if_pos rfl,a];first|rfl|simp
 rw[tJ,sC,if_pos rfl,c];first|rfl|simp
theorem F4{w w1:L}(h:Y w w1 M)(b:Nat)(hb:w.heap.size<=b)(x y z:N):Y w (((tJ w1 ⟨b,0,M⟩ x).setCell ⟨b,1,M⟩ y).setCell ⟨b,2,M⟩ z) M:=Qc (Qc (Qc h _ hb _ _) _ hb _ _) _ hb _ _
def mD(w:L)(b:Nat):Prop:=∃cur t fz,w.heap[b]?=O (tD cur t fz)∧(t=5∨∃q,cur[0]?=O (tE pF q))
def kW(w:L)(b:Nat):Prop:=∃cur t fz,w.heap[b]?=O (tD cur t fz)∧t≠5∧∀q,cur[0]?≠O (tE pF q)
theorem mD.ne{w:L}{a b:Nat}(h:mD w a)(h':kW w b):a≠b:=by
 rintro rfl;obtain⟨f,t,l,i,c⟩:=h;obtain⟨e,m,g,d,j,k⟩:=h';rw[i]at d;simp only[tG,sD]at d;obtain⟨rfl,rfl,_⟩:=d;rcases c with c|⟨q,c⟩;·exact j c
 ·exact k q c
theorem kW.grown{w w':L}{b:Nat}(h:kW w b)(hg:Y w w' M):kW w' b:=by
 obtain⟨a,t,d,c,e⟩:=h;exact⟨a,t,d,by rw[hg.block b (tM.1 c).1 (by simp)];exact c,e⟩
theorem kW.set{w:L}{c:Nat}(h:kW w c)(i:Nat)(u:N)(hu:∀q,u≠tE pF q):kW (tJ w ⟨c,i,M⟩ u) c:=by
 obtain⟨b,t,d,e,f,g⟩:=h;refine⟨b.setIfInBounds i u,t,d,?_,f,fun q a=>?_⟩;·simp only[tJ,sC,if_true,e,rU];first|rfl|simp
 ·rw[Array.getElem?_setIfInBounds]at a;split at a;(·split at a;(·simp at a;exact hu q a);·cases a);·exact g q a
theorem DR{w:L}{c:Nat}{x:N}{xs:List N}{t:sE}{fz:Nat×Nat}(h:w.heap[c]?=O (tD ⟨x::xs⟩ t fz))(ht:t≠5)(hx:∀q,x≠tE pF q):kW w c:=⟨_,t,fz,h,ht,fun q a=>by
 simp at a;exact hx q a⟩
def Yc(w:L)(v:N)(bs:List UInt8):Prop:=Qe w v bs∧(bs=[]∨∃b,v.ownBlock=O b∧b<w.heap.size∧mD w b)
theorem mT:(200:Nat)≠5:=by
 decide
theorem U2(w:L):Yc w (S M 0 0) []:=⟨QE _,.inl rfl⟩
theorem Za.partS{base':Nat}{w:L}{v:N}{bs:List UInt8}(h:Za base' w v bs):Yc w v bs:=by
 refine⟨h.slice,?_⟩;rcases h.2with⟨rfl,c⟩|⟨g,cap,a,rfl,d,b,_⟩;·exact .inl (tN c)
 ·exact .inr ⟨g,rfl,(tM.1 b).1,a,_,_,b,.inl rfl⟩
theorem ZN.partS{w:L}{nb:Nat}{bs:List UInt8}(h:ZN w nb bs)(hl:bs.length=32):Yc w (S (O ⟨nb,0,M⟩) 32 32) bs:=by
 refine⟨h.slice32 hl,.inr ⟨nb,rfl,Ga (h.cell 0 (by omega)),?_⟩⟩;have b:=h.cell 0 (by omega);obtain⟨t,a⟩:=h;refine⟨_,t,_,a,.inr ⟨((bs.getD 0 0).toNat:Int),?_⟩⟩;·simpa[sB,a]using b
theorem Nq{w:L}{v:N}{bs:List UInt8}(h:Yc w v bs):v.oneCell'=tB:=by
 obtain⟨⟨a,cap,rfl,_⟩,_⟩:=h;rfl
def nC(w:L)(row:Option Nat):Prop:=row=M∨∃g,row=O g∧kW w g
theorem Yc.kept{w w':L}{v:N}{bs:List UInt8}(h:Yc w v bs){row:Option Nat}(hg:Y w w' row)(hrow:nC w row):Yc w' v bs:=by
 obtain⟨r,x⟩:=h;rcases x with rfl|⟨b,l,f,c⟩;·obtain⟨a,cap,rfl,c,h⟩:=r;refine⟨⟨a,cap,rfl,c,?_⟩,.inl rfl⟩;rcases h with h|⟨b,o,rfl,h⟩;(·exact .inl h);·exact .inr ⟨b,o,rfl,fun i q=>by simp at q⟩
 ·(have j:O b≠row:=by intro e;rcases hrow with rfl|⟨g,rfl,p⟩;(·cases e);·cases e;exact c.ne p rfl);have d:=hg.block b f j;refine⟨?_,.inr ⟨b,l,tK f hg.size,?_⟩⟩;(·obtain⟨a,cap,rfl,n,h⟩:=r;refine⟨a,cap,rfl,n,?_⟩;rcases h with h|⟨s,o,rfl,h⟩;(·exact .inl h);·refine .inr ⟨s,o,rfl,fun i q=>?_⟩;simp[pQ]at l;subst l;exact hg.cell (h i q) (by simpa using j));·obtain⟨k,t,u,c,m⟩:=c;exact⟨k,t,u,by rw[d];exact c,m⟩
theorem Yc.grown{w w':L}{v:N}{bs:List UInt8}(h:Yc w v bs)(hg:Y w w' M):Yc w' v bs:=h.kept hg (.inl rfl)
theorem Yc.set{w:L}{v:N}{bs:List UInt8}(h:Yc w v bs){c:Nat}(hc:kW w c)(i:Nat)(u:N):Yc (tJ w ⟨c,i,M⟩ u) v bs:=h.kept (Qh (Qb _ (O c)) i u) (.inr ⟨c,rfl,hc⟩)
abbrev SV:=vL×N
def Iu:SV:=(Ht,sS)
def UJ(us:List SV):List N:=us.flatMap fun x=>[tE tF x.1.bit,tS x.1.right,x.2]
theorem DX(a b:List SV):UJ (a++b)=UJ a++UJ b:=by
 simp[UJ]
theorem MW:∀(us:List SV)(i:Nat),i<us.length->(UJ us)[i*3]?=O (tE tF (us.getD i Iu).1.bit)∧(UJ us)[i*3+1]?=O (tS (us.getD i Iu).1.right)∧(UJ us)[i*3+2]?=O (us.getD i Iu).2|[],i,h=>by simp at h|x::r,0,_=>by simp[UJ]|x::r,i+1,h=>by have:=MW r i (by simpa using h);rw[show(i+1)*3=i*3+3by omega,show i*3+3+1=(i*3+1)+3by omega,show i*3+3+2=(i*3+2)+3by omega];simpa[UJ]using this
theorem IG(us:List SV):∀u∈UJ us,(∀x∈us,x.2.oneCell'=tB)->u.oneCell'=tB:=by
 intro u a h;obtain⟨x,b,a⟩:=List.mem_flatMap.1 a;simp only[tP,tT,or_false]at a;rcases a with rfl|rfl|rfl;·rfl
 ·rfl
 ·exact h x b
def J9(base:Nat)(w:L)(v:N)(l:List vL):Prop:=∃us:List SV,us.map (·.1)=l∧w.ownsRow base 200 3 v l.length (UJ us)∧(∀x∈us,Yc w x.2 x.1.other)∧(l=[]->v=S M 0 0)
theorem Pe(base:Nat)(w:L):J9 base w (S M 0 0) []:=⟨[],rfl,sV _ _ _ _,fun x hx=>by
 simp at hx,fun _=>rfl⟩
theorem J9.row{base:Nat}{w:L}{v:N}{l:List vL}(h:J9 base w v l):nC w v.ownBlock:=by
 obtain⟨b,c,h,_,d⟩:=h;cases l with|nil=>rw[d rfl];exact .inl rfl|cons x r=>rcases h.2with⟨rfl,_⟩|⟨g,cap,a,rfl,j,f,k,_,_,i⟩;(·exact .inl rfl);·refine .inr ⟨g,rfl,a,_,_,f,mT,fun q=>?_⟩;cases b with|nil=>simp at c|cons u b=>simp only[pJ,List.cons.injEq]at c;(have e:(a.toList.take ((x::r).length*3))[0]?=(UJ (u::b))[0]?:=by rw[i]);rw[sJ,if_pos (by simp)]at e;rw[<-pE,e];simp[UJ]
theorem J9.lt{base:Nat}{w:L}{v:N}{l:List vL}(h:J9 base w v l):∀k,v.ownBlock=O k->base<=k∧k<w.heap.size:=by
 obtain⟨a,_,h,_⟩:=h;exact sN h
theorem J9.grownNone{base:Nat}{w w':L}{v:N}{l:List vL}(h:J9 base w v l)(hg:Y w w' M):J9 base w' v l:=by
 obtain⟨f,a,b,c,d⟩:=h;refine⟨f,a,sA b hg ?_,fun x e=>(c x e).grown hg,d⟩;cases hv:v.ownBlock with|none=>exact .inl rfl|some k=>exact .inr (by simp)
theorem J9.alloc{base:Nat}{w:L}{v:N}{l:List vL}(h:J9 base w v l)(o:Obj):J9 base (w.alloc o) v l:=h.grownNone (sW _ _ _)
theorem J9.shape{base:Nat}{w:L}{v:N}{l:List vL}(h:J9 base w v l):∃a cap,v=S a l.length cap:=by
 obtain⟨d,_,h,_⟩:=h;rcases h.2with⟨rfl,c⟩|⟨g,cap,b,rfl,_⟩;·exact⟨M,0,by rw[c]⟩
 ·exact⟨_,cap,rfl⟩
theorem J9.cells{base:Nat}{w:L}{g n cap:Nat}{us:List SV}{k:Nat}(hr:w.ownsRow base 200 3 (S (O ⟨g,0,M⟩) n cap) k (UJ us)):∀j u,(UJ us)[j]?=O u->w.cell? ⟨g,j,M⟩=O u:=by
 intro j u f;rcases hr.2with⟨e,_⟩|⟨l,c,a,e,m,h,p,o,q,i⟩;·cases e
 ·simp only[tL,tG,rS]at e;obtain⟨⟨rfl,_⟩,_,_⟩:=e;(have b:j<k*3:=by have:=(sQ.1 f).1;rw[hr.1]at this;exact this);(have d:(a.toList.take (k*3))[j]?=(UJ us)[j]?:=by rw[i]);rw[sJ,if_pos b,f]at d;simp[sB,h];simpa using d
theorem dD{us:List SV}{l:List vL}(h:us.map (·.1)=l)(i:Nat)(hi:i<l.length):(us.getD i Iu).1=l.getD i Ht∧us.getD i Iu∈us:=by
 subst h;have a:i<us.length:=by simpa using hi
 constructor;·simp[a]
 ·rw[show us.getD i Iu=us[i]by simp[a]];exact sP _
theorem J9.list{base:Nat}{w:L}{v:N}{l:List vL}(h:J9 base w v l):GP w v l:=by
 obtain⟨f,d,a,p,_⟩:=h;have s:f.length=l.length:=by rw[<-d];simp
 rcases a.2with⟨rfl,o⟩|⟨g,cap,k,rfl,t,u,r,x,y,z⟩;·have:l=[]:=tN o;subst this;exact Af w
 ·refine⟨_,cap,rfl,r,.inr ⟨g,0,rfl,fun i q=>?_⟩⟩;obtain⟨m,n⟩:=dD d i q;obtain⟨b,c,j⟩:=MW f i (by omega);have e:=p _ n;rw[m]at b c e;rw[sX];exact⟨_,J9.cells a _ _ b,J9.cells a _ _ c,J9.cells a _ _ j,e.1⟩
theorem J9.set{base:Nat}{w:L}{v:N}{l:List vL}(h:J9 base w v l){c:Nat}(hc:kW w c)(hne:c<base)(i:Nat)(u:N):J9 base (tJ w ⟨c,i,M⟩ u) v l:=by
 have a:=h.lt;obtain⟨j,b,d,e,f⟩:=h;refine⟨j,b,sA d (Qh (Qb _ (O c)) i u) ?_,fun x g=>(e x g).set hc i u,f⟩;cases hv:v.ownBlock with|none=>exact .inl rfl|some k=>exact .inr (by have:=(a k hv).1;simp;omega)
theorem lV:(52:Nat)≠5:=by
 decide
theorem nH:(50:Nat)≠5:=by
 decide
theorem V2{W:L}{pb:Nat}{x y:N}(h:W.heap[pb]?=O (tD #[x,y] 50))(hx:∀q,x≠tE pF q)(ua va:Option rK)(un uc vn vc:Nat){z:N}{bs:List UInt8}(hz:Yc W z bs):Yc ((tJ W ⟨pb,0,M⟩ (S ua un uc)).setCell ⟨pb,1,M⟩ (S va vn vc)) z bs:=have a:kW W pb:=DR (xs:=[y]) h nH hx;have b:=a.set 0 (S ua un uc) (fun q=>by
 simp);(hz.set a 0 _).set b 1 _
theorem Yc.quad{w:L}{v:N}{bs:List UInt8}(h:Yc w v bs){c:Nat}(hc:kW w c){e:Bool}{sa:Option rK}{sn sc:Nat}{ka va:Option rK}{kn kc vn vc:Nat}:Yc ((((tJ w ⟨c,0,M⟩ (tS e)).setCell ⟨c,1,M⟩ (S sa sn sc)).setCell ⟨c,2,M⟩ (S ka kn kc)).setCell ⟨c,3,M⟩ (S va vn vc)) v bs:=have a:=hc.set 0 (tS e) (fun q=>by
 simp);have b:=a.set 1 (S sa sn sc) (fun q=>by
 simp);have d:=b.set 2 (S ka kn kc) (fun q=>by
 simp);(((h.set hc 0 _).set a 1 _).set b 2 _).set d 3 _
theorem J9.quad{base:Nat}{w:L}{v:N}{l:List vL}(h:J9 base w v l){c:Nat}(hc:kW w c)(hne:c<base){e:Bool}{sa:Option rK}{sn sc:Nat}{ka va:Option rK}{kn kc vn vc:Nat}:J9 base ((((tJ w ⟨c,0,M⟩ (tS e)).setCell ⟨c,1,M⟩ (S sa sn sc)).setCell ⟨c,2,M⟩ (S ka kn kc)).setCell ⟨c,3,M⟩ (S va vn vc)) v l:=have a:=hc.set 0 (tS e) (fun q=>by
 simp);have b:=a.set 1 (S sa sn sc) (fun q=>by
 simp);have d:=b.set 2 (S ka kn kc) (fun q=>by
 simp);(((h.set hc hne 0 _).set a hne 1 _).set b hne 2 _).set d hne 3 _
def ZH(n:Nat)(w:L)(v:N)(p:C8):Prop:=∃base vs vk vv,v=sY #[tS p.empty,vs,vk,vv]∧n<=base∧base<=w.heap.size∧J9 base w vs p.steps∧Yc w vk p.pair.1∧Yc w vv p.pair.2
theorem ZH.is{n:Nat}{w:L}{v:N}{p:C8}(h:ZH n w v p):K7 w v p:=by
 obtain⟨a,f,e,g,rfl,_,_,b,c,d⟩:=h;exact⟨f,e,g,rfl,b.list,c.1,d.1⟩
theorem Lt{base:Nat}{w W w1:L}{v:N}{l:List vL}(h:Y w W M)(ho:J9 base W v l)(hb:w.heap.size<=base)(hg:Y W w1 v.ownBlock):Y w w1 M:=⟨hg.os.trans h.os,hg.tape.trans h.tape,hg.output.trans h.output,tV h.size hg.size,fun i a b=>(hg.block i (tK a h.size) (fun e=>by
 have:=(ho.lt i e.symm).1;omega)).trans (h.block i a b)⟩
theorem bQ:(tC.info? 200).map (fun i=>(i.zero,i.size,i.bytes))=O (O (sY #[tE tF 0,tS tA,S M 0 0]),3,40):=by
 kernel_rfl
theorem Et{w:L}{o:rO}{a:Act}{K:Act->L->Prop}{Q:Exit->Act->L->Prop}(s x:rM)(ho:o.op=.call {callee:=.builtin .append,args:=#[s,x],argTypes:=#[48,48]})(base:Nat)(v:N)(l:List vL)(hs:a.eval s=v)(hown:J9 base w v l)(vo:N)(p:vL)(hk:Yc w vo p.other)(nb:Nat)(hb:∀j u,[tE tF p.bit,tS p.right,vo][j]?=O u->w.cell? ⟨nb,j,M⟩=O u)(hx:a.eval x=S (O ⟨nb,0,M⟩) 1 1)(hl:(l.length+1)*40<=140737488355328)(hbase:base<=w.heap.size)(h:∀v' w',J9 base w' v' (l++[p])->Y w w' v.ownBlock->K (a.put o.dst v') w'):o.wp tC a w K Q:=by
 obtain⟨B,q,g,i,k⟩:=r8 bQ;have c:=hown.row;obtain⟨m,f,z,t,_⟩:=hown;refine wp_append_own w s x 48 ho base 200 B (sY #[tE tF 0,tS tA,S M 0 0]) 3 40 Tryz.underlying48 q g i k rfl (by decide) v l.length (UJ m) hs z ⟨nb,0,M⟩ 1 1 (UJ [(p,vo)]) hx rfl ?_ ?_ (by unfold pN;omega) hl hbase ?_;·intro j u r;rw[ZS,sX];exact hb j u (by simpa[UJ]using r)
 ·intro u A;exact IG _ u A fun y b=>by simp at b;subst b;exact Nq hk
 ·intro v' w' n d _;refine h _ w' ⟨m++[(p,vo)],by simp[f],?_,?_,fun e=>by simp at e⟩ d;(·rw[DX,tH];exact n);·intro y b;rcases sF.1 b with b|b;(·exact(t y b).kept d c);·simp at b;subst b;exact hk.kept d c
theorem vE{w:L}{ops:Array rO}{rest:List rO}{o:rO}{a:Act}{Q:Exit->Act->L->Prop}(hgd:o.guard=M)(s x:rM)(ho:o.op=.call {callee:=.builtin .append,args:=#[s,x],argTypes:=#[48,48]})(base:Nat)(v:N)(l:List vL)(hs:a.eval s=v)(hown:J9 base w v l)(vo:N)(p:vL)(hk:Yc w vo p.other)(nb:Nat)(hb:∀j u,[tE tF p.bit,tS p.right,vo][j]?=O u->w.cell? ⟨nb,j,M⟩=O u)(hx:a.eval x=S (O ⟨nb,0,M⟩) 1 1)(hl:(l.length+1)*40<=140737488355328)(hbase:base<=w.heap.size)(h:∀v' w',J9 base w' v' (l++[p])->Y w w' v.ownBlock->wpList tC ops Q rest (a.put o.dst v') w'):wpList tC ops Q (o::rest) a w:=wpList_plain hgd fun _ d=>Et s x ho base v l hs hown vo p hk nb hb hx hl hbase fun v' w' b c=>d _ _ (h v' w' b c)
theorem IH{w:L}{nb:Nat}{p:vL}{vo:N}{t:sE}(h:w.heap[nb]?=O (tD #[tE tF p.bit,tS p.right,vo] t)):∀j u,[tE tF p.bit,tS p.right,vo][j]?=O u->w.cell? ⟨nb,j,M⟩=O u:=by
 intro j u a;simp[sB,h];simpa using a
def lH:N->Nat|S _ n _=>n|_=>0
def Fd(t:sE):Prop:=t=90∨t=54∨t=156∨t=26∨t=3
def Hu(B:Nat)(w:L)(i:Nat):Prop:=i<B∨∀cs t fz,w.heap[i]?=O (tD cs t fz)->(¬Fd t∨∃q,cs[0]?=O (tE pF q))
structure Kp (B : Nat) (w w' : L) : Prop where
  os : w'.os = w.os
  tape : w'.tape = w.tape
  output : w'.output = w.output
  size : w.heap.size <= w'.heap.size
  keep : ∀ i, i < w.heap.size -> Hu B w i -> w'.heap[i]? = w.heap[i]?
theorem Kp.refl(B:Nat)(w:L):Kp B w w:=⟨rfl,rfl,rfl,sG _,fun _ _ _=>rfl⟩
theorem Hu.same{B:Nat}{w w':L}{i:Nat}(h:Hu B w i)(e:w'.heap[i]?=w.heap[i]?):Hu B w' i:=by
 rcases h with h|h;·exact .inl h
 ·exact .inr fun a t b c=>h a t b (by rw[<-e];exact c)
theorem Kp.trans{B:Nat}{w w1 w2:L}(h:Kp B w w1)(k:Kp B w1 w2):Kp B w w2:=⟨k.os.trans h.os,k.tape.trans h.tape,k.output.trans h.output,tV h.size k.size,fun i a b=>by
 have e:=h.keep i a b;exact(k.keep i (tK a h.size) (b.same e)).trans e⟩
theorem Kp.grown{B:Nat}{w w':L}(h:Y w w' M):Kp B w w':=⟨h.os,h.tape,h.output,h.size,fun i hi _=>h.block i hi (by
 simp)⟩
theorem Kp.turn{B:Nat}{w w':L}{g:Nat}{cs:Array N}{t:sE}{fz:Nat×Nat}(h:Y w w' (O g))(hB:B<=g)(hb:w.heap[g]?=O (tD cs t fz))(ht:Fd t)(h0:∀q,cs[0]?≠O (tE pF q)):Kp B w w':=⟨h.os,h.tape,h.output,h.size,fun i c a=>by
 refine h.block i c fun e=>?_;cases e;rcases a with a|a;·omega
 ·rcases a cs t fz hb with b|⟨q,b⟩;(·exact b ht);·exact h0 q b⟩
theorem Kp.low{B:Nat}{w w':L}(h:Kp B w w')(w0:L)(hg:Y w0 w M)(hB:w0.heap.size<=B):Y w0 w' M:=⟨h.os.trans hg.os,h.tape.trans hg.tape,h.output.trans hg.output,tV hg.size h.size,fun i a b=>(h.keep i (tK a hg.size) (.inl (by
 omega))).trans (hg.block i a b)⟩
def VU(t:sE):Prop:=t=5∨t=50∨t=112∨t=146∨t=162∨t=200
def Gq(t:sE):Prop:=¬VU t
theorem Fd.two{t:sE}(h:Fd t):Gq t:=by
 rcases h with rfl|rfl|rfl|rfl|rfl<;>simp[Gq,VU]
def DD(B:Nat)(w:L)(i:Nat):Prop:=i<B∨∀cs t fz,w.heap[i]?=O (tD cs t fz)->(¬Gq t∨∃q,cs[0]?=O (tE pF q))
structure Ny (B : Nat) (w w' : L) : Prop where
  os : w'.os = w.os
  tape : w'.tape = w.tape
  output : w'.output = w.output
  size : w.heap.size <= w'.heap.size
  keep : ∀ i, i < w.heap.size -> DD B w i -> w'.heap[i]? = w.heap[i]?
theorem Kp.two{B C:Nat}{w w':L}(h:Kp B w w')(hC:C<=B):Ny C w w':=⟨h.os,h.tape,h.output,h.size,fun i g a=>h.keep i g (by
 rcases a with a|a;·exact .inl (tK a hC)
 ·exact .inr fun b t c f=>(a b t c f).imp (fun d e=>d e.two) id)⟩
theorem Ny.refl(B:Nat)(w:L):Ny B w w:=⟨rfl,rfl,rfl,sG _,fun _ _ _=>rfl⟩
theorem DD.same{B:Nat}{w w':L}{i:Nat}(h:DD B w i)(e:w'.heap[i]?=w.heap[i]?):DD B w' i:=by
 rcases h with h|h;·exact .inl h
 ·exact .inr fun a t b c=>h a t b (by rw[<-e];exact c)
theorem Ny.trans{B:Nat}{w w1 w2:L}(h:Ny B w w1)(k:Ny B w1 w2):Ny B w w2:=⟨k.os.trans h.os,k.tape.trans h.tape,k.output.trans h.output,tV h.size k.size,fun i a b=>by
 have e:=h.keep i a b;exact(k.keep i (tK a h.size) (b.same e)).trans e⟩
theorem Ny.grown{B:Nat}{w w':L}(h:Y w w' M):Ny B w w':=⟨h.os,h.tape,h.output,h.size,fun i hi _=>h.block i hi (by
 simp)⟩
def Wo(w:L)(i:Nat):Prop:=∀cs t fz,w.heap[i]?=O (tD cs t fz)->(VU t∨t=54∨∃q,cs[0]?=O (tE pF q))
structure KL (w w' : L) : Prop where
  os : w'.os = w.os
  tape : w'.tape = w.tape
  output : w'.output = w.output
  size : w.heap.size <= w'.heap.size
  keep : ∀ i, i < w.heap.size -> Wo w i -> w'.heap[i]? = w.heap[i]?
theorem KL.two{w w':L}(h:KL w w'):Ny 0 w w':=⟨h.os,h.tape,h.output,h.size,fun i f a=>h.keep i f fun c t d e=>by
 rcases a with a|a;·omega
 ·rcases a c t d e with b|b;(·exact .inl (rA b));·exact .inr (.inr b)⟩
theorem KL.refl(w:L):KL w w:=⟨rfl,rfl,rfl,sG _,fun _ _ _=>rfl⟩
theorem Wo.same{w w':L}{i:Nat}(h:Wo w i)(e:w'.heap[i]?=w.heap[i]?):Wo w' i:=fun cs t fz hc=>h cs t fz (by
 rw[<-e];exact hc)
theorem KL.trans{w w1 w2:L}(h:KL w w1)(k:KL w1 w2):KL w w2:=⟨k.os.trans h.os,k.tape.trans h.tape,k.output.trans h.output,tV h.size k.size,fun i a b=>by
 have e:=h.keep i a b;exact(k.keep i (tK a h.size) (b.same e)).trans e⟩
theorem KL.grown{w w':L}(h:Y w w' M):KL w w':=⟨h.os,h.tape,h.output,h.size,fun i hi _=>h.block i hi (by
 simp)⟩
theorem KL.turn{w w':L}{row:Option Nat}(h:Y w w' row)(hr:∀g,row=O g->∃cs t fz,w.heap[g]?=O (tD cs t fz)∧¬VU t∧t≠54∧∀q,cs[0]?≠O (tE pF q)):KL w w':=⟨h.os,h.tape,h.output,h.size,fun i j k=>by
 refine h.block i j fun e=>?_;obtain⟨cs,t,fz,f,b,c,d⟩:=hr i e.symm;rcases k cs t fz f with a|a|⟨q,a⟩;·exact b a
 ·exact c a
 ·exact d q a⟩
def JX(w:L)(P:L->Prop):Prop:=∀w',KL w w'->P w'
theorem JX.now{w:L}{P:L->Prop}(h:JX w P):P w:=h w (KL.refl w)
theorem JX.later{w w':L}{P:L->Prop}(h:JX w P)(k:KL w w'):JX w' P:=fun w2 k2=>h w2 (k.trans k2)
theorem JX.grown{w w':L}{P:L->Prop}(h:JX w P)(k:Y w w' M):JX w' P:=h.later (KL.grown k)
def zN(w:L)(P:L->Prop):Prop:=∀w',Y w w' M->P w'
theorem zN.now{w:L}{P:L->Prop}(h:zN w P):P w:=h w (Qb w M)
theorem zN.grown{w w':L}{P:L->Prop}(h:zN w P)(k:Y w w' M):zN w' P:=fun w2 k2=>h w2 (Qa k k2)
def Zd(B:Nat)(w:L)(P:L->Prop):Prop:=∀w',Ny B w w'->P w'
theorem Zd.now{B:Nat}{w:L}{P:L->Prop}(h:Zd B w P):P w:=h w (Ny.refl B w)
theorem Zd.later{B C:Nat}{w w':L}{P:L->Prop}(h:Zd C w P)(k:Kp B w w')(hC:C<=B:=by
 first|exact Nat.zero_le _|exact Nat.le_refl _):Zd C w' P:=fun b a=>h b ((k.two hC).trans a)
theorem Zd.later2{C:Nat}{w w':L}{P:L->Prop}(h:Zd C w P)(k:Ny C w w'):Zd C w' P:=fun w2 k2=>h w2 (k.trans k2)
theorem Zd.grown{C:Nat}{w w':L}{P:L->Prop}(h:Zd C w P)(k:Y w w' M):Zd C w' P:=h.later2 (Ny.grown k)
theorem Zd.mono{B:Nat}{w:L}{P Q:L->Prop}(h:Zd B w P)(k:∀w',P w'->Q w'):Zd B w Q:=fun w' h'=>k w' (h w' h')
theorem Kv{w w':L}{v:N}{bs:List UInt8}(h:Qe w v bs)(hb:bs=[]∨∃b,v.ownBlock=O b∧w'.heap[b]?=w.heap[b]?):Qe w' v bs:=by
 obtain⟨a,cap,rfl,d,h⟩:=h;refine⟨a,cap,rfl,d,?_⟩;rcases h with h|⟨b,o,rfl,h⟩;·exact .inl h
 ·refine .inr ⟨b,o,rfl,fun i c=>?_⟩;rcases hb with rfl|⟨f,e,hb⟩;(·simp at c);·simp[pQ]at e;subst e;rw[sU hb];exact h i c
theorem nD:¬Gq 5:=by
 simp[Gq,VU]
theorem Zv{B:Nat}{w:L}{v:N}{bs:List UInt8}(h:Qf 0 w v bs):Zd B w (fun w=>Qf 0 w v bs):=fun m k=>by
 obtain⟨i,a⟩:=h;rcases a with a|⟨b,e,j,a⟩;·exact⟨Kv i (.inl a),.inl a⟩
 ·(obtain⟨c,d,a⟩:∃c d,w.heap[b]?=O (tD c 5 d):=by rcases a with a|a;(·omega);·exact a);have l:m.heap[b]?=w.heap[b]?:=k.keep b j (.inr fun n t f g=>.inl (by rw[a]at g;simp only[tG,sD]at g;rw[<-g.2.1];exact nD));exact⟨Kv i (.inr ⟨b,e,l⟩),.inr ⟨b,e,tK j k.size,.inr ⟨c,d,by rw[l];exact a⟩⟩⟩
theorem GW{B:Nat}{w:L}{v:N}{bs:List UInt8}(h:Yc w v bs):Zd B w (fun w=>Yc w v bs):=fun n k=>by
 obtain⟨i,a⟩:=h;rcases a with a|⟨b,e,j,d,t,m,a,c⟩;·exact⟨Kv i (.inl a),.inl a⟩
 ·have l:n.heap[b]?=w.heap[b]?:=k.keep b j (.inr fun o p f g=>by rw[a]at g;simp only[tG,sD]at g;obtain⟨rfl,rfl,_⟩:=g;rcases c with rfl|c;(·exact .inl nD);·exact .inr c);exact⟨Kv i (.inr ⟨b,e,l⟩),.inr ⟨b,e,tK j k.size,d,t,m,by rw[l];exact a,c⟩⟩
theorem Vl{B base:Nat}{w:L}{t:sE}{n m:Nat}{v:N}{xs:List N}(h:w.ownsRow base t n v m xs)(ht:¬Gq t):Zd B w (fun w=>w.ownsRow base t n v m xs):=fun l k=>by
 refine⟨h.1,?_⟩;rcases h.2with h|⟨g,cap,a,e,d,c,rest⟩;·exact .inl h
 ·refine .inr ⟨g,cap,a,e,d,?_,rest⟩;rw[k.keep g (tM.1 c).1 (.inr fun i j f b=>.inl (by rw[c]at b;simp only[tG,sD]at b;rw[<-b.2.1];exact ht))];exact c
theorem Ld{B rb:Nat}{w:L}{v:N}{l:List Rd}(h:ZP rb 0 w v l):Zd B w (fun w=>ZP rb 0 w v l):=fun a k=>by
 obtain⟨f,d,e,b⟩:=h;exact⟨f,d,Vl e (by simp[Gq,VU]) a k,fun x c=>⟨Zv (b x c).1 a k,Zv (b x c).2.1 a k,Zv (b x c).2.2 a k⟩⟩
theorem Sr{B rb:Nat}{w:L}{v:N}{l:List Q9}(h:QY rb 0 w v l):Zd B w (fun w=>QY rb 0 w v l):=fun a k=>by
 obtain⟨f,d,e,b⟩:=h;exact⟨f,d,Vl e (by simp[Gq,VU]) a k,fun x c=>⟨Zv (b x c).1 a k,Zv (b x c).2.1 a k,Zv (b x c).2.2 a k⟩⟩
theorem V3{B:Nat}{w:L}{v:N}{l:PL}(h:QK 0 w v l):Zd B w (fun w=>QK 0 w v l):=fun m k=>by
 obtain⟨a,cap,rfl,e,h⟩:=h;refine⟨a,cap,rfl,e,?_⟩;rcases h with h|⟨b,o,rfl,c,h⟩;·exact .inl h
 ·(obtain⟨d,g,c⟩:∃d g,w.heap[b]?=O (tD d 50 g):=by rcases c with c|c;(·omega);·exact c);have j:m.heap[b]?=w.heap[b]?:=k.keep b (tM.1 c).1 (.inr fun y t f e=>.inl (by rw[c]at e;simp only[tG,sD]at e;rw[<-e.2.1];simp[Gq,VU]));refine .inr ⟨b,o,rfl,.inr ⟨d,g,by rw[j];exact c⟩,fun i s=>?_⟩;obtain⟨u,x,n,p,q,r⟩:=h i s;exact⟨u,x,by rw[sU j];exact n,by rw[sU j];exact p,Zv q m k,Zv r m k⟩
theorem SG{B rb:Nat}{w:L}{v:N}{l:FL}(h:ZI rb w v l):Zd B w (fun w=>ZI rb w v l):=fun a k=>by
 obtain⟨f,d,e,b⟩:=h;exact⟨f,d,Vl e (by simp[Gq,VU]) a k,fun i c=>⟨Zv (b i c).1 a k,V3 (b i c).2 a k⟩⟩
theorem Nc{B:Nat}{w:L}{v:N}{l:List Q9}(h:Xt 0 w v l):Zd B w (fun w=>Xt 0 w v l):=fun j k=>by
 obtain⟨a,cap,rfl,e,h⟩:=h;refine⟨a,cap,rfl,e,?_⟩;rcases h with h|⟨b,o,rfl,c,h⟩;·exact .inl h
 ·(obtain⟨d,m,c⟩:∃d m,w.heap[b]?=O (tD d 146 m):=by rcases c with c|c;(·omega);·exact c);have g:j.heap[b]?=w.heap[b]?:=k.keep b (tM.1 c).1 (.inr fun D t f e=>.inl (by rw[c]at e;simp only[tG,sD]at e;rw[<-e.2.1];simp[Gq,VU]));refine .inr ⟨b,o,rfl,.inr ⟨d,m,by rw[g];exact c⟩,fun i y=>?_⟩;obtain⟨A,z,C,n,p,q,r,s,u,x⟩:=h i y;exact⟨A,z,C,by rw[sU g];exact n,by rw[sU g];exact p,by rw[sU g];exact q,by rw[sU g];exact r,Zv s j k,Zv u j k,Zv x j k⟩
theorem Fg{B:Nat}{w:L}{v:N}{t:Tx}(h:qM w v t):Zd B w (fun w=>qM w v t):=fun a k=>by
 obtain⟨d,e,rfl,b,c⟩:=h;exact⟨d,e,rfl,Ld b a k,Sr c a k⟩
theorem LM{B base:Nat}{w:L}{v:N}{l:List vL}(h:J9 base w v l):Zd B w (fun w=>J9 base w v l):=fun a k=>by
 obtain⟨g,b,c,d,e⟩:=h;exact⟨g,b,Vl c (by simp[Gq,VU]) a k,fun x f=>GW (d x f) a k,e⟩
theorem jS{B n:Nat}{w:L}{v:N}{p:C8}(h:ZH n w v p):Zd B w (fun w=>K7 w v p):=fun a k=>by
 obtain⟨b,g,f,i,rfl,_,_,c,d,e⟩:=h;exact⟨g,f,i,rfl,(LM c a k).list,(GW d a k).1,(GW e a k).1⟩
section
section
variable{α:Type}{T:sE}{k:Nat}{P:L->List N->α->Prop}{B:Nat}{w w':L}{v:N}{l:List α}
def Je(T:sE)(k:Nat)(P:L->List N->α->Prop)(B:Nat)(w:L)(v:N)(l:List α):Prop:=∃us:List (List N×α),us.map (·.2)=l∧w.ownsRow B T k v l.length (us.flatMap (·.1))∧(l=[]->v=S M 0 0)∧∀x∈us,x.1.length=k∧(∀u∈x.1,u.oneCell'=tB)∧(∀q,x.1[0]?≠O (tE pF q))∧Zd 0 w (fun w=>P w x.1 x.2)
theorem jG(T:sE)(k:Nat)(P:L->List N->α->Prop)(B:Nat)(w:L):Je T k P B w (S M 0 0) []:=⟨[],rfl,sV _ _ _ _,fun _=>rfl,fun x a=>by
 simp at a⟩
theorem Je.kept(h:Je T k P B w v l)(hk:Kp B w w')(hs:∀g,v.ownBlock=O g->w'.heap[g]?=w.heap[g]?):Je T k P B w' v l:=by
 obtain⟨m,e,d,f,a⟩:=h;refine⟨m,e,⟨d.1,?_⟩,f,fun x b=>⟨(a x b).1,(a x b).2.1,(a x b).2.2.1,(a x b).2.2.2.later hk⟩⟩;rcases d.2with h|⟨g,cap,c,rfl,i,j,rest⟩;·exact .inl h
 ·exact .inr ⟨g,cap,c,rfl,i,by rw[hs g rfl];exact j,rest⟩
theorem Je.kept2(h:Je T k P B w v l)(hk:Ny 0 w w')(hs:∀g,v.ownBlock=O g->w'.heap[g]?=w.heap[g]?):Je T k P B w' v l:=by
 obtain⟨m,e,d,f,a⟩:=h;refine⟨m,e,⟨d.1,?_⟩,f,fun x b=>⟨(a x b).1,(a x b).2.1,(a x b).2.2.1,(a x b).2.2.2.later2 hk⟩⟩;rcases d.2with h|⟨g,cap,c,rfl,i,j,rest⟩;·exact .inl h
 ·exact .inr ⟨g,cap,c,rfl,i,by rw[hs g rfl];exact j,rest⟩
theorem Je.lt(h:Je T k P B w v l):∀g,v.ownBlock=O g->B<=g∧g<w.heap.size:=by
 obtain⟨e,b,a,c,d⟩:=h;exact sN a
theorem Je.grown(h:Je T k P B w v l)(hg:Y w w' M):Je T k P B w' v l:=h.kept (Kp.grown hg) fun g e=>hg.block g (h.lt g e).2 (by
 simp)
theorem Je.shape(h:Je T k P B w v l):∃a cap,v=S a l.length cap:=by
 obtain⟨d,_,h,_⟩:=h;rcases h.2with⟨rfl,c⟩|⟨g,cap,b,rfl,_⟩;·exact⟨M,0,by rw[c]⟩
 ·exact⟨_,cap,rfl⟩
theorem Wk{k:Nat}:∀(us:List (List N×α))(_:∀x∈us,x.1.length=k)(i:Nat)(hi:i<us.length)(j:Nat),j<k->(us.flatMap (·.1))[i*k+j]?=us[i].1[j]?|[],_,i,hi,_,_=>by simp at hi|x::us,hk,0,_,j,hj=>by have:=hk x (by simp);simp[pT (show j<x.1.length by omega)]|x::us,hk,i+1,hi,j,hj=>by have a:=hk x (by simp);have:=Wk us (fun y b=>hk y (by simp[b])) i (by simpa using hi) j hj;rw[tU,List.getElem?_append_right (by rw[a,pD];omega),a,show(i+1)*k+j-k=i*k+j by rw[pD];omega,this];simp
theorem Je.blk(hk0:0<k)(h:Je T k P B w v l):v.ownBlock=M∨∃g cs,v.ownBlock=O g∧B<=g∧w.heap[g]?=O (tD cs T (0,0))∧∀q,cs[0]?≠O (tE pF q):=by
 obtain⟨b,c,f,i,d⟩:=h;rcases f.2with⟨rfl,_⟩|⟨g,cap,a,rfl,j,n,s,_,m,r⟩;·exact .inl rfl
 ·refine .inr ⟨g,a,rfl,j,n,fun q p=>?_⟩;cases b with|nil=>subst c;have:=i rfl;cases this|cons x b=>(have o:l.length=b.length+1:=by rw[<-c];simp);(have e:(a.toList.take (l.length*k))[0]?=((x::b).flatMap (·.1))[0]?:=by rw[r]);have t:=(d x (by simp)).1;rw[sJ,if_pos (by rw[o,pD];omega),tU,pT (by omega),pE,p]at e;exact(d x (by simp)).2.2.1 q e.symm
theorem Je.turn(hk0:0<k)(hT:Fd T)(h:Je T k P B w v l)(hg:Y w w' v.ownBlock):Kp B w w':=by
 rcases h.blk hk0 with e|⟨g,d,e,b,c,a⟩;·rw[e]at hg;exact Kp.grown hg
 ·rw[e]at hg;exact Kp.turn hg b c hT a
theorem Je.other(hk0:0<k)(h:Je T k P B w v l){row:Option Nat}(hk:Kp B w w')(hg:Y w w' row)(hr:row=M∨∃g cs t fz,row=O g∧w.heap[g]?=O (tD cs t fz)∧t≠T):Je T k P B w' v l:=by
 refine h.kept hk fun g e=>?_;refine hg.block g (h.lt g e).2 fun c=>?_;rcases hr with rfl|⟨j,cs,t,fz,rfl,f,i⟩;·cases c
 ·cases c;rcases h.blk hk0 with b|⟨g2,d,b,_,a,_⟩;(·rw[b]at e;cases e);·rw[b]at e;cases e;rw[f]at a;simp only[tG,sD]at a;exact i a.2.1
theorem Je.at(h:Je T k P B w v l)(d:α)(i:Nat)(hi:i<l.length):∃g cap cs,v=S (O ⟨g,0,M⟩) l.length cap∧cs.length=k∧l.length<=cap∧(∀j,j<k->w.cell? ⟨g,i*k+j,M⟩=cs[j]?)∧Zd 0 w (fun w=>P w cs (l.getD i d)):=by
 obtain⟨a,m,o,z,n⟩:=h;have u:a.length=l.length:=by rw[<-m];simp
 rcases o.2with⟨rfl,y⟩|⟨g,cap,c,rfl,A,q,s,_,p,t⟩;·omega
 ·have b:=n a[i] (sP (by omega));refine⟨g,cap,a[i].1,rfl,b.1,s,fun j r=>?_,?_⟩;(·(have e:(c.toList.take (l.length*k))[i*k+j]?=(a.flatMap (·.1))[i*k+j]?:=by rw[t]);(have f:i*k+j<l.length*k:=by have:(i+1)*k<=l.length*k:=pH k hi;rw[pD]at this;omega);rw[Wk a (fun x b=>(n x b).1) i (by omega) j r,sJ,if_pos f,pE]at e;simp[sB,q,e]);·(have e:l.getD i d=a[i].2:=by subst m;simp[List.getD,show i<a.length by omega]);rw[e];exact b.2.2.2
theorem jR{o:rO}{a:Act}{K:Act->L->Prop}{Q:Exit->Act->L->Prop}(s x:rM)(t:sE)(ho:o.op=.call {callee:=.builtin .append,args:=#[s,x],argTypes:=#[t,t]})(i:TypeInfo)(z:N)(bytes:Nat)(ht:tC.underlying t=O (.slice T))(hi:tC.info? T=O i)(hz:i.zero=O z)(hsize:i.size=k)(hby:i.bytes=bytes)(hzs:z.cells.size=k)(hsz:0<k)(hT:Fd T)(hs:a.eval s=v)(hown:Je T k P B w v l)(nb:Nat)(cs:List N)(y:α)(hx:a.eval x=S (O ⟨nb,0,M⟩) 1 1)(hcl:cs.length=k)(hc:∀j u,cs[j]?=O u->w.cell? ⟨nb,j,M⟩=O u)(h1:∀u∈cs,u.oneCell'=tB)(h0:∀q,cs[0]?≠O (tE pF q))(hP:Zd 0 w (fun w=>P w cs y))(h63:l.length+1<=pN)(hbytes:(l.length+1)*bytes<=140737488355328)(hbase:B<=w.heap.size)(h:∀v' w',Je T k P B w' v' (l++[y])->Kp B w w'->Y w w' v.ownBlock->K (a.put o.dst v') w'):o.wp tC a w K Q:=by
 have b:=hown;obtain⟨m,n,p,E,c⟩:=hown;refine wp_append_lies w s x t ho B T i z k bytes ht hi hz hsize hby hzs hsz v l.length (m.flatMap (·.1)) hs p ⟨nb,0,M⟩ 1 1 cs hx (by omega) (fun j u A=>by rw[ZS,sX];exact hc j u A) h1 (by omega) h63 hbytes hbase _ rfl ?_;intro g cap w' D f r C;have d:=b.turn hsz hT f;refine h _ w' ⟨m++[(cs,y)],by simp[n],?_,fun e=>by simp at e,fun x hx=>?_⟩ d f;·simpa[List.flatMap_append]using D
 ·rcases sF.1 hx with hx|hx;(·exact⟨(c x hx).1,(c x hx).2.1,(c x hx).2.2.1,(c x hx).2.2.2.later d⟩);·(obtain rfl:x=(cs,y):=by simpa using hx);exact⟨hcl,h1,h0,hP.later d⟩
theorem Je.take(h:Je T k P B w v l){a:Option rK}{n cap:Nat}(hv:v=S a n cap)(m:Nat)(hm:m<=l.length)(h0:0<m):Je T k P B w (S a m cap) (l.take m):=by
 subst hv;obtain⟨i,q,r,G,s⟩:=h;have D:i.length=l.length:=by rw[<-q];simp
 have b:(l.take m).length=m:=by simp;omega
 rcases r.2with⟨e,t⟩|⟨g,F,j,e,u,z,H,p,o,C⟩;·omega
 ·simp only[tL]at e;obtain⟨rfl,rfl,rfl⟩:=e;(have f:(i.take m).flatMap (·.1)=(i.flatMap (·.1)).take (m*k):=by(have A:∀(d:List (List N×α)),(∀x∈d,x.1.length=k)->∀m,(d.take m).flatMap (·.1)=(d.flatMap (·.1)).take (m*k):=by intro d;induction d with|nil=>intro _ m;simp|cons x d ih=>intro c m;cases m with|zero=>simp|succ m=>have:=c x (by simp);rw[rN,tU,tU,ih (fun y E=>c y (by simp[E])) m,List.take_append,this,pD,show m*k+k-k=m*k by omega,List.take_of_length_le (l:=x.1) (by omega)]);exact A i (fun x c=>(s x c).1) m);refine⟨i.take m,by rw[<-q,List.map_take],⟨?_,.inr ⟨g,cap,j,by rw[b],u,z,by omega,p,o,?_⟩⟩,fun e=>?_,fun x c=>s x (List.mem_of_mem_take c)⟩;(·rw[f,pC,r.1,b];have:m*k<=l.length*k:=pH k hm;omega);(·rw[b,f,<-C,o8];have:m*k<=l.length*k:=pH k hm;rw[o9 this]);·rw[e]at b;simp at b;omega
end
end
theorem Ta:(156:Nat)≠5:=by
 decide
theorem uC:(156:Nat)≠146:=by
 decide
def Bb(w:L)(b o:Nat)(c:Xx):Prop:=∃vs,w.cell? ⟨b,o,M⟩=O (tE tF c.turn)∧w.cell? ⟨b,o+1,M⟩=O vs∧QO w vs c.writes
theorem Bb.grown{w w':L}{b o:Nat}{c:Xx}(h:Bb w b o c)(hg:Y w w' M):Bb w' b o c:=by
 obtain⟨e,a,d,h⟩:=h;exact⟨e,hg.cell a (by simp),hg.cell d (by simp),h.grown hg⟩
def Jm(w:L)(v:N)(l:List Xx):Prop:=∃a cap,v=S a l.length cap∧l.length<=cap∧((l=[]∧(a=M->cap=0))∨∃b o,a=O ⟨b,o,M⟩∧∀i,i<l.length->Bb w b (o+i*2) (l.getD i Zq))
theorem Nl(w:L):Jm w (S M 0 0) []:=⟨M,0,rfl,sG _,.inl ⟨rfl,fun _=>rfl⟩⟩
theorem Jm.shape{w:L}{v:N}{l:List Xx}(h:Jm w v l):∃a cap,v=S a l.length cap:=by
 obtain⟨a,cap,rfl,_⟩:=h;exact⟨a,cap,rfl⟩
theorem Jm.grown{w w':L}{v:N}{l:List Xx}(h:Jm w v l)(hg:Y w w' M):Jm w' v l:=by
 obtain⟨a,cap,rfl,c,h⟩:=h;refine⟨a,cap,rfl,c,?_⟩;rcases h with h|⟨b,o,rfl,h⟩;·exact .inl h
 ·exact .inr ⟨b,o,rfl,fun i d=>(h i d).grown hg⟩
theorem Jm.at{w:L}{a:Option rK}{n cap:Nat}{l:List Xx}(h:Jm w (S a n cap) l)(i:Nat)(hi:i<l.length):∃b o,a=O ⟨b,o,M⟩∧Bb w b (o+i*2) (l.getD i Zq):=by
 obtain⟨d,c,e,f,h⟩:=h;simp only[tL]at e;obtain⟨rfl,rfl,rfl⟩:=e;rcases h with⟨rfl,_⟩|⟨b,o,rfl,h⟩;·simp at hi
 ·exact⟨b,o,rfl,h i hi⟩
structure Ss (l : List Xx) : Prop where
  many : l.length * 32 <= 140737488355328
  each : ∀ i, i < l.length -> Mx (l.getD i Zq)
abbrev CV:=Xx×N
def uO(us:List CV):List N:=us.flatMap fun x=>[tE tF x.1.turn,x.2]
theorem M7(a b:List CV):uO (a++b)=uO a++uO b:=by
 simp[uO]
theorem iI:(tC.info? 156).map (fun i=>(i.zero,i.size,i.bytes))=O (O (sY #[tE tF 0,S M 0 0]),2,32):=by
 kernel_rfl
def Jj(base:Nat)(w:L)(v:N)(l:List Xx):Prop:=∃us:List CV,us.map (·.1)=l∧w.ownsRow base 156 2 v l.length (uO us)∧(l=[]->v=S M 0 0)∧∀x∈us,Xt 0 w x.2 x.1.writes
theorem Be(base:Nat)(w:L):Jj base w (S M 0 0) []:=⟨[],rfl,sV _ _ _ _,fun _=>rfl,fun x hx=>by
 simp at hx⟩
theorem Jj.row{base:Nat}{w:L}{v:N}{l:List Xx}(h:Jj base w v l):v.ownBlock=M∨∃g cur t fz,v.ownBlock=O g∧base<=g∧w.heap[g]?=O (tD cur t fz)∧t≠5∧t≠146:=by
 obtain⟨c,_,h,_⟩:=h;rcases h.2with⟨rfl,_⟩|⟨g,cap,cur,rfl,a,b,_⟩;·exact .inl rfl
 ·exact .inr ⟨g,cur,_,_,rfl,a,b,Ta,uC⟩
theorem Jj.row0{base:Nat}{w:L}{v:N}{l:List Xx}(h:Jj base w v l):v.ownBlock=M∨∃g cur t fz,v.ownBlock=O g∧0<=g∧w.heap[g]?=O (tD cur t fz)∧t≠5∧t≠146:=by
 rcases h.row with h|⟨g,cur,t,fz,a,_,b⟩;·exact .inl h
 ·exact .inr ⟨g,cur,t,fz,a,tW _,b⟩
theorem Jj.lt{base:Nat}{w:L}{v:N}{l:List Xx}(h:Jj base w v l):∀k,v.ownBlock=O k->base<=k∧k<w.heap.size:=by
 obtain⟨a,_,h,_⟩:=h;exact sN h
theorem Jj.grownNone{base:Nat}{w w':L}{v:N}{l:List Xx}(h:Jj base w v l)(hg:Y w w' M):Jj base w' v l:=by
 obtain⟨f,b,c,a,d⟩:=h;refine⟨f,b,sA c hg ?_,a,fun x e=>(d x e).kept hg (.inl rfl)⟩;cases hv:v.ownBlock with|none=>exact .inl rfl|some k=>exact .inr (by simp)
theorem Jj.shape{base:Nat}{w:L}{v:N}{l:List Xx}(h:Jj base w v l):∃a cap,v=S a l.length cap:=by
 obtain⟨d,_,h,_⟩:=h;rcases h.2with⟨rfl,c⟩|⟨g,cap,b,rfl,_⟩;·exact⟨M,0,by rw[c]⟩
 ·exact⟨_,cap,rfl⟩
theorem SX{base:Nat}{w W w1:L}{v:N}{l:List Xx}(h:Y w W M)(ho:Jj base W v l)(hb:w.heap.size<=base)(hg:Y W w1 v.ownBlock):Y w w1 M:=⟨hg.os.trans h.os,hg.tape.trans h.tape,hg.output.trans h.output,tV h.size hg.size,fun i a b=>(hg.block i (tK a h.size) (fun e=>by
 have:=(ho.lt i e.symm).1;omega)).trans (h.block i a b)⟩
theorem ER{w:L}{o:rO}{a:Act}{K:Act->L->Prop}{Q:Exit->Act->L->Prop}(s x:rM)(ho:o.op=.call {callee:=.builtin .append,args:=#[s,x],argTypes:=#[80,80]})(base:Nat)(v:N)(l:List Xx)(hs:a.eval s=v)(hown:Jj base w v l)(vw:N)(c:Xx)(hw:Xt 0 w vw c.writes)(nb:Nat)(hb:w.heap[nb]?=O (tD #[tE tF c.turn,vw] 156))(hx:a.eval x=S (O ⟨nb,0,M⟩) 1 1)(hl:(l.length+1)*32<=140737488355328)(hbase:base<=w.heap.size)(h:∀v' w',Jj base w' v' (l++[c])->Y w w' v.ownBlock->K (a.put o.dst v') w'):o.wp tC a w K Q:=by
 obtain⟨z,q,i,j,k⟩:=r8 iI;have b:=hown.row0;obtain⟨p,f,t,_,r⟩:=hown;refine wp_append_lies w s x 80 ho base 156 z (sY #[tE tF 0,S M 0 0]) 2 32 Tryz.underlying80 q i j k rfl (by decide) v l.length (uO p) hs t ⟨nb,0,M⟩ 1 1 (uO [(c,vw)]) hx rfl (rG (cs:=#[tE tF c.turn,vw]) hb) ?_ (by omega) (by unfold pN;omega) hl hbase _ rfl ?_;·intro u n;simp only[uO,tU,rJ,tY,tP,tT,or_false]at n;rcases n with rfl|rfl;(·rfl);·exact hw.oneCell
 ·intro g cap w' A m _ _;refine h _ w' ⟨p++[(c,vw)],by simp[f],?_,fun e=>by simp at e,?_⟩ m;(·rw[M7,tH];exact A);·intro y d;rcases sF.1 d with d|d;(·exact(r y d).kept m b);·simp only[tP,tT,or_false]at d;subst d;exact hw.kept m b
theorem vA{w:L}{ops:Array rO}{rest:List rO}{o:rO}{a:Act}{Q:Exit->Act->L->Prop}(hgd:o.guard=M)(s x:rM)(ho:o.op=.call {callee:=.builtin .append,args:=#[s,x],argTypes:=#[80,80]})(base:Nat)(v:N)(l:List Xx)(hs:a.eval s=v)(hown:Jj base w v l)(vw:N)(c:Xx)(hw:Xt 0 w vw c.writes)(nb:Nat)(hb:w.heap[nb]?=O (tD #[tE tF c.turn,vw] 156))(hx:a.eval x=S (O ⟨nb,0,M⟩) 1 1)(hl:(l.length+1)*32<=140737488355328)(hbase:base<=w.heap.size)(h:∀v' w',Jj base w' v' (l++[c])->Y w w' v.ownBlock->wpList tC ops Q rest (a.put o.dst v') w'):wpList tC ops Q (o::rest) a w:=wpList_plain hgd fun _ e=>ER s x ho base v l hs hown vw c hw nb hb hx hl hbase fun v' w' b d=>e _ _ (h v' w' b d)
theorem Jj.ne{base:Nat}{w:L}{v:N}{l:List Xx}(h:Jj base w v l){b:Nat}{cs:Array N}{t:sE}{fz:Nat×Nat}(hb:w.heap[b]?=O (tD cs t fz))(ht:t≠156):v.ownBlock≠O b:=by
 intro e;obtain⟨d,_,h,_⟩:=h;rcases h.2with⟨rfl,_⟩|⟨g,cap,c,rfl,_,a,_⟩;·cases e
 ·cases e;rw[hb]at a;simp only[tG,sD]at a;exact ht a.2.1
theorem Jj.setOther{base:Nat}{w:L}{v:N}{l:List Xx}(h:Jj base w v l){b i:Nat}{cs:Array N}{t:sE}{fz:Nat×Nat}(hb:w.heap[b]?=O (tD cs t fz))(ht:t≠5)(ht2:t≠146)(ht3:t≠156)(u:N):Jj base (tJ w ⟨b,i,M⟩ u) v l:=by
 have a:=h.ne hb ht3;obtain⟨j,d,e,c,f⟩:=h;exact⟨j,d,sA e (YW w b i u) (.inr a),c,fun x g=>(f x g).kept (YW w b i u) (.inr ⟨b,cs,t,fz,rfl,tW _,hb,ht,ht2⟩)⟩
theorem Jj.other{base:Nat}{w w':L}{v:N}{l:List Xx}(h:Jj base w v l)(hg:Y w w' v.ownBlock){b:Nat}{cs:Array N}{t:sE}{fz:Nat×Nat}(hb:w.heap[b]?=O (tD cs t fz))(ht:t≠156):w'.heap[b]?=O (tD cs t fz):=by
 rw[hg.block b (tM.1 hb).1 (fun e=>h.ne hb ht e.symm)];exact hb
def Oy:Prop:=∀(w:L)(v u:N)(t:Tx)(r:Rd),qR w v t->yS t->YE w u r->FN r->rC tC 78 #[v,u] w fun e w'=>∃x,e=tI (sK #[x,tE tF (Z7 t r)])∧qM w' x (XF t r)∧Y w w' M
theorem Qk(w:L)(o:Obj):∃W:L,Hid (W=w.alloc o)∧Y w W M∧Hid (W.heap[w.heap.size]?=O o):=⟨w.alloc o,rfl,sW _ _ _,heap_alloc_new w o⟩
theorem ZZ{x y:Int}(h:x=y):tI (tE tF y)=tI (tE tF x):=by
 rw[h]
theorem YY{x y:Bool}(h:x=y):tI (tS y)=tI (tS x):=by
 rw[h]
theorem XO{W w:L}{b:Nat}{x y z:N}{t:sE}(hg:Y W w M)(h:W.heap[b]?=O (tD #[x,y,z] t)):w.cell? ⟨b,0,M⟩=O x∧w.cell? ⟨b,1,M⟩=O y∧w.cell? ⟨b,2,M⟩=O z:=by
 have a:w.heap[b]?=O (tD #[x,y,z] t):=by rw[hg.block b (tM.1 h).1 (by simp)];exact h
 refine⟨?_,?_,?_⟩<;>simp[sB,a]
def Dj(p:List Rd)(r:Rd):Int:=if XQ r=0then(if p.any (fun q=>XS q r)=tB then 3 else 0)else XQ r
def DY(p:List Q9)(w:Q9):Int:=if Qz w=0then(if p.any (fun q=>ZR q w)=tB then 3 else 0)else Qz w
theorem dY(l:List Rd)(m:Nat)(h:m<l.length):qQ (l.take m) (l.drop m)=if Dj (l.take m) (l.getD m Zj)=0then qQ (l.take (m+1)) (l.drop (m+1))else Dj (l.take m) (l.getD m Zj):=by
 rw[rD h,qQ,rF h,show l[m]=l.getD m Zj by simp[h]];unfold Dj;by_cases a:XQ (l.getD m Zj)=0;·rw[if_pos a,if_pos a];by_cases b:(l.take m).any (fun q=>XS q (l.getD m Zj))=tB;(·rw[if_pos b,if_pos b,if_neg (by omega)]);·rw[if_neg b,if_neg b,if_pos rfl]
 ·rw[if_neg a,if_neg a,if_neg a]
theorem eL(l:List Q9)(m:Nat)(h:m<l.length):jD (l.take m) (l.drop m)=if DY (l.take m) (l.getD m Qp)=0then jD (l.take (m+1)) (l.drop (m+1))else DY (l.take m) (l.getD m Qp):=by
 rw[rD h,jD,rF h,show l[m]=l.getD m Qp by simp[h]];unfold DY;by_cases a:Qz (l.getD m Qp)=0;·rw[if_pos a,if_pos a];by_cases b:(l.take m).any (fun q=>ZR q (l.getD m Qp))=tB;(·rw[if_pos b,if_pos b,if_neg (by omega)]);·rw[if_neg b,if_neg b,if_pos rfl]
 ·rw[if_neg a,if_neg a,if_neg a]
theorem FM{α:Type}(d:α)(f:α->Bool)(l:List α)(k:Nat)(h:k<l.length):(l.take (k+1)).any f=((l.take k).any f||f (l.getD k d)):=by
 rw[rF h,List.any_append,show l[k]=l.getD k d by simp[h]];simp
theorem NJ{α:Type}(d:α)(f:α->Bool)(l:List α)(k m:Nat)(hk:k<m)(hm:m<=l.length)(h:f (l.getD k d)=tB):(l.take m).any f=tB:=by
 rw[sR];refine⟨l.getD k d,?_,h⟩;rw[show l.getD k d=(l.take m)[k]'(by rw[pC];omega)by rw[List.getElem_take];simp[show k<l.length by omega]];exact sP _
theorem yC{w:L}{a:Option rK}{n cap:Nat}{l:List Rd}(h:Xf w (S a n cap) l)(i:Nat)(hi:i<l.length):∃b o,a=O ⟨b,o,M⟩∧∃u1 u2 u3 u4 u5 u6,(w.cell? ⟨b,o+i*4,M⟩=O (S u1 (l.getD i Zj).name.length u2)∧w.cell? ⟨b,o+i*4+1,M⟩=O (S u3 (l.getD i Zj).key.length u4)∧w.cell? ⟨b,o+i*4+2,M⟩=O (tS (l.getD i Zj).wide)∧w.cell? ⟨b,o+i*4+3,M⟩=O (S u5 (l.getD i Zj).last.length u6))∧YE w (sY #[S u1 (l.getD i Zj).name.length u2,S u3 (l.getD i Zj).key.length u4,tS (l.getD i Zj).wide,S u5 (l.getD i Zj).last.length u6]) (l.getD i Zj):=by
 obtain⟨b,o,rfl,c⟩:=h.at i hi;obtain⟨r,p,q,g,j,k,m,d,e,f⟩:=c;obtain⟨u1,u2,rfl⟩:=d.shape;obtain⟨u3,u4,rfl⟩:=e.shape;obtain⟨u5,u6,rfl⟩:=f.shape;exact⟨b,o,rfl,u1,u2,u3,u4,u5,u6,⟨g,j,k,m⟩,⟨_,_,_,rfl,d,e,f⟩⟩
theorem Yo{w:L}{a:Option rK}{n cap:Nat}{l:List Q9}(h:QO w (S a n cap) l)(i:Nat)(hi:i<l.length):∃b o,a=O ⟨b,o,M⟩∧∃u1 u2 u3 u4 u5 u6,(w.cell? ⟨b,o+i*4,M⟩=O (S u1 (l.getD i Qp).name.length u2)∧w.cell? ⟨b,o+i*4+1,M⟩=O (S u3 (l.getD i Qp).key.length u4)∧w.cell? ⟨b,o+i*4+2,M⟩=O (tS (l.getD i Qp).gone)∧w.cell? ⟨b,o+i*4+3,M⟩=O (S u5 (l.getD i Qp).value.length u6))∧Xg w (sY #[S u1 (l.getD i Qp).name.length u2,S u3 (l.getD i Qp).key.length u4,tS (l.getD i Qp).gone,S u5 (l.getD i Qp).value.length u6]) (l.getD i Qp):=by
 obtain⟨b,o,rfl,c⟩:=h.at i hi;obtain⟨r,p,q,g,j,k,m,d,e,f⟩:=c;obtain⟨u1,u2,rfl⟩:=d.shape;obtain⟨u3,u4,rfl⟩:=e.shape;obtain⟨u5,u6,rfl⟩:=f.shape;exact⟨b,o,rfl,u1,u2,u3,u4,u5,u6,⟨g,j,k,m⟩,⟨_,_,_,rfl,d,e,f⟩⟩
theorem E6{x y:Bool}{a b:Int}(h:x=y)(k:a=b):tI (sK #[tS y,tE tF b])=tI (sK #[tS x,tE tF a]):=by
 rw[h,k]
theorem bM{α:Type}(f:α->Bool)(l:List α)(d:α)(i:Nat)(hi:i<l.length)(h:f (l.getD i d)=tB):l.any f=tB:=by
 have:=NJ d f l i l.length hi (sG _) h;rw[sL]at this;exact this
theorem xI:(85:Nat)≠5:=by
 decide
theorem uR:(85:Nat)≠162:=by
 decide
theorem qU:(85:Nat)≠146:=by
 decide
theorem ZP.block{rb pb:Nat}{W w':L}{v:N}{l:List Rd}(ho:ZP rb pb W v l)(hg:Y W w' v.ownBlock){b:Nat}{cs:Array N}{t:sE}{fz:Nat×Nat}(h:W.heap[b]?=O (tD cs t fz))(ht:t≠162):w'.heap[b]?=O (tD cs t fz):=by
 rw[hg.block b (tM.1 h).1 (fun e=>ho.ne h ht e.symm)];exact h
theorem QY.block{rb pb:Nat}{W w':L}{v:N}{l:List Q9}(ho:QY rb pb W v l)(hg:Y W w' v.ownBlock){b:Nat}{cs:Array N}{t:sE}{fz:Nat×Nat}(h:W.heap[b]?=O (tD cs t fz))(ht:t≠146):w'.heap[b]?=O (tD cs t fz):=by
 rw[hg.block b (tM.1 h).1 (fun e=>ho.ne h ht e.symm)];exact h
theorem ZP.keptV{rb rb':Nat}{W w':L}{v u:N}{l:List Rd}{k:List Q9}(hR:ZP rb 0 W v l)(hV:QY rb' 0 W u k)(hg:Y W w' u.ownBlock):ZP rb 0 w' v l:=by
 refine hR.kept hg ?_ ?_;·rcases hR.row with h|⟨g,a,b,e,_,h⟩;(·exact .inl h);·refine .inr ?_;rw[e];exact fun c=>hV.ne h (fun e=>nA e) c.symm
 ·rcases hV.row with h|⟨g,a,b,e,_,h⟩;(·exact .inl h);·exact .inr ⟨g,a,_,b,e,tW _,h,vN⟩
theorem QH{w:L}{b:Nat}{x y z:N}{t:sE}(h:w.heap[b]?=O (tD #[x,y,z] t)):(w.cell? ⟨b,0,M⟩=O x∧w.cell? ⟨b,1,M⟩=O y∧w.cell? ⟨b,2,M⟩=O z)∧w.frozen? ⟨b,0,M⟩=tA∧w.frozen? ⟨b,1,M⟩=tA∧w.frozen? ⟨b,2,M⟩=tA:=by
 refine⟨⟨?_,?_,?_⟩,?_,?_,?_⟩<;>simp[sB,pA,h]
theorem Vo{rb:Nat}{w wr:L}{RB:Nat}{x y z:N}{st:Int}{va ua:Option rK}{n m vc uc:Nat}{R:List Rd}{V:List Q9}(h:wr.heap[RB]?=O (tD #[x,y,z] 85))(hR:ZP rb 0 wr (S va n vc) R)(hV:QY rb 0 wr (S ua m uc) V)(hg:Y w wr M)(hw:w.heap.size<=RB):((((tJ wr ⟨RB,0,M⟩ (tE tF st)).setCell ⟨RB,1,M⟩ (S va n vc)).setCell ⟨RB,2,M⟩ (S ua m uc)).cell? ⟨RB,0,M⟩=O (tE tF st)∧(((tJ wr ⟨RB,0,M⟩ (tE tF st)).setCell ⟨RB,1,M⟩ (S va n vc)).setCell ⟨RB,2,M⟩ (S ua m uc)).cell? ⟨RB,1,M⟩=O (S va n vc)∧(((tJ wr ⟨RB,0,M⟩ (tE tF st)).setCell ⟨RB,1,M⟩ (S va n vc)).setCell ⟨RB,2,M⟩ (S ua m uc)).cell? ⟨RB,2,M⟩=O (S ua m uc))∧ZP rb 0 (((tJ wr ⟨RB,0,M⟩ (tE tF st)).setCell ⟨RB,1,M⟩ (S va n vc)).setCell ⟨RB,2,M⟩ (S ua m uc)) (S va n vc) R∧QY rb 0 (((tJ wr ⟨RB,0,M⟩ (tE tF st)).setCell ⟨RB,1,M⟩ (S va n vc)).setCell ⟨RB,2,M⟩ (S ua m uc)) (S ua m uc) V∧Y w (((tJ wr ⟨RB,0,M⟩ (tE tF st)).setCell ⟨RB,1,M⟩ (S va n vc)).setCell ⟨RB,2,M⟩ (S ua m uc)) M:=by
 have a:=Qj (i:=0) (u:=tE tF st) h;have b:=Qj (i:=1) (u:=S va n vc) a;have c:=Qj (i:=2) (u:=S ua m uc) b;exact⟨(QH (x:=tE tF st) (y:=S va n vc) (z:=S ua m uc) c).1,((hR.setOther h xI uR (tW _) _).setOther a xI uR (tW _) _).setOther b xI uR (tW _) _,((hV.setOther h xI qU (tW _) _).setOther a xI qU (tW _) _).setOther b xI qU (tW _) _,Qc (Qc (Qc hg _ hw _ _) _ hw _ _) _ hw _ _⟩
theorem QY.keptR{rb rb':Nat}{W w':L}{v u:N}{l:List Q9}{k:List Rd}(hV:QY rb 0 W v l)(hR:ZP rb' 0 W u k)(hg:Y W w' u.ownBlock):QY rb 0 w' v l:=by
 refine hV.kept hg ?_ ?_;·rcases hV.row with h|⟨g,a,b,e,_,h⟩;(·exact .inl h);·refine .inr ?_;rw[e];exact fun c=>hR.ne h (fun e=>nA e.symm) c.symm
 ·rcases hR.row with h|⟨g,a,b,e,_,h⟩;(·exact .inl h);·exact .inr ⟨g,a,_,b,e,tW _,h,mO⟩
theorem G8{w:L}{v1 v2:N}{st:Int}{R:List Rd}{V:List Q9}{rb:Nat}{t:Tx}(e:t=⟨st,R,V⟩)(h1:ZP rb 0 w v1 R)(h2:QY rb 0 w v2 V):qM w (sY #[tE tF st,v1,v2]) t:=by
 subst e;exact⟨_,_,rfl,h1.down 0 (tW _),h2.down 0 (tW _)⟩
theorem Vm{v:N}{a b:Int}(h:a=b):tI (sK #[v,tE tF b])=tI (sK #[v,tE tF a]):=by
 rw[h]
theorem Wq:∀(l:List Q9)(w:Q9)(m:Nat),m<l.length->(l.take m).any (fun q=>ZR q w)=tA->ZR (l.getD m Qp) w=tB->yI l w=l.set m w|[],_,_,h,_,_=>by simp at h|a::l,w,0,_,_,h=>by have b:ZR a w=tB:=h;rw[yI,if_pos b];rfl|a::l,w,m+1,h0,h1,h2=>by rw[rN,pI,rV]at h1;rw[yI,if_neg (by rw[h1.1];decide),pY,Wq l w m (by simpa using h0) h1.2 (by simpa using h2)]
theorem Cj:∀(l:List Q9)(w:Q9),l.any (fun q=>ZR q w)=tA->yI l w=l++[w]|[],_,_=>rfl|a::l,w,h=>by rw[pI,rV]at h;rw[yI,if_neg (by rw[h.1];decide),Cj l w h.2];rfl
theorem QY.zero{rb:Nat}{w:L}{b o n cap:Nat}{l:List Q9}(h:QY rb 0 w (S (O ⟨b,o,M⟩) n cap) l):o=0:=by
 obtain⟨k,j,d,i⟩:=h;rcases d.2with⟨e,_⟩|⟨f,a,c,e,_⟩;·cases e
 ·simp only[tL,tG,rS]at e;exact e.1.2.1
theorem QY.frozenT{rb:Nat}{w:L}{g n cap:Nat}{l:List Q9}(h:QY rb 0 w (S (O ⟨g,0,M⟩) n cap) l)(j:Nat):w.frozen? ⟨g,j,M⟩=tA:=by
 obtain⟨o,m,d,i⟩:=h;rcases d.2with⟨e,_⟩|⟨f,a,b,e,k,c,_⟩;·cases e
 ·simp only[tL,tG,rS]at e;obtain⟨⟨rfl,_⟩,_⟩:=e;simp[pA,c]
theorem E8:∀(us:List WV)(i:Nat)(x:WV),Ji (us.set i x)=((((Ji us).set (i*4) x.2.1).set (i*4+1) x.2.2.1).set (i*4+2) (tS x.1.gone)).set (i*4+3) x.2.2.2|[],i,x=>by simp[Ji]|y::us,0,x=>by simp[Ji]|y::us,i+1,x=>by have a:=E8 us i x;(have e:∀us:List WV,Ji (y::us)=y.2.1::y.2.2.1::tS y.1.gone::y.2.2.2::Ji us:=fun us=>by simp[Ji]);rw[pY,e,e,a,show(i+1)*4=i*4+4by omega];rfl
theorem QY.setT{rb:Nat}{w:L}{g n cap:Nat}{l:List Q9}(h:QY rb 0 w (S (O ⟨g,0,M⟩) n cap) l)(i:Nat)(vn vk vv:N)(p:Q9)(h1:Qf 0 w vn p.name)(h2:Qf 0 w vk p.key)(h3:Qf 0 w vv p.value):QY rb 0 ((((tJ w ⟨g,i*4,M⟩ vn).setCell ⟨g,i*4+1,M⟩ vk).setCell ⟨g,i*4+2,M⟩ (tS p.gone)).setCell ⟨g,i*4+3,M⟩ vv) (S (O ⟨g,0,M⟩) n cap) (l.set i p):=by
 obtain⟨r,d,y,k⟩:=h;have b:Y w ((((tJ w ⟨g,i*4,M⟩ vn).setCell ⟨g,i*4+1,M⟩ vk).setCell ⟨g,i*4+2,M⟩ (tS p.gone)).setCell ⟨g,i*4+3,M⟩ vv) (O g):=Qh (Qh (Qh (Qh (Qb _ _) _ _) _ _) _ _) _ _;rcases y.2with⟨e,_⟩|⟨j,o,c,e,s,q,v,u,z,A⟩;·cases e
 ·simp only[tL,tG,rS]at e;obtain⟨⟨rfl,_⟩,rfl,rfl⟩:=e;have a:(O g:Option Nat)=M∨∃j c t fz,(O g:Option Nat)=O j∧0<=j∧w.heap[j]?=O (tD c t fz)∧t≠5:=.inr ⟨g,c,_,_,rfl,tW _,q,vN⟩;(have m:r.length=l.length:=by rw[<-d];simp);refine⟨r.set i (p,vn,vk,vv),by rw[List.map_set,d],⟨by rw[IA,rW,rW,m],.inr ⟨g,cap,_,by rw[rW],s,Qj (Qj (Qj (Qj q))),by rw[rW];exact v,u,by simpa using z,?_⟩⟩,?_⟩;(·rw[E8,rW];simp only[Array.toList_setIfInBounds];rw[pK,pK,pK,pK,A]);·intro x f;rcases List.mem_or_eq_of_mem_set f with f|rfl;(·exact⟨(k x f).1.keptT b a,(k x f).2.1.keptT b a,(k x f).2.2.keptT b a⟩);·exact⟨h1.keptT b a,h2.keptT b a,h3.keptT b a⟩
def Uy(n k:List UInt8)(q:Q9):Bool:=tX (q.name=n)&&tX (q.key=k)
theorem Az{α:Type}(p:α->Bool)(d:α):∀(l:List α)(m:Nat),m<l.length->(l.take m).any p=tA->p (l.getD m d)=tB->l.find? p=O (l.getD m d)|[],_,h,_,_=>by simp at h|a::l,0,_,_,h=>by have b:p a=tB:=h;rw[pU b];rfl|a::l,m+1,h0,h1,h2=>by rw[rN,pI,rV]at h1;rw[pV (by rw[h1.1];decide),Az p d l m (by simpa using h0) h1.2 (by simpa using h2)];simp
theorem WD{α:Type}(p:α->Bool)(l:List α)(h:l.any p=tA):l.find? p=M:=by
 rw[List.find?_eq_none];intro x b a;rw[List.any_eq_false]at h;exact h x b a
theorem l5{l:List Q9}{n k:List UInt8}{m:Nat}(h:m<l.length)(h1:(l.take m).any (Uy n k)=tA)(h2:Uy n k (l.getD m Qp)=tB):Hi l n k=O (l.getD m Qp):=Az (Uy n k) Qp l m h h1 h2
theorem fZ{l:List Q9}{n k:List UInt8}(h:l.any (Uy n k)=tA):Hi l n k=M:=WD (Uy n k) l h
theorem aY{l:FL}{t:Tx}{n k:List UInt8}(h:KV l t n k≠0):Vw l t n k=tA∧UW l t n k=tA∧UB l t n k=[]:=by
 rw[Vw,UW,UB,if_neg h,if_neg h,if_neg h];exact⟨rfl,rfl,rfl⟩
theorem gW{l:FL}{t:Tx}{n k:List UInt8}(h:xZ l t≠0):KV l t n k=xZ l t:=by
 rw[KV,if_neg h]
theorem Cr{l:FL}{t:Tx}(h:xZ l t=0):Zk l∧Gf t:=by
 unfold xZ at h;by_cases a:Q5 l=0;·rw[if_pos a]at h;exact⟨(Xc l).1 a,(xH t).1 h⟩
 ·rw[if_neg a]at h;exact absurd h a
theorem dV{l:FL}{t:Tx}{n k:List UInt8}(h:xZ l t=0){m:Nat}(hm:m<t.writes.length)(h1:(t.writes.take m).any (Uy n k)=tA)(h2:Uy n k (t.writes.getD m Qp)=tB):KV l t n k=0∧Vw l t n k=tB∧UW l t n k=!(t.writes.getD m Qp).gone∧UB l t n k=(t.writes.getD m Qp).value:=by
 obtain⟨f,e⟩:=Cr h;have b:=l5 hm h1 h2;have c:=RG b;have d:=(XD _).1 (e.wrs _ c.1);rw[c.2.1,c.2.2]at d;have a:=M3 f e d.1 d.2.1;refine⟨a,?_,?_,?_⟩;·rw[Vw,if_pos a,b];rfl
 ·rw[UW,if_pos a,b]
 ·rw[UB,if_pos a,b]
theorem dR{l:FL}{t:Tx}{n k:List UInt8}(h:xZ l t=0)(h1:t.writes.any (Uy n k)=tA):KV l t n k=JZ l n k∧Vw l t n k=tA∧UW l t n k=Y8 l n k∧UB l t n k=Ja l n k:=by
 obtain⟨f,g⟩:=Cr h;have d:=fZ h1;have e:=(Xc l).2 f;have c:KV l t n k=JZ l n k:=by rw[KV,if_pos h,JZ,qD,if_pos e];by_cases b:Qt n.length=0;(·rw[if_pos b,if_pos b,Xh,if_pos ((Y1 _).2 (Y0 f n))]);·rw[if_neg b,if_neg b]
 refine⟨c,?_,?_,?_⟩;·rw[Vw,d];by_cases a:KV l t n k=0;(·rw[if_pos a];rfl);·rw[if_neg a]
 ·rw[UW,d];by_cases a:KV l t n k=0;(·rw[if_pos a]);·rw[if_neg a];rw[c]at a;rw[Y8];by_cases b:qD l n=0;(·rw[JZ,if_pos b]at a;rw[if_pos b,Rm];simp[a]);·rw[if_neg b]
 ·rw[UB,d];by_cases a:KV l t n k=0;(·rw[if_pos a]);·rw[if_neg a];rw[c]at a;rw[Ja];by_cases b:qD l n=0;(·rw[JZ,if_pos b]at a;rw[if_pos b,Ec,if_neg a]);·rw[if_neg b]
theorem O0{X:PL}(h:ZG X)(k:List UInt8):ZG (qJ X k):=⟨tV (Hk X k) h.room,fun p hp=>h.pairs p (o7.1 hp).1,kN X k h.rises⟩
theorem Ck{X:PL}(h:ZG X)(f u:List UInt8):ZG (Z4 X f u):=⟨tV (kP X f u) h.room,fun p a=>h.pairs p (o7.1 a).1,Uv X f u h.rises⟩
theorem WS{X:PL}(h:ZG X){p:Pr}(hp:(1<=p.1.length∧p.1.length<=16)∧p.2.length<=32)(hl:(JD X p).length<=60):ZG (JD X p):=⟨hl,NZ X p h.pairs hp,qI X p h.rises⟩
theorem uS(n a b:List UInt8)(w:Q9):Xa ⟨n,a,tB,b⟩ w=tB↔w.name=n∧Iv a b w.key=tB:=by
 show(tX (n=w.name)&&Iv a b w.key)=tB↔_;rw[rI,decide_eq_true_iff];exact⟨fun h=>⟨h.1.symm,h.2⟩,fun h=>⟨h.1.symm,h.2⟩⟩
theorem aL{n a b:List UInt8}{w:Q9}(h:Xa ⟨n,a,tB,b⟩ w=tA)(X:PL):Ka n a b X w=X:=by
 rw[Ka,if_neg];intro e;rw[(uS n a b w).2 e]at h;cases h
theorem cW{n a b:List UInt8}{w:Q9}(h:Xa ⟨n,a,tB,b⟩ w=tB)(hg:w.gone=tB){X:PL}(hX:ZG X)(hw:Qz w=0):Xh X w.key=0∧yA X w.key=Ka n a b X w∧ZG (Ka n a b X w):=by
 have d:=((XD w).1 hw).2.1;have c:=xC hX d;have e:Ka n a b X w=qJ X w.key:=by rw[Ka,if_pos ((uS n a b w).1 h),if_pos hg]
 refine⟨c,by rw[e,yA,if_pos c],by rw[e];exact O0 hX _⟩
theorem dP{n a b:List UInt8}{w:Q9}(h:Xa ⟨n,a,tB,b⟩ w=tB)(hg:w.gone=tA){X:PL}(hX:ZG X)(hw:Qz w=0):Ka n a b X w=JD X (w.key,w.value)∧(60<(Ka n a b X w).length->KG X (w.key,w.value)=11)∧(¬60<(Ka n a b X w).length->KG X (w.key,w.value)=0∧VW X (w.key,w.value)=Ka n a b X w∧ZG (Ka n a b X w)):=by
 have d:=(XD w).1 hw;have i:w.value.length<=32:=by have:=d.2.2;rw[hg,if_neg (by decide)]at this;exact this
 have e:Ka n a b X w=JD X (w.key,w.value):=by rw[Ka,if_pos ((uS n a b w).1 h),hg,if_neg (by decide)]
 have f:Gw X (w.key,w.value)=0:=by rw[Gw,if_pos ((Y1 X).2 hX)];exact(JS _).2 ⟨d.2.1,i⟩
 refine⟨e,fun c=>?_,fun c=>?_⟩;·rw[e]at c;rw[KG,if_pos f,if_pos c]
 ·rw[e]at c;(have g:KG X (w.key,w.value)=0:=by rw[KG,if_pos f,if_neg c]);refine⟨g,by rw[e,VW,if_pos g],?_⟩;rw[e];exact WS hX ⟨d.2.1,i⟩ (by omega)
def JU(n a b:List UInt8)(X:PL)(ws:List Q9):Int×PL:=(xA n a b X ws,if xA n a b X ws=0then EH n a b X ws else[])
theorem L6(n a b:List UInt8)(X:PL):JU n a b X []=(0,X):=rfl
theorem Fl{n a b:List UInt8}{X:PL}{ws:List Q9}{m:Nat}(hm:m<ws.length)(h:¬60<(Ka n a b X (ws.getD m Qp)).length):JU n a b X (ws.drop m)=JU n a b (Ka n a b X (ws.getD m Qp)) (ws.drop (m+1)):=by
 rw[rD hm,show ws[m]=ws.getD m Qp by simp[hm]];rw[JU,JU,xA,if_neg h];rfl
theorem Bf{n a b:List UInt8}{X:PL}{ws:List Q9}{m:Nat}(hm:m<ws.length)(h:60<(Ka n a b X (ws.getD m Qp)).length):JU n a b X (ws.drop m)=(11,[]):=by
 rw[rD hm,show ws[m]=ws.getD m Qp by simp[hm]];rw[JU,xA,if_pos h,if_neg (by decide)]
theorem fW{l:FL}{t:Tx}{n a b:List UInt8}(h:xZ l t≠0):J0 l t n a b=xZ l t∧VF l t n a b=[]:=by
 have e:J0 l t n a b=xZ l t:=by rw[J0,if_neg h]
 exact⟨e,by rw[VF,e,if_neg h]⟩
theorem Lx{l:FL}{t:Tx}{n a b:List UInt8}(h:xZ l t=0)(h1:Z9 l n a b≠0):J0 l t n a b=Z9 l n a b∧VF l t n a b=[]:=by
 obtain⟨j,k⟩:=Cr h;have f:=(Xc l).2 j;have e:J0 l t n a b=Z9 l n a b:=by(have g:Z9 l n a b=if Qt n.length=0then(if Qn a.length=0then Qn b.length else Qn a.length)else Qt n.length:=by rw[Z9,qD,if_pos f];by_cases c:Qt n.length=0;(·rw[if_pos c,if_pos c,Ya,Xh,if_pos ((Y1 _).2 (Y0 j n))]);·rw[if_neg c,if_neg c]);rw[J0,if_pos h,g];by_cases c:Qt n.length=0;(·rw[if_pos c,if_pos c];by_cases d:Qn a.length=0;(·rw[if_pos d,if_pos d];by_cases i:Qn b.length=0;(·rw[g,if_pos c,if_pos d]at h1;exact absurd i h1);·rw[if_neg i]);·rw[if_neg d,if_neg d]);·rw[if_neg c,if_neg c]
 exact⟨e,by rw[VF,e,if_neg h1]⟩
theorem SD{l:FL}{t:Tx}{n a b:List UInt8}(h:xZ l t=0)(h1:Z9 l n a b=0):JU n a b (Xo l n a b) t.writes=(J0 l t n a b,VF l t n a b)∧ZG (Xo l n a b):=by
 obtain⟨g,p⟩:=Cr h;have o:=(Xc l).2 g;have c:qD l n=0:=by by_cases c:qD l n=0;(·exact c);·rw[Z9,if_neg c]at h1;exact absurd h1 c
 have d:Ya (XT l n) a b=0:=by rw[Z9,if_pos c]at h1;exact h1
 have i:=Sb d;have m:Qn b.length=0:=by rw[Ya,if_pos i]at d;exact d
 have k:Qn a.length=0:=(Zf _).2 (bX i);have f:Qt n.length=0:=(Zm _).2 (zV c).2;have e:Xo l n a b=Z4 (XT l n) a b:=by rw[Xo,if_pos c,Kf,if_pos d]
 have j:J0 l t n a b=xA n a b (Z4 (XT l n) a b) t.writes:=by rw[J0,if_pos h,if_pos f,if_pos k,if_pos m]
 refine⟨?_,by rw[e];exact Ck (Y0 g n) a b⟩;rw[e,JU,VF,j]
def Ob:Prop:=∀(w:L)(v:N)(t:Tx),qR w v t->yS t->rC tC 81 #[v] w fun e w'=>e=tI (tE tF (GN t))∧Y w w' M
def aH:Prop:=∀(w:L)(v:N)(l:PL),Qo w v l->vO l->rC tC 37 #[v] w fun e w'=>e=tI (tE tF (QC l))∧Y w w' M
theorem Tu{w:L}{o:rO}{a:Act}{K:Act->L->Prop}{Q:Exit->Act->L->Prop}(s x:rM)(ho:o.op=.call {callee:=.builtin .append,args:=#[s,x],argTypes:=#[47,47]})(rb base:Nat)(hrb:base<=rb)(v:N)(l:PL)(hs:a.eval s=v)(hown:KR rb base w v l)(vk vv:N)(p:Pr)(hk:Qf base w vk p.1)(hv:Qf base w vv p.2)(nb:Nat)(hb:w.heap[nb]?=O (tD #[vk,vv] 50))(hx:a.eval x=S (O ⟨nb,0,M⟩) 1 1)(hl:(l.length+1)*48<=140737488355328)(hbase:rb<=w.heap.size)(h:∀v' w',KR rb base w' v' (l++[p])->Y w w' v.ownBlock->K (a.put o.dst v') w'):o.wp tC a w K Q:=by
 obtain⟨z,f,j,k,m⟩:=r8 Bu;have b:=hown.row hrb;obtain⟨r,e,y,n⟩:=hown;refine wp_append_lies w s x 47 ho rb 50 z (sY #[S M 0 0,S M 0 0]) 2 48 Tryz.underlying47 f j k m rfl (by decide) v l.length (flat r) hs y ⟨nb,0,M⟩ 1 1 (flat [(vk,vv)]) hx rfl (rG (cs:=#[vk,vv]) hb) ?_ (by omega) (by unfold pN;omega) hl hbase _ rfl ?_;·intro u q;simp only[flat,tU,rJ,tY,tP,tT,or_false]at q;rcases q with rfl|rfl;(·exact Q7 hk);·exact Q7 hv
 ·intro g cap w' t d _ _;refine h _ w' ⟨r++[(vk,vv)],by simp[e],?_,?_⟩ d;(·rw[Kj,tH];exact t);·intro i f;rw[Ju,Ju,e];by_cases c:i<l.length;(·rw[if_pos c,if_pos c];exact⟨(n i c).1.kept d b,(n i c).2.kept d b⟩);·rw[if_neg c,if_neg c];(obtain rfl:i=l.length:=by simp at f;omega);rw[Nat.sub_self];exact⟨hk.kept d b,hv.kept d b⟩
theorem GI{w:L}{ops:Array rO}{o:rO}{a:Act}{K:Act->L->Prop}{Q:Exit->Act->L->Prop}{E:Prop}(hgd:o.guard=M)(s x:rM)(ho:o.op=.call {callee:=.builtin .append,args:=#[s,x],argTypes:=#[47,47]})(rb base:Nat)(hrb:base<=rb)(v:N)(l:PL)(hs:a.eval s=v)(hown:KR rb base w v l)(vk vv:N)(p:Pr)(hk:Qf base w vk p.1)(hv:Qf base w vv p.2)(nb:Nat)(hb:w.heap[nb]?=O (tD #[vk,vv] 50))(hx:a.eval x=S (O ⟨nb,0,M⟩) 1 1)(hl:(l.length+1)*48<=140737488355328)(hbase:rb<=w.heap.size)(h:∀v' w',KR rb base w' v' (l++[p])->Y w w' v.ownBlock->K (a.put o.dst v') w'):if sM o (pG ops a.tmps)=tB then Oper.wp tC o a w K Q else E:=by
 have b:sM o (pG ops a.tmps)=tB:=by simp[sM,hgd]
 rw[if_pos b];exact Tu s x ho rb base hrb v l hs hown vk vv p hk hv nb hb hx hl hbase h
theorem EB(w:L):(sizeOf (tC.elem 47)).run tC w=.ok 2 w:=by
 kernel_rfl
theorem Qo.sliced{w:L}{a:Option rK}{cap:Nat}{l:PL}(h:Qo w (S a l.length cap) l)(i j:Nat)(hij:i<=j)(hj:j<=l.length):Qo w (sZ a i j cap 2) ((l.take j).drop i):=by
 obtain⟨m,f,e,n,h⟩:=h;simp only[tL,true_and]at e;obtain⟨rfl,rfl⟩:=e;have c:((l.take j).drop i).length=j-i:=by simp;omega
 refine⟨if cap=i then a else a.map (·.add (i*2)),cap-i,by rw[c];rfl,by rw[c];omega,?_⟩;by_cases d:cap=i;·left;exact⟨tN (by rw[c];omega),fun _=>by omega⟩
 ·rw[if_neg d];rcases h with⟨rfl,h⟩|⟨b,o,rfl,h⟩;(·left;refine⟨by simp,fun e=>?_⟩;cases a with|none=>have:=h rfl;simp at hj;omega|some x=>cases e);·right;refine⟨b,o+i*2,by simp[ZS],fun k g=>?_⟩;rw[c]at g;have:=h (i+k) (by omega);(have e:((l.take j).drop i).getD k ([],[])=l.getD (i+k) ([],[]):=by simp[show i+k<j by omega]);rw[e,show o+i*2+k*2=o+(i+k)*2by omega];exact this
theorem Pz(a:Option rK)(cap:Nat)(l:PL)(n:Nat)(hn:n<=l.length)(hc:l.length<=cap):∃a1 c1,(∀W,(rY 47 (S a l.length cap) M (O (tE tF (n:Int))) M).run tC W=.ok (S a1 n c1) W)∧∀W,Qo W (S a l.length cap) l->Qo W (S a1 n c1) (l.take n):=by
 refine⟨if cap=0then a else a.map (·.add (0*2)),cap-0,fun W=>?_,fun W h=>?_⟩;·rw[run_slice_h _ _ _ _ _ (by kernel_rfl) _ _ (by omega) (by omega),EB];simp only[rP,sZ,sH,pL]
 ·have:=h.sliced 0 n (by omega) hn;simpa only[sZ,List.drop_zero,pL]using this
theorem PX(a:Option rK)(cap:Nat)(l:PL)(n:Nat)(hn:n<=l.length):∃a1 c1,(∀W,(rY 47 (S a l.length cap) (O (tE tF (n:Int))) M M).run tC W=.ok (S a1 (l.length-n) c1) W)∧∀W,Qo W (S a l.length cap) l->Qo W (S a1 (l.length-n) c1) (l.drop n):=by
 refine⟨if cap=n then a else a.map (·.add (n*2)),cap-n,fun W=>?_,fun W h=>?_⟩;·rw[run_slice_l _ _ _ _ _ (by kernel_rfl) _ _ (by omega) (by omega),EB];simp only[rP,sZ,sH]
 ·have:=h.sliced n l.length hn (sG _);simpa only[sZ,sL]using this
theorem MP(a:Option rK)(cap:Nat)(l:PL)(i j:Nat)(hij:i<=j)(hj:j<=l.length)(hc:l.length<=cap):∃a1 c1,(∀W,(rY 47 (S a l.length cap) (O (tE tF (i:Int))) (O (tE tF (j:Int))) M).run tC W=.ok (S a1 (j-i) c1) W)∧∀W,Qo W (S a l.length cap) l->Qo W (S a1 (j-i) c1) ((l.take j).drop i):=by
 refine⟨if cap=i then a else a.map (·.add (i*2)),cap-i,fun W=>?_,fun W h=>?_⟩;·rw[run_slice_lh _ _ _ _ _ (by kernel_rfl) _ _ _ _ (by omega) (by omega) (by omega),EB];simp only[rP,sZ,sH]
 ·have:=h.sliced i j hij hj;simpa only[sZ]using this
theorem Qo.cap{w:L}{a:Option rK}{n cap:Nat}{l:PL}(h:Qo w (S a n cap) l):l.length<=cap:=by
 obtain⟨d,b,e,c,_⟩:=h;simp only[tL]at e;obtain⟨_,_,rfl⟩:=e;exact c
def dO:Prop:=∀(w:L)(v:N)(l:FL),ZD w v l->VS l->rC tC 32 #[v] w fun e w'=>e=tI (tE tF (Q5 l))∧Y w w' M
def Cs:Prop:=∀(w:L)(v u:N)(l:FL)(ws:List Q9),ZD w v l->QO w u ws->VS l->vS ws->rC tC 86 #[v,u] w fun e w'=>∃x,e=tI (sK #[x,tE tF (QR l ws)])∧ZD w' x (Xk l ws)∧Y w w' M
theorem ZI.down{base:Nat}{w:L}{v:N}{l:FL}(h:ZI base w v l)(b2:Nat)(hb:b2<=base):ZI b2 w v l:=by
 obtain⟨i,d,c,f⟩:=h;refine⟨i,d,⟨c.1,?_⟩,f⟩;rcases c.2with h|⟨g,cap,a,e,b,rest⟩;·exact .inl h
 ·exact .inr ⟨g,cap,a,e,tV hb b,rest⟩
def jT:Prop:=∀(w:L)(v u:N)(l:FL)(ws:List Q9),ZD w v l->QO w u ws->VS l->vS ws->rC tC 86 #[v,u] w fun e w'=>∃x,e=tI (sK #[x,tE tF (QR l ws)])∧ZI w.heap.size w' x (Xk l ws)∧Y w w' M
theorem jT.ok(h:jT):Cs:=fun w v u l i a b c d=>(h w v u l i a b c d).mono (by
 rintro e j⟨x,rfl,g,f⟩;exact⟨x,rfl,g.list,f⟩)
theorem z9(w:L)(b i:Nat)(u:N):∃W:L,Hid (W=tJ w ⟨b,i,M⟩ u)∧Y w W (O b):=⟨_,rfl,YW w b i u⟩
theorem xP{w:L}{ops:Array rO}{o:rO}{a:Act}{K:Act->L->Prop}{Q:Exit->Act->L->Prop}{E:Prop}(hgd:o.guard=M)(s x:rM)(ho:o.op=.call {callee:=.builtin .append,args:=#[s,x],argTypes:=#[83,83]})(rb:Nat)(v:N)(l:List Q9)(hs:a.eval s=v)(hown:QY rb 0 w v l)(vn vk vv:N)(p:Q9)(h1:Qf 0 w vn p.name)(h2:Qf 0 w vk p.key)(h3:Qf 0 w vv p.value)(nb:Nat)(hb:w.heap[nb]?=O (tD #[vn,vk,tS p.gone,vv] 146))(hx:a.eval x=S (O ⟨nb,0,M⟩) 1 1)(hl:(l.length+1)*80<=140737488355328)(hbase:rb<=w.heap.size)(h:∀v' w',QY rb 0 w' v' (l++[p])->Y w w' v.ownBlock->K (a.put o.dst v') w'):if sM o (pG ops a.tmps)=tB then Oper.wp tC o a w K Q else E:=by
 have C:sM o (pG ops a.tmps)=tB:=by simp[sM,hgd]
 rw[if_pos C];obtain⟨D,A,m,n,q⟩:=r8 eG;have b:v.ownBlock=M∨∃g d t i,v.ownBlock=O g∧0<=g∧w.heap[g]?=O (tD d t i)∧t≠5:=by rcases hown.row with h|⟨g,d,i,e,_,h⟩;(·exact .inl h);·exact .inr ⟨g,d,_,i,e,tW _,h,vN⟩
 obtain⟨z,k,B,j⟩:=hown;refine wp_append_lies w s x 83 ho rb 146 D (sY #[S M 0 0,S M 0 0,tS tA,S M 0 0]) 4 80 Tryz.underlying83 A m n q rfl (by decide) v l.length (Ji z) hs B ⟨nb,0,M⟩ 1 1 (Ji [(p,vn,vk,vv)]) hx rfl (rG (cs:=#[vn,vk,tS p.gone,vv]) hb) ?_ (by omega) (by unfold pN;omega) hl hbase _ rfl ?_;·intro u r;simp only[Ji,tU,rJ,tY,tP,tT,or_false]at r;rcases r with rfl|rfl|rfl|rfl;(·exact Q7 h1);(·exact Q7 h2);(·rfl);·exact Q7 h3
 ·intro g cap w' F f _ _;refine h _ w' ⟨z++[(p,vn,vk,vv)],by simp[k],?_,?_⟩ f;(·rw[v8,tH];exact F);·intro y c;rcases sF.1 c with c|c;(·exact⟨(j y c).1.keptT f b,(j y c).2.1.keptT f b,(j y c).2.2.keptT f b⟩);·simp only[tP,tT,or_false]at c;subst c;exact⟨h1.keptT f b,h2.keptT f b,h3.keptT f b⟩
theorem jE{w:L}{ops:Array rO}{o:rO}{a:Act}{K:Act->L->Prop}{Q:Exit->Act->L->Prop}{E:Prop}(hgd:o.guard=M)(s x:rM)(ho:o.op=.call {callee:=.builtin .append,args:=#[s,x],argTypes:=#[82,82]})(rb:Nat)(v:N)(l:List Rd)(hs:a.eval s=v)(hown:ZP rb 0 w v l)(vn vk vv:N)(p:Rd)(h1:Qf 0 w vn p.name)(h2:Qf 0 w vk p.key)(h3:Qf 0 w vv p.last)(nb:Nat)(hb:w.heap[nb]?=O (tD #[vn,vk,tS p.wide,vv] 162))(hx:a.eval x=S (O ⟨nb,0,M⟩) 1 1)(hl:(l.length+1)*80<=140737488355328)(hbase:rb<=w.heap.size)(h:∀v' w',ZP rb 0 w' v' (l++[p])->Y w w' v.ownBlock->K (a.put o.dst v') w'):if sM o (pG ops a.tmps)=tB then Oper.wp tC o a w K Q else E:=by
 have C:sM o (pG ops a.tmps)=tB:=by simp[sM,hgd]
 rw[if_pos C];obtain⟨D,A,m,n,q⟩:=r8 mM;have b:v.ownBlock=M∨∃g d t i,v.ownBlock=O g∧0<=g∧w.heap[g]?=O (tD d t i)∧t≠5:=by rcases hown.row with h|⟨g,d,i,e,_,h⟩;(·exact .inl h);·exact .inr ⟨g,d,_,i,e,tW _,h,mO⟩
 obtain⟨z,k,B,j⟩:=hown;refine wp_append_lies w s x 82 ho rb 162 D (sY #[S M 0 0,S M 0 0,tS tA,S M 0 0]) 4 80 Tryz.underlying82 A m n q rfl (by decide) v l.length (GU z) hs B ⟨nb,0,M⟩ 1 1 (GU [(p,vn,vk,vv)]) hx rfl (rG (cs:=#[vn,vk,tS p.wide,vv]) hb) ?_ (by omega) (by unfold pN;omega) hl hbase _ rfl ?_;·intro u r;simp only[GU,tU,rJ,tY,tP,tT,or_false]at r;rcases r with rfl|rfl|rfl|rfl;(·exact Q7 h1);(·exact Q7 h2);(·rfl);·exact Q7 h3
 ·intro g cap w' F f _ _;refine h _ w' ⟨z++[(p,vn,vk,vv)],by simp[k],?_,?_⟩ f;(·rw[M4,tH];exact F);·intro y c;rcases sF.1 c with c|c;(·exact⟨(j y c).1.keptT f b,(j y c).2.1.keptT f b,(j y c).2.2.keptT f b⟩);·simp only[tP,tT,or_false]at c;subst c;exact⟨h1.keptT f b,h2.keptT f b,h3.keptT f b⟩
def dZ:Prop:=∀(w:L)(v:N)(r:Rq),UX w->KQ w v r->jX r->rC tC 77 #[v] w fun e w'=>∃x,e=tI (sK #[x,tE tF (UH r)])∧YE w' x (QV r)∧Y w w' M
def ZY(K:Int)(n q l v:Nat):Nat->Bool|0=>tA|1=>!QQ K 0&&tX (0<n)|2=>(!QQ K 0&&tX (0<n))||(!QQ K 1&&tX (0<q))|3=>((!QQ K 0&&tX (0<n))||(!QQ K 1&&tX (0<q)))||(!QQ K 2&&tX (0<l))|_=>(((!QQ K 0&&tX (0<n))||(!QQ K 1&&tX (0<q)))||(!QQ K 2&&tX (0<l)))||(!QQ K 3&&tX (0<v))
def nV(K:Int)(n q l v:Nat):Int:=if(tX (Qt n≠0)&&QQ K 0)=tB then Qt n else if(tX (Qn q≠0)&&QQ K 1)=tB then Qn q else if(tX (Qn l≠0)&&QQ K 2)=tB then Qn l else if 32<v then 1 else if ZY K n q l v 4=tB then 4 else 0
theorem mK(r:Rq)(hk:1<=r.kind∧r.kind<=8):Yr r=nV r.kind r.name.length r.key.length r.last.length r.value.length:=by
 rw[Yr,if_pos hk];have k:E5 r=if ZY r.kind r.name.length r.key.length r.last.length r.value.length 4=tB then 4 else 0:=by unfold E5;by_cases d:QT r.kind=tA∧0<r.name.length+r.key.length;(·rw[if_pos d,if_pos];by_cases a:0<r.name.length;(·simp[ZY,QQ,d.1,a]);·(have c:0<r.key.length:=by omega);simp[ZY,QQ,d.1,c]);·rw[if_neg d];by_cases a:(r.kind≠3∧0<r.last.length)∨(r.kind≠4∧0<r.value.length);(·rw[if_pos a,if_pos];rcases a with⟨a,c⟩|⟨a,c⟩;(·simp[ZY,QQ,a,c]);·simp[ZY,QQ,a,c]);·rw[if_neg a,if_neg];intro b;simp only[ZY,QQ,Bool.or_eq_true,rI,Bool.not_eq_true',decide_eq_true_iff,decide_eq_false_iff_not]at b;rcases b with((b|b)|b)|b;(·exact d ⟨b.1,by omega⟩);(·exact d ⟨b.1,by omega⟩);(·exact a (.inl b));·exact a (.inr b)
 rw[k];unfold kE nV;generalize ZY r.kind r.name.length r.key.length r.last.length r.value.length 4=B;show _=if(tX (Qt r.name.length≠0)&&QT r.kind)=tB then _ else if(tX (Qn r.key.length≠0)&&QT r.kind)=tB then _ else if(tX (Qn r.last.length≠0)&&tX (r.kind=3))=tB then _ else _;have c:r.kind=3->QT r.kind=tB:=fun h=>by rw[h];decide
 generalize Qt r.name.length=A at*;generalize Qn r.key.length=C at*;generalize Qn r.last.length=D at*;cases hN:QT r.kind with|false=>(have g:¬r.kind=3:=fun h=>by rw[c h]at hN;cases hN);simp[g]|true=>by_cases e:A=0;(·by_cases f:C=0;(·by_cases i:r.kind=3;(·by_cases j:D=0;(·simp[e,f,i,j]);·simp[e,f,i,j]);·simp[e,f,i]);·simp[e,f]);·simp[e]
theorem mB(r:Rq)(hk:¬(1<=r.kind∧r.kind<=8)):Yr r=5:=by
 rw[Yr,if_neg hk]
def WQ:Prop:=∀(w:L)(v u a b:N)(l:FL)(t:Tx)(n k:List UInt8),ZD w v l->VS l->qR w u t->yS t->Qe w a n->Qe w b k->n.length<=140737488355328->k.length<=140737488355328->rC tC 66 #[v,u,a,b] w fun e w'=>∃x,e=tI (sK #[sY #[tS (UW l t n k),x],tS (Vw l t n k),tE tF (KV l t n k)])∧Qf 0 w' x (UB l t n k)∧Y w w' M
def lX:Prop:=∀(w:L)(v r u:N)(l:FL)(n k:List UInt8),ZD w v l->Qe w r n->Qe w u k->VS l->n.length<=140737488355328->k.length<=140737488355328->rC tC 12 #[v,r,u] w fun e w'=>∃x,e=tI (sK #[sY #[tS (Y8 l n k),x],tE tF (JZ l n k)])∧Qe w' x (Ja l n k)∧Y w w' M
theorem XZ{w:L}{b:Nat}{x y:N}{t:sE}(h:w.heap[b]?=O (tD #[x,y] t)):w.cell? ⟨b,0,M⟩=O x∧w.cell? ⟨b,1,M⟩=O y∧w.frozen? ⟨b,0,M⟩=tA∧w.frozen? ⟨b,1,M⟩=tA:=by
 refine⟨?_,?_,?_,?_⟩<;>simp[sB,pA,h]
section
variable{D:List UInt8->List UInt8}{v u:Sv}
theorem C1(hD:∀x,(D x).length=4)(h:Zu D v)(hs:v.synced=v.commits.length){k:Int}(hk:0<=k):Vh D v k=GC tA v.tape v.commits v.out:=by
 obtain⟨j,c,d,b,_⟩:=zM hD h hk;obtain rfl:j=v.commits.length:=by omega
 rw[b,sL];have a:=h.mark;rw[hs,sL]at a;have:(⟨QZ D v.commits,((QZ D v.commits).length:Int)⟩:GA)=v.tape:=by rw[<-a,<-h.data]
 rw[this]
end
section
variable{D:List UInt8->List UInt8}{v:Sv}
def Zl(s:Nat)(r:Rq):Ac:=⟨1,(s:Int),0,Yj r⟩
def Xv:Ac:=⟨2,0,0,[]⟩
def YA(k:Int):Rq:=⟨k,[],[],[],[]⟩
theorem JL{s:Nat}(hs:s<=7){r:Rq}(hr:Yb r):Z6 (Zl s r):=⟨⟨(by
 decide:(1:Int)<=1),(by
 decide:(1:Int)<=4)⟩,fun _=>⟨Int.natCast_nonneg _,by
 show(s:Int)<=7;omega⟩,(fun h=>by
 cases h),(by
 have:=(vQ hr).1;show(Yj r).length<=4000;omega),(fun h=>absurd rfl h),(fun _=>rfl),(fun h=>absurd rfl h)⟩
theorem Fc:Z6 Xv:=⟨⟨by
 decide,by
 decide⟩,(fun h=>by
 cases h),(fun h=>by
 cases h),(by
 decide),(fun _=>rfl),(fun _=>rfl),(fun _=>rfl)⟩
theorem jZ(v:Sv)(s:Nat){r:Rq}(hr:Yb r):ZK D v (Zl s r)=if v.up=tA then Xn v (xK s 13)else VZ D v s r:=by
 show(if(1:Int)=1then UD D v (s:Int).toNat (Yj r)else _)=_;rw[if_pos rfl,sH,UD,(qW hr).1,(qW hr).2,if_pos rfl]
theorem Bq(v:Sv):ZK D v Xv=if v.up=tB then VN v else v:=by
 show(if(2:Int)=1then _ else if(2:Int)=2then _ else _)=_;rw[if_neg (by decide),if_pos rfl]
theorem MZ(v:Sv)(s:Nat){r:Rq}(hr:Yb r)(hk:r.kind≠6):eX s v (ZK D v (Zl s r)):=by
 have e:ZK D v (Zl s r)=UD D v s (Yj r):=by show(if(1:Int)=1then UD D v (s:Int).toNat (Yj r)else _)=_;rw[if_pos rfl,sH]
 rw[e];rcases P9 D v s (Yj r)with h|⟨_,_,h,_⟩;·exact h
 ·rw[(qW hr).2]at h;exact absurd h hk
theorem Mw(s:Nat):∀(l:List Rq)(v:Sv),(∀r∈l,Yb r∧r.kind≠6)->Same v ((l.map (Zl s)).foldl (ZK D) v)∧((l.map (Zl s)).foldl (ZK D) v).out.length=v.out.length+l.length|[],v,_=>⟨Same.rfl,rfl⟩|r::l,v,h=>by rw[pJ,sO];have a:=MZ (D:=D) v s (h r tR).1 (h r tR).2;obtain⟨b,c⟩:=Mw s l (ZK D v (Zl s r)) (fun x e=>h x (tQ _ e));obtain⟨p,d,_⟩:=a.out;refine⟨a.toSame.trans b,?_⟩;rw[c,d,tH,tZ,tZ,pO];omega
structure xN (s n : Nat) (v : Sv) : Prop where
  up : v.up = tB
  begun : v.begun s = tB
  waits : v.waits s = tA
  txn : (v.txns s).start = (n : Int) ∧ (v.txns s).writes = []
  synced : v.synced = n
theorem C0(n:Nat):JI (n:Int) (n:Int)=tB:=by
 rw[JI,decide_eq_true_iff];omega
theorem K5{k:Int}(h:k=1∨k=6∨k=7):Yb (YA k):=by
 have a:QT k=tA:=by rcases h with h|h|h<;>subst h<;>decide
 exact⟨by rcases h with h|h|h<;>subst h<;>decide,(fun e=>by rw[show(YA k).kind=k from rfl,a]at e;cases e),(fun e=>by rw[show(YA k).kind=k from rfl,a]at e;cases e),(fun e=>by have:k=3:=e;omega),(by decide:(0:Nat)<=32),fun _=>rfl,fun _=>rfl,fun _=>rfl,fun _=>rfl⟩
theorem L9{s:Nat}(hu:v.up=tB)(hw:v.waits s=tA):xN s v.synced ([Zl s (YA 7),Zl s (YA 1)].foldl (ZK D) v)∧Same v ([Zl s (YA 7),Zl s (YA 1)].foldl (ZK D) v):=by
 have b:∃u,ZK D v (Zl s (YA 7))=u∧Same v u∧u.begun s=tA:=by refine⟨_,rfl,?_⟩;rw[jZ v s (K5 (.inr (.inr rfl))),if_neg (by simp[hu]),VZ,if_neg (by decide:¬(YA 7).kind=8)];unfold Zs;rw[hw,pS,if_neg (by decide:¬(YA 7).kind=1)];by_cases c:v.begun s=tB;(·rw[if_neg (by simp[c]),if_neg (by decide:¬(YA 7).kind=1),if_pos (show(YA 7).kind=7from rfl)];exact⟨⟨rfl,rfl,rfl,rfl,rfl,rfl⟩,ZA _ _ _⟩);·rw[if_pos (by simp[c])];exact⟨⟨rfl,rfl,rfl,rfl,rfl,rfl⟩,(by simpa using c:v.begun s=tA)⟩
 obtain⟨u,b,a,d⟩:=b;rw[sO,sO,List.foldl_nil,b,jZ u s (K5 (.inl rfl)),if_neg (by simp[a.up,hu]),VZ,if_neg (by decide:¬(YA 1).kind=8)];unfold Zs;rw[a.waits,hw,pS,if_pos (show(YA 1).kind=1from rfl),d,if_neg (by decide),if_pos (show(YA 1).kind=1from rfl)];refine⟨⟨a.up.trans hu,ZA _ _ _,?_,?_,a.synced⟩,⟨a.up,a.tape,a.commits,a.synced,rfl,a.queue⟩⟩;·exact hw
 ·show(UC u.txns s _ s).start=_∧(UC u.txns s _ s).writes=[];rw[ZA,a.synced];exact⟨rfl,rfl⟩
theorem Bj{t:Tx}{x:Rd}(h:Z7 t x=0):(XF t x).start=t.start∧(XF t x).writes=t.writes:=by
 refine⟨z8 h,?_⟩;unfold XF;rw[if_pos h];split<;>rfl
theorem RI{s n:Nat}(h:xN s n v)(x:Rd)(o:Rp):xN s n (KM v s x o):=by
 unfold KM;split;·have k:=Bj (by assumption:Z7 (v.txns s) x=0);refine⟨h.up,h.begun,h.waits,?_,h.synced⟩;show(UC v.txns s _ s).start=_∧(UC v.txns s _ s).writes=[];rw[ZA,k.1,k.2];exact h.txn
 ·exact⟨h.up,h.begun,h.waits,h.txn,h.synced⟩
theorem uZ{s n:Nat}(h:xN s n v)(r:Rp):xN s n (Xn v r):=⟨h.up,h.begun,h.waits,h.txn,h.synced⟩
theorem RH{s n:Nat}(h:xN s n v){r:Rq}(hr:Yb r)(hk:r.kind=2∨r.kind=3∨r.kind=8):xN s n (ZK D v (Zl s r)):=by
 rw[jZ v s hr,if_neg (by simp[h.up]),VZ];by_cases a:r.kind=8;·rw[if_pos a];exact uZ h _
 ·(have b:Zs v s r=tA:=by unfold Zs;rw[h.waits,if_neg (by omega),h.begun];rfl);rw[if_neg a,b,if_neg (by decide),if_neg (by omega),if_neg (by omega),h.txn.1,h.synced,C0,if_neg (by decide),if_neg (by omega),jK,if_neg (by omega)];split;(·unfold Nb;split;(·exact uZ h _);·exact RI h _ _);·unfold uG;split;(·exact RI h _ _);·exact uZ h _
theorem FZ{s n:Nat}:∀(l:List Rq)(v:Sv),xN s n v->(∀r∈l,Yb r∧(r.kind=2∨r.kind=3∨r.kind=8))->xN s n ((l.map (Zl s)).foldl (ZK D) v)|[],_,h,_=>h|r::l,v,h,hl=>by rw[pJ,sO];exact FZ l _ (RH h (hl r tR).1 (hl r tR).2) (fun x a=>hl x (tQ _ a))
end
section
structure Se where
  begun : Bool
  start : Int
  writes : List Q9
structure Md where
  ses : Nat -> Se
  states : List FL
variable{D:List UInt8->List UInt8}{v:Sv}{m:Md}
theorem VG(v:Sv)(n:Nat):Zk (Qy v n):=JE _ _ JA
end
section
variable{D:List UInt8->List UInt8}{v:Sv}{m:Md}
theorem Vz{r:Rq}(hr:Yb r)(hk:r.kind=2∨r.kind=3):(1<=r.name.length∧r.name.length<=8)∧(1<=r.key.length∧r.key.length<=16):=by
 have:QT r.kind=tB:=by rcases hk with e|e<;>rw[e]<;>decide
 exact⟨hr.name this,hr.key this⟩
end
def Oe:Prop:=∀(w:L)(v u:N)(t:Tx)(l:List Xx),qR w v t->yS t->Jm w u l->Ss l->rC tC 85 #[v,u] w fun e w'=>e=tI (sK #[tS (KS t l),tE tF (Rj t)])∧Y w w' M
def iM:Prop:=∀(w:L)(v:N)(c:Xx),Ko w v c->Mx c->rC tC 109 #[v] w fun e w'=>∃x,e=tI (sK #[x,tE tF (Zb c)])∧Qe w' x (Rr c)∧Y w w' M
def WO:Prop:=∀(w:L)(v:N)(c:Xx),Ko w v c->Mx c->rC tC 114 #[v] w fun e w'=>e=tI (tE tF (Zb c))∧Y w w' M
theorem Re(w:L):(sizeOf (tC.elem 32)).run tC w=.ok 1 w:=by
 kernel_rfl
theorem Qe.cap{w:L}{a:Option rK}{n cap:Nat}{bs:List UInt8}(h:Qe w (S a n cap) bs):bs.length<=cap∧n=bs.length:=by
 obtain⟨d,b,e,c,_⟩:=h;simp only[tL]at e;obtain⟨_,rfl,rfl⟩:=e;exact⟨c,rfl⟩
theorem Qe.byte{w:L}{a:Option rK}{n cap:Nat}{bs:List UInt8}(h:Qe w (S a n cap) bs)(i:Nat)(hi:i<bs.length):∃b o,a=O ⟨b,o,M⟩∧Ub w b o bs:=by
 obtain⟨d,c,e,f,h⟩:=h;simp only[tL]at e;obtain⟨rfl,rfl,rfl⟩:=e;rcases h with⟨rfl,_⟩|⟨b,o,rfl,h⟩;·simp at hi
 ·exact⟨b,o,rfl,h⟩
theorem Qe.sliced{w:L}{a:Option rK}{cap:Nat}{l:List UInt8}(h:Qe w (S a l.length cap) l)(i j:Nat)(hij:i<=j)(hj:j<=l.length):Qe w (sZ a i j cap 1) ((l.take j).drop i):=by
 obtain⟨m,f,e,n,h⟩:=h;simp only[tL,true_and]at e;obtain⟨rfl,rfl⟩:=e;have c:((l.take j).drop i).length=j-i:=by simp;omega
 refine⟨if cap=i then a else a.map (·.add (i*1)),cap-i,by rw[c];rfl,by rw[c];omega,?_⟩;by_cases d:cap=i;·left;exact⟨tN (by rw[c];omega),fun _=>by omega⟩
 ·rw[if_neg d];rcases h with⟨rfl,h⟩|⟨b,o,rfl,h⟩;(·left;refine⟨by simp,fun e=>?_⟩;cases a with|none=>have:=h rfl;simp at hj;omega|some x=>cases e);·right;refine⟨b,o+i,by simp[ZS],fun k g=>?_⟩;rw[c]at g;have:=h (i+k) (by omega);(have e:((l.take j).drop i).getD k 0=l.getD (i+k) 0:=by simp[show i+k<j by omega]);rw[e,show o+i+k=o+(i+k)by omega];exact this
theorem yM(a:Option rK)(cap:Nat)(l:List UInt8)(n:Nat)(hn:n<=l.length)(hc:l.length<=cap):∃a1 c1,(∀W,(rY 32 (S a l.length cap) M (O (tE tF (n:Int))) M).run tC W=.ok (S a1 n c1) W)∧∀W,Qe W (S a l.length cap) l->Qe W (S a1 n c1) (l.take n):=by
 refine⟨if cap=0then a else a.map (·.add (0*1)),cap-0,fun W=>?_,fun W h=>?_⟩;·rw[run_slice_h _ _ _ _ _ (by kernel_rfl) _ _ (by omega) (by omega),Re];simp only[rP,sZ,sH,pL]
 ·have:=h.sliced 0 n (by omega) hn;simpa only[sZ,List.drop_zero,pL]using this
theorem qL(a:Option rK)(cap:Nat)(l:List UInt8)(i j:Nat)(hij:i<=j)(hj:j<=l.length)(hc:l.length<=cap):∃a1 c1,(∀W,(rY 32 (S a l.length cap) (O (tE tF (i:Int))) (O (tE tF (j:Int))) M).run tC W=.ok (S a1 (j-i) c1) W)∧∀W,Qe W (S a l.length cap) l->Qe W (S a1 (j-i) c1) ((l.take j).drop i):=by
 refine⟨if cap=i then a else a.map (·.add (i*1)),cap-i,fun W=>?_,fun W h=>?_⟩;·rw[run_slice_lh _ _ _ _ _ (by kernel_rfl) _ _ _ _ (by omega) (by omega) (by omega),Re];simp only[rP,sZ,sH]
 ·have:=h.sliced i j hij hj;simpa only[sZ]using this
theorem Gp(a:Option rK)(cap:Nat)(l:List UInt8)(n:Nat)(hn:n<=l.length):∃a1 c1,(∀W,(rY 32 (S a l.length cap) (O (tE tF (n:Int))) M M).run tC W=.ok (S a1 (l.length-n) c1) W)∧∀W,Qe W (S a l.length cap) l->Qe W (S a1 (l.length-n) c1) (l.drop n):=by
 refine⟨if cap=n then a else a.map (·.add (n*1)),cap-n,fun W=>?_,fun W h=>?_⟩;·rw[run_slice_l _ _ _ _ _ (by kernel_rfl) _ _ (by omega) (by omega),Re];simp only[rP,sZ,sH]
 ·have:=h.sliced n l.length hn (sG _);simpa only[sZ,sL]using this
theorem Bc{ws:List Q9}(hn:ws.length<=1000)(h:∀w∈ws,Qz w=0):vS ws:=⟨by
 omega,fun j b=>by
 have a:=h ws[j] (sP b);rw[show ws[j]=ws.getD j Qp by simp[b]]at a;have c:=(XD _).1 a;have d:(ws.getD j Qp).value.length<=32:=by have:=c.2.2;split at this;(·rw[this];simp);·exact this
 exact⟨by omega,by omega,by omega⟩⟩
theorem Cf{c:Xx}(h:Zb c=0):Mx c:=by
 obtain⟨b,d,a⟩:=(Uf c).1 h;exact⟨by omega,Bc (by omega) a⟩
def OD:Prop:=∀(w:L)(v u a b c:N)(l:FL)(t:Tx)(n k m:List UInt8),ZD w v l->VS l->qR w u t->yS t->Qe w a n->Qe w b k->Qe w c m->n.length<=140737488355328->k.length<=140737488355328->m.length<=140737488355328->rC tC 68 #[v,u,a,b,c] w fun e w'=>∃x,e=tI (sK #[x,tE tF (J0 l t n k m)])∧QK 0 w' x (VF l t n k m)∧Y w w' M
def aC:Prop:=∀(w:L)(v u x:N)(l:PL)(f t:List UInt8),Qo w v l->Qe w u f->Qe w x t->vO l->f.length<=140737488355328->t.length<=140737488355328->rC tC 23 #[v,u,x] w fun e w'=>∃y,e=tI (sK #[y,tE tF (Ya l f t)])∧QK 0 w' y (Kf l f t)∧Y w w' M
def AH:Prop:=∀(w:L)(v r u t:N)(l:FL)(n k m:List UInt8),ZD w v l->Qe w r n->Qe w u k->Qe w t m->VS l->n.length<=140737488355328->k.length<=140737488355328->m.length<=140737488355328->rC tC 13 #[v,r,u,t] w fun e w'=>∃x,e=tI (sK #[x,tE tF (Z9 l n k m)])∧Qo w' x (Xo l n k m)∧Y w w' M
def FJ:Prop:=∀(w:L)(v r u t:N)(l:FL)(n k m:List UInt8),ZD w v l->Qe w r n->Qe w u k->Qe w t m->VS l->n.length<=140737488355328->k.length<=140737488355328->m.length<=140737488355328->rC tC 13 #[v,r,u,t] w fun e w'=>∃x,e=tI (sK #[x,tE tF (Z9 l n k m)])∧QK 0 w' x (Xo l n k m)∧Y w w' M
theorem FJ.ok(h:FJ):AH:=fun w v r u t l n k m a b c d f g i j=>(h w v r u t l n k m a b c d f g i j).mono (by
 rintro e q⟨x,rfl,p,o⟩;exact⟨x,rfl,p.list,o⟩)
def MS:Prop:=∀(w:L)(v:N)(bs:List UInt8)(i:Int),Qe w v bs->rC tC 127 #[v,tE tF i] w fun e w'=>e=tI (sK #[tS (SI bs i).1,tE tF (SI bs i).2])∧Y w w' M
theorem MS.of(hB:MS)(w:L)(v:N)(k:List UInt8)(i:Nat)(hv:Qe w v k)(hk:1<=k.length∧k.length<=16)(hi:i<145):rC tC 127 #[v,tE tF (i:Int)] w fun e w'=>e=tI (sK #[tS (ZU k i),tE tF 0])∧Y w w' M:=by
 have:=hB w v k i hv;rw[gF k i hk hi]at this;exact this
def EQ:Prop:=∀(w:L)(v u:N)(a b:List UInt8),Qe w v a->Qe w u b->rC tC 138 #[v,u] w fun e w'=>e=tI (sK #[tE tF (TY a b).1,tE tF (TY a b).2])∧Y w w' M
theorem EQ.of(hP:EQ)(w:L)(v u:N)(a b:List UInt8)(hv:Qe w v a)(hu:Qe w u b)(ha:1<=a.length∧a.length<=16)(hb:1<=b.length∧b.length<=16):rC tC 138 #[v,u] w fun e w'=>e=tI (sK #[tE tF (J6 a b),tE tF 0])∧Y w w' M:=by
 have:=hP w v u a b hv hu;rw[cR a b ha hb]at this;exact this
def LU:Prop:=∀(w:L)(v u:N)(t:Tx)(r:Q9),qR w v t->yS t->Xg w u r->Y5 r->rC tC 70 #[v,u] w fun e w'=>∃x,e=tI (sK #[x,tE tF (Xe t r)])∧qM w' x (Yq t r)∧Y w w' M
def Ia:Prop:=∀(w:L)(v:N)(r:Rq),UX w->KQ w v r->jX r->rC tC 69 #[v] w fun e w'=>∃x,e=tI (sK #[x,tE tF (Jz r)])∧Xg w' x (Xu r)∧Y w w' M
def cS:Prop:=∀(w:L)(n t:Int),-9223372036854775808<=n->n<=9223372036854775807->-9223372036854775808<=t->t<=9223372036854775807->rC tC 65 #[tE tF n,tE tF t] w fun e w'=>e=tI (tS (JI n t))∧Y w w' M
def fR:Prop:=∀(w:L)(v:N)(b:List UInt8),UX w->Qe w v b->b.length<=140737488355328->rC tC 11 #[v] w fun e w'=>∃x,e=tI (sK #[x,tE tF (Xz b)])∧KQ w' x (Xp b)∧Y w w' M
theorem OL(b:List UInt8)(n:Nat)(h:n<b.length):ZC (b.drop n)=if n+1+(b.getD n 0).toNat<=b.length then O ((b.take (n+1+(b.getD n 0).toNat)).drop (n+1),b.drop (n+1+(b.getD n 0).toNat))else M:=by
 rw[rD h,ZC,show b[n]=b.getD n 0 by simp[h],pM];by_cases a:n+1+(b.getD n 0).toNat<=b.length;·rw[if_pos (by omega),if_pos a,List.drop_take,List.drop_drop,Nat.add_sub_cancel_left]
 ·rw[if_neg (by omega),if_neg a]
def Ex(ws:List Q9):Prop:=∀p∈ws,p.name.length<=255∧p.key.length<=255∧p.value.length<=255
theorem Ao{ws:List Q9}{p:Q9}(h:Ex ws)(hp:p.name.length<=255∧p.key.length<=255∧p.value.length<=255):Ex (ws++[p]):=fun q a=>by
 rcases sF.1 a with a|a;·exact h q a
 ·simp only[tP,tT,or_false]at a;rw[a];exact hp
theorem I7{b:List UInt8}(h:4000<b.length):YU b=1∧JT b=Zq:=by
 have:YU b=1:=by rw[YU,if_pos h]
 exact⟨this,by rw[JT,this,if_neg (by decide)]⟩
theorem LQ{b:List UInt8}(h:b.length<4):YU b=14∧JT b=Zq:=by
 have:YU b=14:=by rw[YU,if_neg (by omega),if_pos h]
 exact⟨this,by rw[JT,this,if_neg (by decide)]⟩
theorem Ic{b:List UInt8}(h1:¬4000<b.length)(h2:¬b.length<4)(h:qV b=M):YU b=14∧JT b=Zq:=by
 have:YU b=14:=by rw[YU,if_neg h1,if_neg h2,h]
 exact⟨this,by rw[JT,this,if_neg (by decide)]⟩
theorem WM{b r:List UInt8}{ws:List Q9}(h1:¬4000<b.length)(h2:¬b.length<4)(h:qV b=O (ws,r))(hr:r.length≠0):YU b=4∧JT b=Zq:=by
 have:YU b=4:=by rw[YU,if_neg h1,if_neg h2,h];show(if r.length=0then _ else(4:Int))=4;rw[if_neg hr]
 exact⟨this,by rw[JT,this,if_neg (by decide)]⟩
theorem On{b r:List UInt8}{ws:List Q9}(h1:¬4000<b.length)(h2:¬b.length<4)(h:qV b=O (ws,r))(hr:r.length=0):YU b=Zb ⟨(GD b:Int),ws⟩∧(YU b=0->JT b=⟨(GD b:Int),ws⟩)∧(YU b≠0->JT b=Zq):=by
 have:YU b=Zb ⟨(GD b:Int),ws⟩:=by rw[YU,if_neg h1,if_neg h2,h];show(if r.length=0then _ else(4:Int))=_;rw[if_pos hr]
 refine⟨this,fun a=>?_,fun a=>?_⟩;·rw[JT,if_pos a,h]
 ·rw[JT,if_neg a]
def Xm(k:Int)(m:Nat)(p0 p1 p2 p3 r:List UInt8):Option (Rq×List UInt8):=match m with|0=>Ym k r|1=>VO k p0 r|2=>VR k p0 p1 r|3=>VQ k p0 p1 p2 r|_=>O (⟨k,p0,p1,p2,p3⟩,r)
theorem Kn(r:List UInt8):Jt tB r=ZC r:=rfl
theorem kG(r:List UInt8)(h:r.length=0):ZC r=M:=by
 rw[tN h];rfl
theorem vV(r:List UInt8)(h:0<r.length):ZC r=if 1+(r.getD 0 0).toNat<=r.length then O ((r.take (1+(r.getD 0 0).toNat)).drop 1,r.drop (1+(r.getD 0 0).toNat))else M:=by
 have:=OL r 0 h;rw[sX]at this;exact this
theorem zH(k:Int)(p0 p1 p2 p3 r:List UInt8):(QQ k 0=tA->Xm k 0 p0 p1 p2 p3 r=Xm k 1 [] p1 p2 p3 r)∧(QQ k 1=tA->Xm k 1 p0 p1 p2 p3 r=Xm k 2 p0 [] p2 p3 r)∧(QQ k 2=tA->Xm k 2 p0 p1 p2 p3 r=Xm k 3 p0 p1 [] p3 r)∧(QQ k 3=tA->Xm k 3 p0 p1 p2 p3 r=Xm k 4 p0 p1 p2 [] r):=by
 refine⟨fun h=>?_,fun h=>?_,fun h=>?_,fun h=>?_⟩;·show Ym k r=VO k [] r;rw[Ym,show QT k=tA from h];rfl
 ·show VO k p0 r=VR k p0 [] r;rw[VO,show QT k=tA from h];rfl
 ·show VR k p0 p1 r=VQ k p0 p1 [] r;rw[VR,show tX (k=3)=tA from h];rfl
 ·show VQ k p0 p1 p2 r=O (⟨k,p0,p1,p2,[]⟩,r);rw[VQ,show tX (k=4)=tA from h];rfl
theorem GG(k:Int)(p0 p1 p2 p3 r:List UInt8)(h0:ZC r=M)(m:Nat)(hm:m<4)(h:QQ k m=tB):Xm k m p0 p1 p2 p3 r=M:=by
 match m,hm with|0,_=>show Ym k r=M;rw[Ym,show QT k=tB from h,Kn,h0]|1,_=>show VO k p0 r=M;rw[VO,show QT k=tB from h,Kn,h0]|2,_=>show VR k p0 p1 r=M;rw[VR,show tX (k=3)=tB from h,Kn,h0]|3,_=>show VQ k p0 p1 p2 r=M;rw[VQ,show tX (k=4)=tB from h,Kn,h0]
theorem GH(k:Int)(p0 p1 p2 p3 r p r2:List UInt8)(h0:ZC r=O (p,r2)):(QQ k 0=tB->Xm k 0 p0 p1 p2 p3 r=Xm k 1 p p1 p2 p3 r2)∧(QQ k 1=tB->Xm k 1 p0 p1 p2 p3 r=Xm k 2 p0 p p2 p3 r2)∧(QQ k 2=tB->Xm k 2 p0 p1 p2 p3 r=Xm k 3 p0 p1 p p3 r2)∧(QQ k 3=tB->Xm k 3 p0 p1 p2 p3 r=Xm k 4 p0 p1 p2 p r2):=by
 refine⟨fun h=>?_,fun h=>?_,fun h=>?_,fun h=>?_⟩;·show Ym k r=VO k p r2;rw[Ym,show QT k=tB from h,Kn,h0]
 ·show VO k p0 r=VR k p0 p r2;rw[VO,show QT k=tB from h,Kn,h0]
 ·show VR k p0 p1 r=VQ k p0 p1 p r2;rw[VR,show tX (k=3)=tB from h,Kn,h0]
 ·show VQ k p0 p1 p2 r=O (⟨k,p0,p1,p2,p⟩,r2);rw[VQ,show tX (k=4)=tB from h,Kn,h0]
def Oa(k:Int)(b:List UInt8):Int:=match Ym k b with|none=>14|O (_,x)=>if x.length=0then 0 else 4
def Rs(k:Int)(b:List UInt8):Rq:=match Ym k b with|none=>Zc|O (r,x)=>if x.length=0then r else Zc
theorem TC{k:Int}{b:List UInt8}(h:Ym k b=M):Oa k b=14∧Rs k b=Zc:=by
 unfold Oa Rs;rw[h];exact⟨rfl,rfl⟩
theorem TJ{k:Int}{b x:List UInt8}{r:Rq}(h:Ym k b=O (r,x))(hx:0<x.length):Oa k b=4∧Rs k b=Zc:=by
 unfold Oa Rs;rw[h];exact⟨if_neg (by omega),if_neg (by omega)⟩
theorem Tz{k:Int}{b x:List UInt8}{r:Rq}(h:Ym k b=O (r,x))(hx:x.length=0):Oa k b=0∧Rs k b=r:=by
 unfold Oa Rs;rw[h];exact⟨if_pos hx,if_pos hx⟩
theorem gT{k:Int}{b:List UInt8}(h:Oa k b=0):(Rs k b).kind=k:=by
 match hD:Ym k b with|none=>rw[(TC hD).1]at h;cases h|O (r,x)=>by_cases a:x.length=0;(·rw[(Tz hD a).2];exact(Rn hD).2);·rw[(TJ hD (by omega)).1]at h;cases h
theorem gK{b:List UInt8}(h1:¬4000<b.length)(h2:¬b.length=0)(hk:1<=US b∧US b<=8):Xz b=(if Oa (US b) (b.drop 1)=0then Yr (Rs (US b) (b.drop 1))else Oa (US b) (b.drop 1))∧(Xz b=0->Xp b=Rs (US b) (b.drop 1)):=by
 match hD:Ym (US b) (b.drop 1)with|none=>obtain⟨a,d⟩:=TC hD;(have:Xz b=14:=by rw[Xz,if_neg h1,if_neg h2,if_pos hk,hD]);rw[a,this];exact⟨rfl,fun h=>by cases h⟩|O (r,x)=>(have c:Xz b=if x.length=0then Yr r else 4:=by rw[Xz,if_neg h1,if_neg h2,if_pos hk,hD]);by_cases e:x.length=0;(·obtain⟨a,d⟩:=Tz hD e;rw[if_pos e]at c;rw[a,d,if_pos rfl];exact⟨c,fun h=>by rw[Xp,if_pos h,hD]⟩);·obtain⟨a,d⟩:=TJ hD (by omega);rw[if_neg e]at c;rw[a,c];exact⟨rfl,fun h=>by cases h⟩
theorem fQ{k:Int}{b:List UInt8}(hb:b.length<=4000):(Rs k b).name.length<=4000∧(Rs k b).key.length<=4000∧(Rs k b).last.length<=4000∧(Rs k b).value.length<=4000:=by
 match hD:Ym k b with|none=>rw[(TC hD).2];simp[Zc]|O (r,x)=>by_cases j:x.length=0;(·rw[(Tz hD j).2];obtain⟨_,q,a,s,e,f,g,i⟩:=vJ hD;(have key:∀{c:Bool}{r p a:List UInt8},Jt c r=O (p,a)->p.length<=r.length∧a.length<=r.length:=by intro c r p a h;have d:=Gm h;cases c with|false=>have:=Ok h rfl;subst this;rw[d];exact⟨tW _,by simp[Xs]⟩|true=>rw[d];simp[Xs,XX];omega);have l:=key e;have m:=key f;have n:=key g;have o:=key i;omega);·rw[(TJ hD (by omega)).2];simp[Zc]
section
variable{D:List UInt8->List UInt8}{v:Sv}
theorem Bs:∀(l:List Ac)(v:Sv),∃rs,(l.foldl (ZK D) v).out=v.out++rs|[],_=>⟨[],by simp⟩|a::l,v=>by obtain⟨d,b⟩:=gU D v a;obtain⟨e,c⟩:=Bs l (ZK D v a);exact⟨d++e,by rw[sO,c,b,pB]⟩
end
theorem Dp{w:L}{o:rO}{a:Act}{K:Act->L->Prop}{Q:Exit->Act->L->Prop}(s x:rM)(ho:o.op=.call {callee:=.builtin .append,args:=#[s,x],argTypes:=#[23,23]})(rb:Nat)(v:N)(l:List Ac)(hs:a.eval s=v)(hown:JK rb w v l)(vd:N)(r:Ac)(h1:Qf 0 w vd r.data)(nb:Nat)(hb:w.heap[nb]?=O (tD #[tE tF r.kind,tE tF r.sess,tE tF r.keep,vd] 34))(hx:a.eval x=S (O ⟨nb,0,M⟩) 1 1)(hl:(l.length+1)*48<=140737488355328)(hbase:rb<=w.heap.size)(h:∀v' w',JK rb w' v' (l++[r])->Y w w' v.ownBlock->K (a.put o.dst v') w'):o.wp tC a w K Q:=by
 obtain⟨C,z,j,k,m⟩:=r8 EF;have b:v.ownBlock=M∨∃g c t f,v.ownBlock=O g∧0<=g∧w.heap[g]?=O (tD c t f)∧t≠5:=by rcases hown.row with h|⟨g,c,f,e,_,h⟩;(·exact .inl h);·exact .inr ⟨g,c,_,f,e,tW _,h,cU⟩
 obtain⟨q,i,B,A⟩:=hown;refine wp_append_lies w s x 23 ho rb 34 C (sY #[tE tF 0,tE tF 0,tE tF 0,S M 0 0]) 4 48 Tryz.underlying23 z j k m rfl (by decide) v l.length (YK q) hs B ⟨nb,0,M⟩ 1 1 (YK [(r,vd)]) hx rfl (rG (cs:=#[tE tF r.kind,tE tF r.sess,tE tF r.keep,vd]) hb) ?_ (by omega) (by unfold pN;omega) hl hbase _ rfl ?_;·intro u p;simp only[YK,tU,rJ,tY,tP,tT,or_false]at p;rcases p with rfl|rfl|rfl|rfl;(·rfl);(·rfl);(·rfl);·exact Q7 h1
 ·intro g cap w' D n _ _;refine h _ w' ⟨q++[(r,vd)],by simp[i],?_,?_⟩ n;(·rw[Pv,tH];exact D);·intro y d;rcases sF.1 d with d|d;(·exact(A y d).keptT n b);·simp only[tP,tT,or_false]at d;subst d;exact h1.keptT n b
theorem P6{w:L}{ops:Array rO}{rest:List rO}{o:rO}{a:Act}{Q:Exit->Act->L->Prop}(hgd:o.guard=M)(s x:rM)(ho:o.op=.call {callee:=.builtin .append,args:=#[s,x],argTypes:=#[23,23]})(rb:Nat)(v:N)(l:List Ac)(hs:a.eval s=v)(hown:JK rb w v l)(vd:N)(r:Ac)(h1:Qf 0 w vd r.data)(nb:Nat)(hb:w.heap[nb]?=O (tD #[tE tF r.kind,tE tF r.sess,tE tF r.keep,vd] 34))(hx:a.eval x=S (O ⟨nb,0,M⟩) 1 1)(hl:(l.length+1)*48<=140737488355328)(hbase:rb<=w.heap.size)(h:∀v' w',JK rb w' v' (l++[r])->Y w w' v.ownBlock->wpList tC ops Q rest (a.put o.dst v') w'):wpList tC ops Q (o::rest) a w:=wpList_plain hgd fun _ c=>Dp s x ho rb v l hs hown vd r h1 nb hb hx hl hbase fun v' w' h1 b=>c _ _ (h v' w' h1 b)
structure VY where
  rest : List UInt8
  short : Bool
def To(r:VY)(n:Nat):List UInt8:=if r.short=tB∨r.rest.length<n then[]else r.rest.take n
def A6(r:VY)(n:Nat):VY:=if r.short=tB∨r.rest.length<n then⟨r.rest,tB⟩else⟨r.rest.drop n,tA⟩
theorem TU{r:VY}{n:Nat}(h:r.short=tB∨r.rest.length<n):To r n=[]∧A6 r n=⟨r.rest,tB⟩:=⟨if_pos h,if_pos h⟩
theorem Py{r:VY}{n:Nat}(h:¬(r.short=tB∨r.rest.length<n)):To r n=r.rest.take n∧A6 r n=⟨r.rest.drop n,tA⟩:=⟨if_neg h,if_neg h⟩
theorem fI(r:VY)(n:Nat):(To r n).length<=n:=by
 unfold To;split;·simp
 ·rw[pC];omega
def Xj(r:VY):VY:=A6 r 1
def JV(r:VY):Nat:=if(Xj r).short=tB then 0 else((To r 1).getD 0 0).toNat
theorem Yx(r:VY):JV r<256:=by
 unfold JV;split;·omega
 ·exact((To r 1).getD 0 0).toNat_lt
theorem Jc(x:UInt8)(l:List UInt8):Xj ⟨x::l,tA⟩=⟨l,tA⟩∧JV ⟨x::l,tA⟩=x.toNat:=by
 have h:¬((⟨x::l,tA⟩:VY).short=tB∨(⟨x::l,tA⟩:VY).rest.length<1):=by simp
 obtain⟨b,c⟩:=Py h;have a:Xj ⟨x::l,tA⟩=⟨l,tA⟩:=c;refine⟨a,?_⟩;rw[JV,a,b,if_neg (by simp)];rfl
theorem Fa{r:VY}(h:r.short=tB)(n:Nat):(A6 r n).short=tB:=by
 rw[(TU (.inl h)).2]
theorem KF{r:VY}(h:r.short=tB):(Xj r).short=tB:=Fa h 1
theorem j9:(Xj ⟨[],tA⟩).short=tB:=rfl
def Hs(r:VY):List UInt8:=To (Xj r) (JV r)
def K8(r:VY):VY:=A6 (Xj r) (JV r)
theorem Ge{r:VY}(h:r.short=tB):(K8 r).short=tB:=Fa (KF h) _
theorem PR{l p l2:List UInt8}(h:ZC l=O (p,l2)):Hs ⟨l,tA⟩=p∧K8 ⟨l,tA⟩=⟨l2,tA⟩:=by
 cases l with|nil=>cases h|cons x l=>rw[ZC]at h;obtain⟨b,c⟩:=Jc x l;unfold Hs K8;rw[b,c];by_cases a:x.toNat<=l.length;(·rw[if_pos a]at h;simp only[tG,r7]at h;obtain⟨rfl,rfl⟩:=h;exact Py (by simp;omega));·rw[if_neg a]at h;cases h
theorem TG{l:List UInt8}(h:ZC l=M):(K8 ⟨l,tA⟩).short=tB:=by
 cases l with|nil=>exact Fa j9 _|cons x l=>rw[ZC]at h;obtain⟨a,b⟩:=Jc x l;unfold K8;rw[a,b];by_cases c:x.toNat<=l.length;(·rw[if_pos c]at h;cases h);·rw[(TU (.inr (by show l.length<x.toNat;omega))).2]
theorem Es(r:VY):(Hs r).length<=255:=tV (fI _ _) (oX (Yx r))
def TZ(r:VY):Q9:=if JV (K8 (K8 r))=255then⟨Hs r,Hs (K8 r),[],tB⟩else⟨Hs r,Hs (K8 r),Hs (K8 (K8 r)),tA⟩
def AO(r:VY):VY:=if JV (K8 (K8 r))=255then Xj (K8 (K8 r))else K8 (K8 (K8 r))
theorem Bt{r:VY}(h:r.short=tB):(AO r).short=tB:=by
 unfold AO;split;·exact KF (Ge (Ge h))
 ·exact Ge (Ge (Ge h))
theorem Ei{r:VY}(h:(K8 (K8 r)).short=tB):(AO r).short=tB:=by
 unfold AO;split;·exact KF h
 ·exact Ge h
theorem gP{l l2:List UInt8}{p:Q9}(h:Jn l=O (p,l2)):TZ ⟨l,tA⟩=p∧AO ⟨l,tA⟩=⟨l2,tA⟩:=by
 unfold Jn at h;cases h1:ZC l with|none=>rw[h1]at h;cases h|some q=>obtain⟨n,f⟩:=q;rw[h1]at h;have h:DB n f=O (p,l2):=h;unfold DB at h;obtain⟨g,i⟩:=PR h1;cases h2:ZC f with|none=>rw[h2]at h;cases h|some q=>obtain⟨k,a⟩:=q;rw[h2]at h;have h:Pf n k a=O (p,l2):=h;unfold Pf at h;obtain⟨j,m⟩:=PR h2;unfold TZ AO;rw[g,i,j,m];cases a with|nil=>cases h|cons x a=>obtain⟨o,d⟩:=Jc x a;by_cases c:(x::a).head?=O 255;(·rw[if_pos c]at h;simp only[tG,r7]at h;obtain⟨rfl,rfl⟩:=h;have:x=255:=Option.some.inj c;subst this;rw[d,o,if_pos (by rfl),if_pos (by rfl)];exact⟨rfl,rfl⟩);·rw[if_neg c]at h;have b:¬x.toNat=255:=fun e=>c (by rw[show x=255from oY.1 e];rfl);rw[d,if_neg b,if_neg b];cases h3:ZC (x::a)with|none=>rw[h3]at h;cases h|some q=>obtain⟨v,t⟩:=q;rw[h3]at h;simp only[tG,r7]at h;obtain⟨rfl,rfl⟩:=h;obtain⟨r,s⟩:=PR h3;rw[r,s];exact⟨rfl,rfl⟩
theorem gL{l:List UInt8}(h:Jn l=M):(AO ⟨l,tA⟩).short=tB:=by
 unfold Jn at h;cases h1:ZC l with|none=>exact Ei (Ge (TG h1))|some q=>obtain⟨n,f⟩:=q;rw[h1]at h;have h:DB n f=M:=h;unfold DB at h;obtain⟨j,d⟩:=PR h1;cases h2:ZC f with|none=>exact Ei (by rw[d];exact TG h2)|some q=>obtain⟨k,a⟩:=q;rw[h2]at h;have h:Pf n k a=M:=h;unfold Pf at h;obtain⟨m,g⟩:=PR h2;unfold AO;rw[d,g];cases a with|nil=>split;(·exact j9);·exact TG rfl|cons x a=>obtain⟨o,i⟩:=Jc x a;by_cases c:(x::a).head?=O 255;(·rw[if_pos c]at h;cases h);·rw[if_neg c]at h;have b:¬x.toNat=255:=fun e=>c (by rw[show x=255from oY.1 e];rfl);rw[i,if_neg b];cases h3:ZC (x::a)with|none=>exact TG h3|some q=>obtain⟨v,p⟩:=q;rw[h3]at h;cases h
theorem bJ(r:VY):(TZ r).name.length<=255∧(TZ r).key.length<=255∧(TZ r).value.length<=255:=by
 unfold TZ;split;·exact⟨Es _,Es _,by simp⟩
 ·exact⟨Es _,Es _,Es _⟩
def U7:Nat->VY->VY|0,r=>r|n+1,r=>AO (U7 n r)
def UZ:Nat->VY->List Q9|0,_=>[]|n+1,r=>UZ n r++[TZ (U7 n r)]
theorem DQ:∀(n:Nat)(r:VY),(UZ n r).length=n|0,_=>rfl|n+1,r=>by rw[UZ,tH,DQ n r];rfl
theorem Mi:∀(n:Nat)(r:VY),Ex (UZ n r)|0,_=>fun p a=>by simp[UZ]at a|n+1,r=>Ao (Mi n r) (bJ _)
theorem N9:∀(n:Nat){r:VY},r.short=tB->(U7 n r).short=tB|0,_,h=>h|n+1,_,h=>Bt (N9 n h)
theorem Px:∀(n:Nat){l l2:List UInt8}{ws:List Q9},ZW n l=O (ws,l2)->UZ n ⟨l,tA⟩=ws∧U7 n ⟨l,tA⟩=⟨l2,tA⟩|0,l,l2,ws,h=>by rw[ZW]at h;simp only[tG,r7]at h;obtain⟨rfl,rfl⟩:=h;exact⟨rfl,rfl⟩|n+1,l,l2,ws,h=>by rw[yO]at h;cases h1:ZW n l with|none=>rw[h1]at h;cases h|some q=>obtain⟨a,b⟩:=q;rw[h1]at h;have h:(match Jn b with|O (w,r2)=>O (a++[w],r2)|none=>M)=O (ws,l2):=h;obtain⟨e,f⟩:=Px n h1;cases h2:Jn b with|none=>rw[h2]at h;cases h|some q=>obtain⟨p,g⟩:=q;rw[h2]at h;simp only[tG,r7]at h;obtain⟨rfl,rfl⟩:=h;obtain⟨c,d⟩:=gP h2;rw[UZ,U7,e,f,c,d];exact⟨rfl,rfl⟩
theorem Bh:∀(n:Nat){l:List UInt8},ZW n l=M->(U7 n ⟨l,tA⟩).short=tB|0,l,h=>by rw[ZW]at h;cases h|n+1,l,h=>by rw[yO]at h;cases h1:ZW n l with|none=>exact Bt (Bh n h1)|some q=>obtain⟨a,b⟩:=q;rw[h1]at h;have h:(match Jn b with|O (w,r2)=>O (a++[w],r2)|none=>M)=M:=h;obtain⟨d,c⟩:=Px n h1;cases h2:Jn b with|none=>rw[U7,c];exact gL h2|some q=>obtain⟨p,e⟩:=q;rw[h2]at h;cases h
def Ns(r:VY):VY:=U7 (JV (Xj (Xj (Xj r)))) (Xj (Xj (Xj (Xj r))))
def NH(r:VY):Xx:=⟨((65536*JV r+256*JV (Xj r)+JV (Xj (Xj r)):Nat):Int),UZ (JV (Xj (Xj (Xj r)))) (Xj (Xj (Xj (Xj r))))⟩
theorem CI(r:VY):Ex (NH r).writes∧(NH r).writes.length<=255:=⟨Mi _ _,by
 show(UZ _ _).length<=255;rw[DQ];exact oX (Yx _)⟩
theorem Ww(b:List UInt8)(h:¬b.length<4):JV ⟨b,tA⟩=(b.getD 0 0).toNat∧JV (Xj ⟨b,tA⟩)=(b.getD 1 0).toNat∧JV (Xj (Xj ⟨b,tA⟩))=(b.getD 2 0).toNat∧JV (Xj (Xj (Xj ⟨b,tA⟩)))=(b.getD 3 0).toNat∧Xj (Xj (Xj (Xj ⟨b,tA⟩)))=⟨b.drop 4,tA⟩:=by
 match b,h with|[],h=>exact absurd (by simp) h|[_],h=>exact absurd (by simp) h|[_,_],h=>exact absurd (by simp) h|[_,_,_],h=>exact absurd (by simp) h|x0::x1::x2::x3::b,_=>obtain⟨a,c⟩:=Jc x0 (x1::x2::x3::b);obtain⟨d,e⟩:=Jc x1 (x2::x3::b);obtain⟨f,g⟩:=Jc x2 (x3::b);obtain⟨i,j⟩:=Jc x3 b;rw[a,d,f,i];exact⟨c,e,g,j,rfl⟩
theorem mH(b:List UInt8)(h:b.length<4):(Ns ⟨b,tA⟩).short=tB:=by
 unfold Ns;refine N9 _ ?_;match b,h with|[],_=>exact KF (KF (KF j9))|[x],_=>rw[(Jc x []).1];exact KF (KF j9)|[x,y],_=>rw[(Jc x [y]).1,(Jc y []).1];exact KF j9|[x,y,z],_=>rw[(Jc x [y,z]).1,(Jc y [z]).1,(Jc z []).1];exact j9|_::_::_::_::_,h=>exact absurd h (by simp only[tZ];omega)
theorem bD{b:List UInt8}(h0:¬4000<b.length)(h:(Ns ⟨b,tA⟩).short=tB):YU b=14∧JT b=Zq:=by
 by_cases a:b.length<4;·exact LQ a
 ·obtain⟨_,_,_,c,d⟩:=Ww b a;cases hb:qV b with|none=>exact Ic h0 a hb|some q=>obtain⟨f,l⟩:=q;obtain⟨_,e⟩:=Px _ hb;unfold Ns at h;rw[c,d,e]at h;cases h
theorem Cu{b:List UInt8}(h:(Ns ⟨b,tA⟩).short=tA):¬b.length<4∧qV b=O ((NH ⟨b,tA⟩).writes,(Ns ⟨b,tA⟩).rest)∧(GD b:Int)=(NH ⟨b,tA⟩).turn:=by
 by_cases a:b.length<4;·rw[mH b a]at h;cases h
 ·obtain⟨e,f,g,c,d⟩:=Ww b a;refine⟨a,?_,?_⟩;(·cases hb:qV b with|none=>have:=Bh _ hb;unfold Ns at h;rw[c,d,this]at h;cases h|some q=>obtain⟨k,l⟩:=q;obtain⟨i,j⟩:=Px _ hb;unfold Ns NH;rw[c,d,i,j]);·unfold NH;rw[e,f,g];rfl
theorem iU{b:List UInt8}(h0:¬4000<b.length)(h:(Ns ⟨b,tA⟩).short=tA)(hr:(Ns ⟨b,tA⟩).rest.length≠0):YU b=4∧JT b=Zq:=by
 obtain⟨a,c,_⟩:=Cu h;exact WM h0 a c hr
theorem iH{b:List UInt8}(h0:¬4000<b.length)(h:(Ns ⟨b,tA⟩).short=tA)(hr:(Ns ⟨b,tA⟩).rest.length=0):YU b=Zb (NH ⟨b,tA⟩)∧(YU b=0->JT b=NH ⟨b,tA⟩)∧(YU b≠0->JT b=Zq):=by
 obtain⟨a,c,d⟩:=Cu h;have:=On h0 a c hr;rw[d]at this;exact this
theorem ZL(w:L)(o:Obj):∃W:L,Hid (W=w.alloc o)∧Y w W M∧Hid (W.heap[w.heap.size]?=O o):=⟨w.alloc o,rfl,sW _ _ _,heap_alloc_new w o⟩
theorem uU(w:L)(b i:Nat)(u:N):∃W:L,Hid (W=tJ w ⟨b,i,M⟩ u)∧Y w W (O b):=⟨_,rfl,YW w b i u⟩
theorem nW:(204:Nat)≠5:=by
 decide
theorem i9:(204:Nat)≠146:=by
 decide
theorem Qe.rdr{w w':L}{b:Nat}{a0:Option rK}{n0 c0:Nat}{s:Bool}{t:sE}{v:N}{bs:List UInt8}(h:Qe w v bs)(hb:w.heap[b]?=O (tD #[S a0 n0 c0,tS s] t))(hg:Y w w' (O b)):Qe w' v bs:=by
 obtain⟨a,cap,rfl,f,h⟩:=h;refine⟨a,cap,rfl,f,?_⟩;rcases h with h|⟨g,o,rfl,h⟩;·exact .inl h
 ·by_cases d:bs=[];(·exact .inl ⟨d,fun e=>by cases e⟩);·refine .inr ⟨g,o,rfl,h.grown hg ?_⟩;intro e;cases e;have c:=h 0 (rX.2 d);simp only[sB,hb,Nat.add_zero]at c;match o,c with|0,c=>simp at c|1,c=>simp at c|o+2,c=>simp at c
structure Zh (w0 w : L) (b : Nat) (r : VY) : Prop where
  at_ : ∃ a cap, w.heap[b]? = O (tD #[S a r.rest.length cap, tS r.short] 204) ∧ Qe w0 (S a r.rest.length cap) r.rest
  old : ∃ a n c s, w0.heap[b]? = O (tD #[S a n c, tS s] 204)
  grown : Y w0 w (O b)
theorem Zh.lt{w0 w:L}{b:Nat}{r:VY}(h:Zh w0 w b r):b<w.heap.size:=by
 obtain⟨a,cap,h,_⟩:=h.at_;exact(tM.1 h).1
theorem Zh.now{w0 w:L}{b:Nat}{r:VY}(h:Zh w0 w b r){v:N}{bs:List UInt8}(hv:Qe w0 v bs):Qe w v bs:=by
 obtain⟨a,n,c,s,d⟩:=h.old;exact hv.rdr d h.grown
theorem Zh.row{w0 w:L}{b:Nat}{r:VY}(h:Zh w0 w b r):O b=M∨∃g cur t fz,O b=O g∧0<=g∧w.heap[g]?=O (tD cur t fz)∧t≠5:=by
 obtain⟨a,cap,h,_⟩:=h.at_;exact .inr ⟨b,_,_,_,rfl,tW _,h,nW⟩
theorem Qf.rdr{w0 w w':L}{b:Nat}{r:VY}{v:N}{bs:List UInt8}(h:Qf 0 w v bs)(hb:Zh w0 w b r)(hg:Y w w' (O b)):Qf 0 w' v bs:=h.keptT hg hb.row
theorem XA{w w':L}(hg:Y w w' M)(r:Option Nat):Y w w' r:=⟨hg.os,hg.tape,hg.output,hg.size,fun i hi _=>hg.block i hi (by
 simp)⟩
theorem Zh.kept{w0 w w':L}{b:Nat}{r:VY}(h:Zh w0 w b r)(hg:Y w w' M):Zh w0 w' b r:=by
 have d:=h.lt;obtain⟨a,cap,c,e⟩:=h.at_;exact⟨⟨a,cap,by rw[hg.block b d (by simp)];exact c,e⟩,h.old,Qa h.grown (XA hg _)⟩
theorem Xi{w w':L}{b:Nat}(hg:Y w w' (O b)){c:Nat}{o:Obj}(hc:w.heap[c]?=O o)(hne:c≠b):w'.heap[c]?=O o:=by
 rw[hg.block c (tM.1 hc).1 (by simpa using hne)];exact hc
theorem Zh.apart{w0 w w':L}{b:Nat}{r:VY}(h:Zh w0 w b r){c:Nat}(hne:b≠c)(hc:w0.heap.size<=c)(hg:Y w w' (O c)):Zh w0 w' b r:=by
 have e:=h.lt;obtain⟨a,cap,d,f⟩:=h.at_;exact⟨⟨a,cap,by rw[hg.block b e (by simpa using hne)];exact d,f⟩,h.old,JQ h.grown hc hg⟩
theorem QY.rdr{rb:Nat}{w0 w w':L}{b:Nat}{r:VY}{v:N}{l:List Q9}(h:QY rb 0 w v l)(hb:Zh w0 w b r)(hg:Y w w' (O b)):QY rb 0 w' v l:=by
 obtain⟨a,cap,c,_⟩:=hb.at_;exact h.kept hg (.inr (h.ne c i9)) hb.row
theorem Zh.ownV{rb:Nat}{w0 w w':L}{b:Nat}{r:VY}{v:N}{l:List Q9}(h:Zh w0 w b r)(ho:QY rb 0 w v l)(hb:w0.heap.size<=rb)(hg:Y w w' v.ownBlock):Zh w0 w' b r:=by
 obtain⟨a,cap,f,i⟩:=h.at_;have d:=ho.ne f i9;cases hv:v.ownBlock with|none=>rw[hv]at hg;exact h.kept hg|some g=>rw[hv]at hg d;exact h.apart (c:=g) (fun e=>d (by rw[e])) (tV hb (ho.lt g hv).1) hg
section
open Go.ChangeShapes Go.WideShapes Go.ChangeAt Go.RowKit
theorem own:ownKnob tC.godebug=M:=by
 kernel_rfl
theorem Hn:laidOutB tC=tB:=by
 kernel_rfl
theorem Gu{n:Int}(h:(Lit.int tF n).wf=tB):-9223372036854775808<=n∧n<=9223372036854775807:=bounds_i64 h
theorem cP{w w':L}(h:Y w w' M):Below w.heap.size w w':=⟨h.os,h.tape,h.output,h.size,fun k hk=>h.block k hk (by
 simp)⟩
end
structure zK(g:Gr):Prop where kind:-9223372036854775808<=g.kind∧g.kind<=9223372036854775807sess:-9223372036854775808<=g.sess∧g.sess<=9223372036854775807name:-9223372036854775808<=g.name∧g.name<=9223372036854775807key:-9223372036854775808<=g.key∧g.key<=9223372036854775807value:-9223372036854775808<=g.value∧g.value<=9223372036854775807
def eV(w:L)(b o:Nat)(g:Gr):Prop:=w.cell? ⟨b,o,M⟩=O (tE tF g.kind)∧w.cell? ⟨b,o+1,M⟩=O (tE tF g.sess)∧w.cell? ⟨b,o+2,M⟩=O (tE tF g.name)∧w.cell? ⟨b,o+3,M⟩=O (tE tF g.key)∧w.cell? ⟨b,o+4,M⟩=O (tE tF g.value)
theorem eV.grown{w w':L}{b o:Nat}{g:Gr}(h:eV w b o g)(hg:Y w w' M):eV w' b o g:=⟨hg.cell h.1 (by
 simp),hg.cell h.2.1 (by
 simp),hg.cell h.2.2.1 (by
 simp),hg.cell h.2.2.2.1 (by
 simp),hg.cell h.2.2.2.2 (by
 simp)⟩
def Jl(w:L)(v:N)(l:List Gr):Prop:=∃a cap,v=S a l.length cap∧l.length<=cap∧(l=[]∨∃b o,a=O ⟨b,o,M⟩∧∀i,i<l.length->eV w b (o+i*5) (l.getD i JW))
theorem Jl.shape{w:L}{v:N}{l:List Gr}(h:Jl w v l):∃a cap,v=S a l.length cap:=by
 obtain⟨a,cap,rfl,_⟩:=h;exact⟨a,cap,rfl⟩
theorem Jl.grown{w w':L}{v:N}{l:List Gr}(h:Jl w v l)(hg:Y w w' M):Jl w' v l:=by
 obtain⟨a,cap,rfl,c,h⟩:=h;refine⟨a,cap,rfl,c,?_⟩;rcases h with h|⟨b,o,rfl,h⟩;·exact .inl h
 ·exact .inr ⟨b,o,rfl,fun i d=>(h i d).grown hg⟩
theorem Jl.at{w:L}{a:Option rK}{n cap:Nat}{l:List Gr}(h:Jl w (S a n cap) l)(i:Nat)(hi:i<l.length):∃b o,a=O ⟨b,o,M⟩∧eV w b (o+i*5) (l.getD i JW):=by
 obtain⟨d,c,e,_,h⟩:=h;simp only[tL]at e;obtain⟨rfl,_,_⟩:=e;rcases h with rfl|⟨b,o,rfl,h⟩;·simp at hi
 ·exact⟨b,o,rfl,h i hi⟩
def uM(l:List Gr):Prop:=∀g∈l,zK g
theorem DN{l:List Gr}{m:Nat}(h:m<l.length):YP l (m+1)=YP l m++[VD (l.getD m JW)]:=by
 unfold YP;rw[List.take_add_one,List.map_append];simp[h]
theorem As(l:List Gr)(m:Nat):(YP l m).length=min m l.length:=by
 simp[YP]
def OY:Prop:=∀(w:L)(v:N)(t:GA),Uh w v t->jL t->rC tC 51 #[v] w fun e w'=>∃x,e=tI (sK #[x,tE tF (Ev t)])∧YH w' x (KO t)∧Y w w' M
def Lf:Prop:=∀(w:L)(v:N)(t:GA)(keep:Int),Uh w v t->jL t->-9223372036854775808<=keep->keep<=9223372036854775807->rC tC 63 #[v,tE tF keep] w fun e w'=>∃x,e=tI (sK #[x,tE tF (UO t keep)])∧YH w' x (XC t keep)∧Y w w' M
theorem ND:(79:Nat)≠5:=by
 decide
theorem Wl:(79:Nat)≠146:=by
 decide
theorem Nu:(79:Nat)≠156:=by
 decide
def OP:Prop:=∀(w:L)(v:N)(a:Ac),Iy w v a->Lh a->rC tC 24 #[v] w fun e w'=>e=tI (tE tF (Jf a))∧Y w w' M
theorem bE(s q:Int)(d:List UInt8):Jf ⟨1,s,q,d⟩=if 0<=s∧s<=7then(if 4000<d.length then 1 else if q=0then 0 else 4)else 2:=by
 unfold Jf;rw[if_pos (by show(1:Int)<=1∧(1:Int)<=4;omega)];by_cases a:0<=s∧s<=7;·rw[if_pos a,if_neg (by rintro(⟨_,h⟩|⟨h,_⟩);exact h a;cases h)];by_cases b:4000<d.length;(·rw[if_pos b,if_pos b]);·rw[if_neg b,if_neg b];by_cases c:q=0;(·rw[if_pos c,if_neg];rintro(⟨h,_⟩|⟨_,h⟩|⟨h,_⟩);(·exact h rfl);(·exact h c);·exact h rfl);·rw[if_neg c,if_pos (.inr (.inl ⟨by show(1:Int)≠3;decide,c⟩))]
 ·rw[if_neg a,if_pos (.inl ⟨rfl,a⟩)]
theorem LI(s q:Int)(d:List UInt8):Jf ⟨3,s,q,d⟩=if 0<=q∧q<=200000then(if 4000<d.length then 1 else if s=0then(if 0<d.length then 4 else 0)else 4)else 2:=by
 unfold Jf;rw[if_pos (by show(1:Int)<=3∧(3:Int)<=4;omega)];by_cases a:0<=q∧q<=200000;·rw[if_pos a,if_neg (by rintro(⟨h,_⟩|⟨_,h⟩);cases h;exact h a)];by_cases b:4000<d.length;(·rw[if_pos b,if_pos b]);·rw[if_neg b,if_neg b];by_cases c:s=0;(·rw[if_pos c];by_cases e:0<d.length;(·rw[if_pos e,if_pos (.inr (.inr ⟨by show(3:Int)≠1;decide,e⟩))]);·rw[if_neg e,if_neg];rintro(⟨_,h⟩|⟨h,_⟩|⟨_,h⟩);(·exact h c);(·exact h rfl);·exact e h);·rw[if_neg c,if_pos (.inl ⟨by show(3:Int)≠1;decide,c⟩)]
 ·rw[if_neg a,if_pos (.inr ⟨rfl,a⟩)]
theorem AA(k s q:Int)(d:List UInt8)(hk:k=2∨k=4):Jf ⟨k,s,q,d⟩=if 4000<d.length then 1 else if s=0then(if q=0then(if 0<d.length then 4 else 0)else 4)else 4:=by
 unfold Jf;have f:¬k=1:=by omega
 have g:¬k=3:=by omega
 rw[if_pos (by show 1<=k∧k<=4;omega),if_neg (by rintro(⟨h,_⟩|⟨h,_⟩);exact f h;exact g h)];by_cases a:4000<d.length;·rw[if_pos a,if_pos a]
 ·rw[if_neg a,if_neg a];by_cases b:s=0;(·rw[if_pos b];by_cases e:q=0;(·rw[if_pos e];by_cases c:0<d.length;(·rw[if_pos c,if_pos (.inr (.inr ⟨f,c⟩))]);·rw[if_neg c,if_neg];rintro(⟨_,h⟩|⟨_,h⟩|⟨_,h⟩);(·exact h b);(·exact h e);·exact c h);·rw[if_neg e,if_pos (.inr (.inl ⟨g,e⟩))]);·rw[if_neg b,if_pos (.inl ⟨f,b⟩)]
section
variable{D:List UInt8->List UInt8}{v:Sv}
structure RJ (s : Nat) (v u : Sv) : Prop where
  up : u.up = v.up
  begun : u.begun s = v.begun s
  txns : u.txns s = v.txns s
  waits : v.waits s = tA -> u.waits s = tA
  grown : ∃ cs, u.commits = v.commits ++ cs
  synced : v.synced <= u.synced
theorem RJ.rfl{s:Nat}{v:Sv}:RJ s v v:=⟨by
 rfl,by
 rfl,by
 rfl,id,⟨[],by
 simp⟩,sG _⟩
theorem RJ.trans{s:Nat}{v u w:Sv}(h:RJ s v u)(k:RJ s u w):RJ s v w:=by
 obtain⟨a,c⟩:=h.grown;obtain⟨b,d⟩:=k.grown;exact⟨k.up.trans h.up,k.begun.trans h.begun,k.txns.trans h.txns,fun e=>k.waits (h.waits e),⟨a++b,by rw[d,c,pB]⟩,tV h.synced k.synced⟩
theorem SS{s:Nat}(hu:v.up=tB){a:Ac}(ha:(a.kind=1∧a.sess.toNat≠s)∨a.kind=2):RJ s v (ZK D v a):=by
 rcases ha with⟨c,b⟩|c;·rw[ZK,if_pos c];rcases P9 D v a.sess.toNat a.data with h|⟨_,_,_,_,_,h⟩;(·exact⟨h.up,h.begun s (Ne.symm b),h.txns s (Ne.symm b),fun e=>by rw[h.waits];exact e,⟨[],by rw[h.commits,tY]⟩,Nat.le_of_eq h.synced.symm⟩);·exact⟨h.up,by rw[h.begun];exact Zi _ _ (Ne.symm b),by rw[h.txns],fun e=>by rw[h.waits,Zi _ _ (Ne.symm b)];exact e,⟨_,h.commits⟩,Nat.le_of_eq h.synced.symm⟩
 ·rw[ZK,if_neg (by omega),if_pos c,if_pos hu];refine⟨rfl,rfl,rfl,fun e=>?_,⟨[],by rw[tY];rfl⟩,Nat.le_add_right _ _⟩;show UK v.waits v.queue s=tA;unfold UK;split;(·rfl);·exact e
theorem yB{s:Nat}:∀(l:List Ac)(v:Sv),v.up=tB->(∀a∈l,(a.kind=1∧a.sess.toNat≠s)∨a.kind=2)->RJ s v (l.foldl (ZK D) v)|[],_,_,_=>RJ.rfl|a::l,v,hu,ha=>by rw[sO];have b:=SS (D:=D) hu (ha a tR);exact b.trans (yB l _ (b.up.trans hu) (fun x c=>ha x (tQ _ c)))
theorem OH(hg:Zu D v){s n:Nat}(hn:n<=v.synced){u:Sv}(h:RJ s v u):Qy u n=Qy v n:=by
 obtain⟨a,e⟩:=h.grown;unfold Qy;rw[e,pP (by have:=hg.turn;omega)]
def FH(t:Tx)(f:FL)(r:Rq)(p:Rp):Prop:=p.code=0->(r.kind=2->QV r∈t.reads∧p.found=Y8 f r.name r.key∧p.value=Ja f r.name r.key)∧(r.kind=3->QV r∈t.reads∧p.pairs=Xo f r.name r.key r.last)
theorem aQ{t:Tx}{x:Rd}(h:Z7 t x=0):x∈(XF t x).reads∧∀y∈t.reads,y∈(XF t x).reads:=by
 unfold XF;rw[if_pos h];split;·exact⟨(C6 t x).1 (by assumption),fun _ a=>a⟩
 ·exact⟨by simp,fun y a=>List.mem_append_left _ a⟩
theorem ML{s:Nat}{x:Rd}{o:Rp}{r:Rq}{f:FL}(ho:o.sess=(s:Int))(hk:(r.kind=2->o.found=Y8 f r.name r.key∧o.value=Ja f r.name r.key)∧(r.kind=3->o.pairs=Xo f r.name r.key r.last))(hx:x=QV r):∃p,(KM v s x o).out=v.out++[p]∧p.sess=(s:Int)∧FH ((KM v s x o).txns s) f r p∧∀y∈(v.txns s).reads,y∈((KM v s x o).txns s).reads:=by
 unfold KM;split;·have k:=aQ (by assumption:Z7 (v.txns s) x=0);refine⟨o,rfl,ho,?_,?_⟩;(·show FH (UC v.txns s _ s) f r o;rw[ZA];exact fun _=>⟨fun e=>⟨hx▸k.1,hk.1 e⟩,fun e=>⟨hx▸k.1,hk.2 e⟩⟩);·show∀y∈_,y∈(UC v.txns s _ s).reads;rw[ZA];exact k.2
 ·exact⟨xK s (Z7 (v.txns s) x),rfl,rfl,fun e=>absurd e (by assumption),fun _ a=>a⟩
theorem IR(hg:Zu D v){s n:Nat}(h:xN s n v){r:Rq}(hr:Yb r)(hk:r.kind=2∨r.kind=3):∃p,(ZK D v (Zl s r)).out=v.out++[p]∧p.sess=(s:Int)∧FH ((ZK D v (Zl s r)).txns s) (Qy v n) r p∧∀y∈(v.txns s).reads,y∈((ZK D v (Zl s r)).txns s).reads:=by
 have j:=(hg.tx s h.begun).1;have g:=VG v n;obtain⟨i,a⟩:=Vz hr hk;have k:Zs v s r=tA:=by unfold Zs;rw[h.waits,if_neg (by omega),h.begun];rfl
 have f:(v.txns s).start.toNat=n:=by rw[h.txn.1];exact sH n
 have c:Zr (Qy v n) (v.txns s).writes=0:=by rw[h.txn.2];rfl
 rw[jZ v s hr,if_neg (by simp[h.up]),VZ,if_neg (by omega),k,if_neg (by decide),if_neg (by omega),if_neg (by omega),h.txn.1,h.synced,C0,if_neg (by decide),if_neg (by omega),jK,if_neg (by omega)];rcases hk with hk|hk;·rw[if_pos hk,Nb,f];have b:=D6 g j c i a;rw[show Xl (Qy v n) (v.txns s).writes=Qy v n by rw[h.txn.2];rfl]at b;(have l:Vw (Qy v n) (v.txns s) r.name r.key=tA:=by unfold Vw;split;(·rw[h.txn.2];rfl);·rfl);rw[l,if_neg (by decide),b.1,b.2];exact ML rfl ⟨fun _=>⟨rfl,rfl⟩,fun e=>by omega⟩ rfl
 ·rw[if_neg (by omega),uG,f];have d:=hr.last hk;have b:=DG g j c i a d;rw[show Xl (Qy v n) (v.txns s).writes=Qy v n by rw[h.txn.2];rfl]at b;rw[if_pos b.1,b.2];exact ML rfl ⟨fun e=>by omega,fun _=>(kS g _ _ _ i a d).2.symm⟩ rfl
theorem EI(hD:∀x,(D x).length=4){s n:Nat}(hs:s<=7):∀(l:List Rq)(v:Sv),Zu D v->xN s n v->(∀r∈l,Yb r∧(r.kind=2∨r.kind=3))->∃ps:List Rp,((l.map (Zl s)).foldl (ZK D) v).out=v.out++ps∧ps.length=l.length∧(∀(i:Nat)(r:Rq)(p:Rp),l[i]?=O r->ps[i]?=O p->FH (((l.map (Zl s)).foldl (ZK D) v).txns s) (Qy v n) r p)∧(∀y∈(v.txns s).reads,y∈(((l.map (Zl s)).foldl (ZK D) v).txns s).reads)∧Same v ((l.map (Zl s)).foldl (ZK D) v)|[],v,_,_,_=>⟨[],by simp,rfl,fun i r p h=>by simp at h,fun _ k=>k,Same.rfl⟩|r::l,v,hg,h,hl=>by obtain⟨c,G⟩:=hl r tR;have j:∀x∈l,Yb x∧(x.kind=2∨x.kind=3):=fun x d=>hl x (tQ _ d);have m:=MZ (D:=D) v s c (by omega);obtain⟨p,t,_,a,u⟩:=IR hg h c G;have g:Zu D (ZK D v (Zl s r)):=hg.act hD (JL hs c);have E:xN s n (ZK D v (Zl s r)):=RH h c (by omega);obtain⟨ps,z,A,B,f,C⟩:=EI hD hs l _ g E j;rw[pJ,sO];(have F:Qy (ZK D v (Zl s r)) n=Qy v n:=by unfold Qy;rw[m.commits]);refine⟨p::ps,by rw[z,t,pB];rfl,by rw[tZ,tZ,A],fun i x q d o=>?_,fun y k=>f y (u y k),m.toSame.trans C⟩;cases i with|zero=>(have w:r=x:=by simpa using d);(have eq:p=q:=by simpa using o);subst w;subst eq;exact fun b=>⟨fun e=>⟨f _ ((a b).1 e).1,((a b).1 e).2⟩,fun e=>⟨f _ ((a b).2 e).1,((a b).2 e).2⟩⟩|succ i=>have:=B i x q (by simpa using d) (by simpa using o);rw[F]at this;exact this
theorem OE(v:Sv)(s:Nat){r:Rq}(hr:Yb r)(hk:r.kind=4):((ZK D v (Zl s r)).txns s).start=(v.txns s).start∧((ZK D v (Zl s r)).txns s).reads=(v.txns s).reads:=by
 rw[jZ v s hr];split;·exact⟨rfl,rfl⟩
 ·rw[VZ,if_neg (by omega)];split;(·exact⟨rfl,rfl⟩);·rw[if_neg (by omega),if_neg (by omega)];split;(·exact⟨rfl,rfl⟩);·rw[if_neg (by omega),jK,if_pos (.inl hk),xG];split;(·have e:=(by assumption:Xe (v.txns s) (Xu r)=0);show(UC v.txns s _ s).start=_∧(UC v.txns s _ s).reads=_;rw[ZA,Yq,if_pos e];exact⟨rfl,rfl⟩);·exact⟨rfl,rfl⟩
theorem Lq(hu:v.up=tB)(hq:v.queue=[]){s:Nat}{r:Rq}(hr:Yb r)(hk:r.kind=4)(ht:([Zl s r,Zl s (YA 6),Xv].foldl (ZK D) v).synced≠v.synced):∃t:Tx,t.start=(v.txns s).start∧t.reads=(v.txns s).reads∧KS t v.commits=tA∧(∀(_:Zu D v)(_:s<=7)(_:∀x,(D x).length=4),Gf t):=by
 rw[sO,sO,sO,List.foldl_nil]at ht;have b:=MZ (D:=D) v s hr (by omega);have c:=OE (D:=D) v s hr hk;have e:ZK D (ZK D v (Zl s r)) (Zl s (YA 6))=UD D (ZK D v (Zl s r)) s (Yj (YA 6)):=by show(if(1:Int)=1then UD D _ (s:Int).toNat (Yj (YA 6))else _)=_;rw[if_pos rfl,sH]
 rw[e,Bq]at ht;rcases P9 D (ZK D v (Zl s r)) s (Yj (YA 6))with a|⟨_,_,_,_,f,a⟩;·exfalso;apply ht;rw[if_pos (by rw[a.up,b.up,hu])];show(UD D _ s _).synced+(UD D _ s _).queue.length=v.synced;rw[a.synced,a.queue,b.synced,b.queue,hq];rfl
 ·exact⟨_,c.1,c.2,by have:=a.clash;rw[b.commits]at this;exact this,fun g h d=>((g.act d (JL h hr)).tx s f).1⟩
theorem Sy{t:Tx}{cs:List Xx}(hg:VK [] 0 cs)(ht:Gf t){n:Nat}(hn:t.start=(n:Int))(hc:KS t cs=tA){r:Rq}(hr:Yb r){p:Rp}(h:FH t (YL [] (cs.take n)) r p)(h0:p.code=0):(r.kind=2->JZ (YL [] cs) r.name r.key=0∧Y8 (YL [] cs) r.name r.key=p.found∧Ja (YL [] cs) r.name r.key=p.value)∧(r.kind=3->Z9 (YL [] cs) r.name r.key r.last=0∧Xo (YL [] cs) r.name r.key r.last=p.pairs):=by
 rw[KS,if_pos ((xH t).2 ht)]at hc;have l:=JE cs _ JA;have m:=JE (cs.take n) _ JA;refine⟨fun e=>?_,fun e=>?_⟩;·obtain⟨b,a⟩:=Vz hr (.inl e);obtain⟨f,g,o⟩:=(h h0).1 e;(have c:(QV r).wide=tA∧(QV r).name=r.name∧(QV r).key=r.key:=by simp[QV,(Ru hr).1,e]);have:=OM hg hn hc f c.1;rw[c.2.1,c.2.2]at this;obtain⟨i,j,q⟩:=TL l _ _ b a;obtain⟨s,k,u⟩:=TL m _ _ b a;exact⟨i,by rw[g,j,k,this],by rw[o,q,u,this]⟩
 ·obtain⟨b,a⟩:=Vz hr (.inr e);have d:=hr.last e;obtain⟨f,g⟩:=(h h0).2 e;(have c:(QV r).wide=tB∧(QV r).name=r.name∧(QV r).key=r.key∧(QV r).last=r.last:=by simp[QV,(Ru hr).1,e]);have:=Ct hg hn hc f c.1;rw[c.2.1,c.2.2.1,c.2.2.2]at this;obtain⟨i,j⟩:=kS l _ _ _ b a d;obtain⟨s,k⟩:=kS m _ _ _ b a d;exact⟨i,by rw[g,j,k,this]⟩
end
def X8(r:Rq):Nat->List UInt8|0=>[rB r.kind.toNat]|1=>[rB r.kind.toNat]++Xs (QQ r.kind 0) r.name|2=>[rB r.kind.toNat]++Xs (QQ r.kind 0) r.name++Xs (QQ r.kind 1) r.key|3=>[rB r.kind.toNat]++Xs (QQ r.kind 0) r.name++Xs (QQ r.kind 1) r.key++Xs (QQ r.kind 2) r.last|_=>[rB r.kind.toNat]++Xs (QQ r.kind 0) r.name++Xs (QQ r.kind 1) r.key++Xs (QQ r.kind 2) r.last++Xs (QQ r.kind 3) r.value
theorem I1(r:Rq):X8 r 4=Yj r:=by
 show[rB r.kind.toNat]++Xs (QT r.kind) r.name++Xs (QT r.kind) r.key++Xs (tX (r.kind=3)) r.last++Xs (tX (r.kind=4)) r.value=_;rw[Yj,xU];simp[pB]
theorem Ii{r:Rq}(h:Yb r)(m:Nat):(X8 r m).length<=200:=by
 have a:r.name.length<=8:=by by_cases e:QT r.kind=tB;(·exact(h.name e).2);·rw[h.noName (by simpa using e)];simp
 have b:r.key.length<=16:=by by_cases e:QT r.kind=tB;(·exact(h.key e).2);·rw[h.noKey (by simpa using e)];simp
 have c:r.last.length<=16:=by by_cases e:r.kind=3;(·exact(h.last e).2);·rw[h.noLast e];simp
 have d:=h.value;have f:=Ul (QQ r.kind 0) r.name;have g:=Ul (QQ r.kind 1) r.key;have i:=Ul (QQ r.kind 2) r.last;have j:=Ul (QQ r.kind 3) r.value;match m with|0=>simp[X8]|1=>simp only[X8,tH,sI];omega|2=>simp only[X8,tH,sI];omega|3=>simp only[X8,tH,sI];omega|m+4=>simp only[X8,tH,sI];omega
end Go.Proofs.YtiahomhpaejnhaaGreatDoor
