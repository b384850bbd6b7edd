/-
  Texts of this proof, joined, with few blanks: AcM0, PairM0, PairB, WrMem, CmtMem, TapeA, TapeB, TapeK, HistF, HistC, TxnF, TxnG, SrvF, SrvI, SrvO, TopF, TenMem, CmtSet, RdMem, StepMem, SvK, SvG, CmtTy, CmtRow, CmtRowD, TxNote, TxM, TxnL, TxCheck, TCCheck, PairStepQ, PairSlice, FCCheck, FCApply, TxMs, RqRd, WrCkF, TxLook, FindM, SrvS, SrvL, SrvM, SrvN, TxClash, TpEnc, TpCheck, BSlice, CmtFit, TxScan, TCRange, FCRange, BitC, PartC, TxWrite, RqWt, HsKept, RqDe, TapeH, WrDtF, AcMem, PCCheck, SrvW, WrEnF, RdrF, RdrMem, FrameB, GearM, TpSync, TpCrash, TapTy, LnCk, LineH.
-/
import Derived.Deep.AppendLies
import Derived.Test.YtcieibjgedmdlaaGreatDoorQ1
import Derived.Maps.AppendAt
import Derived.Deep.RegionWith
import Derived.Handy
import Derived.ProofKit
import Derived.OpenShut
import Derived.ShutString
import Derived.ChangeOld
import Derived.Deep.DeepHandedRow
import Derived.SizedLaws
import Derived.Test.YtcieibjgedmdlaaGreatDoorRows
set_option maxRecDepth 100000
set_option maxHeartbeats 8000000
open Array renaming getElem?_eq_some_iff->tM,getElem?_modify->tY
open Bool renaming true->tA,false->tC
open Decidable renaming decide->tV
open Go renaming World->L,Value->N,TypeId->tZ,undef->sV
open Go.Ending renaming returned->tJ
open Go.IntKind renaming i64->tH
open Go.Obj renaming cells->tD
open Go.Obj.cells renaming injEq->sH
open Go.Proofs.Tryz renaming prog->tB
open Go.Region renaming wanted->sP
open Go.Value renaming slice->S,int->tE,bool->tQ,tuple->sS
open Go.Value.slice renaming injEq->tK
open Go.World renaming grownBy->Y,setCell->tI,cell?->tW,cell?_of_block->sW,ownsRow_nil->sY,grownBy_alloc->sZ
open Go.World.ownsRow renaming kept->tX,lt->sR
open List renaming length_append->tG,eq_nil_of_length_eq_zero->tN,mem_cons->tP,not_mem_nil->tR,flatMap_cons->tS,mem_append->sI,length_singleton->sJ,getElem?_take->sL,length_cons->sM,take_length->sN,mem_cons_of_mem->sQ,getElem?_eq_some_iff->sU
open Nat renaming lt_of_lt_of_le->tL,le_trans->tT,zero_le->tU,le_refl->sK
open Option renaming none->M,some->O
open Option.some renaming injEq->tF
namespace Go.Proofs.YtcieibjgedmdlaaGreatDoor
open Go.RowKit
def Oa(w:L)(v:N)(a:Ac):Prop:=∃vd,v=.agg #[tE tH a.kind,tE tH a.sess,tE tH a.keep,vd]∧Qe w vd a.data
theorem Oa.grown{w w':L}{v:N}{a:Ac}(h:Oa w v a)(hg:Y w w' M):Oa w' v a:=by
 obtain⟨c,rfl,b⟩:=h;exact⟨c,rfl,b.grown hg⟩
theorem Oa.agg{w:L}{v:N}{a:Ac}(h:Oa w v a):∃da dc,v=.agg #[tE tH a.kind,tE tH a.sess,tE tH a.keep,S da a.data.length dc]∧Qe w (S da a.data.length dc) a.data:=by
 obtain⟨c,rfl,b⟩:=h;obtain⟨da,dc,rfl⟩:=b.shape;exact⟨da,dc,rfl,b⟩
def AJ(w:L)(b o:Nat)(a:Ac):Prop:=∃vd,w.cell? ⟨b,o,M⟩=O (tE tH a.kind)∧w.cell? ⟨b,o+1,M⟩=O (tE tH a.sess)∧w.cell? ⟨b,o+2,M⟩=O (tE tH a.keep)∧w.cell? ⟨b,o+3,M⟩=O vd∧Qe w vd a.data
theorem AJ.grown{w w':L}{b o:Nat}{a:Ac}(h:AJ w b o a)(hg:Y w w' M):AJ w' b o a:=by
 obtain⟨i,c,d,e,f,g⟩:=h;exact⟨i,hg.cell c (by simp),hg.cell d (by simp),hg.cell e (by simp),hg.cell f (by simp),g.grown hg⟩
def Jc(w:L)(v:N)(l:List Ac):Prop:=∃a cap,v=S a l.length cap∧l.length<=cap∧((l=[]∧(a=M->cap=0))∨∃b o,a=O ⟨b,o,M⟩∧∀i,i<l.length->AJ w b (o+i*4) (l.getD i Vf))
theorem Nj(w:L):Jc w (S M 0 0) []:=⟨M,0,rfl,sK _,.inl ⟨rfl,fun _=>rfl⟩⟩
theorem Jc.shape{w:L}{v:N}{l:List Ac}(h:Jc w v l):∃a cap,v=S a l.length cap:=by
 obtain⟨a,cap,rfl,_⟩:=h;exact⟨a,cap,rfl⟩
theorem Jc.grown{w w':L}{v:N}{l:List Ac}(h:Jc w v l)(hg:Y w w' M):Jc w' v l:=by
 obtain⟨a,cap,rfl,c,h⟩:=h;refine⟨a,cap,rfl,c,?_⟩;rcases h with h|⟨b,o,rfl,h⟩;·exact .inl h
 ·exact .inr ⟨b,o,rfl,fun i d=>(h i d).grown hg⟩
theorem Jc.at{w:L}{a:Option Addr}{n cap:Nat}{l:List Ac}(h:Jc w (S a n cap) l)(i:Nat)(hi:i<l.length):∃b o,a=O ⟨b,o,M⟩∧AJ w b (o+i*4) (l.getD i Vf):=by
 obtain⟨d,c,e,f,h⟩:=h;simp only[tK]at e;obtain⟨rfl,rfl,rfl⟩:=e;rcases h with⟨rfl,_⟩|⟨b,o,rfl,h⟩;·simp at hi
 ·exact⟨b,o,rfl,h i hi⟩
structure LW(a:Ac):Prop where kind:-9223372036854775808<=a.kind∧a.kind<=9223372036854775807sess:-9223372036854775808<=a.sess∧a.sess<=9223372036854775807keep:-9223372036854775808<=a.keep∧a.keep<=9223372036854775807data:a.data.length<=140737488355328
structure EW (l : List Ac) : Prop where
  many : l.length * 48 <= 140737488355328
  each : ∀ i, i < l.length -> LW (l.getD i Vf)
theorem Ib{a:Ac}(h:Xx a):LW a:=by
 have b:=h.kind;have c:=h.data;have d:0<=a.sess∧a.sess<=7:=by by_cases e:a.kind=1;(·exact h.sess e);·rw[h.noSess e];omega
 have f:0<=a.keep∧a.keep<=200000:=by by_cases e:a.kind=3;(·exact h.keep e);·rw[h.noKeep e];omega
 exact⟨by omega,by omega,by omega,by omega⟩
abbrev AV:=Ac×N
def L9:AV:=(Vf,sV)
def Y9(us:List AV):List N:=us.flatMap fun x=>[tE tH x.1.kind,tE tH x.1.sess,tE tH x.1.keep,x.2]
theorem kN(us:List AV):(Y9 us).length=us.length*4:=by
 induction us with|nil=>rfl|cons x us ih=>rw[Y9,tS,tG,<-Y9,ih,sM];simp;omega
theorem PY(a b:List AV):Y9 (a++b)=Y9 a++Y9 b:=by
 simp[Y9]
theorem De:∀(us:List AV)(i:Nat),i<us.length->(Y9 us)[i*4]?=O (tE tH (us.getD i L9).1.kind)∧(Y9 us)[i*4+1]?=O (tE tH (us.getD i L9).1.sess)∧(Y9 us)[i*4+2]?=O (tE tH (us.getD i L9).1.keep)∧(Y9 us)[i*4+3]?=O (us.getD i L9).2|[],i,h=>by simp at h|x::us,0,_=>⟨rfl,rfl,rfl,rfl⟩|x::us,i+1,h=>by have:=De us i (by simpa using h);rw[show(i+1)*4=i*4+4by omega];exact this
theorem eS:(32:Nat)≠5:=by
 decide
def J7(rb:Nat)(w:L)(v:N)(l:List Ac):Prop:=∃us:List AV,us.map (·.1)=l∧w.ownsRow rb 32 4 v l.length (Y9 us)∧∀x∈us,Qh 0 w x.2 x.1.data
theorem dB(rb:Nat)(w:L):J7 rb w (S M 0 0) []:=⟨[],rfl,sY _ _ _ _,fun x hx=>by
 simp at hx⟩
theorem J7.row{rb:Nat}{w:L}{v:N}{l:List Ac}(h:J7 rb w v l):v.ownBlock=M∨∃g cur fz,v.ownBlock=O g∧rb<=g∧w.heap[g]?=O (tD cur 32 fz):=by
 obtain⟨c,_,h,_⟩:=h;rcases h.2with⟨rfl,_⟩|⟨g,cap,cur,rfl,a,b,_⟩;·exact .inl rfl
 ·exact .inr ⟨g,cur,_,rfl,a,b⟩
theorem J7.lt{rb:Nat}{w:L}{v:N}{l:List Ac}(h:J7 rb w v l):∀k,v.ownBlock=O k->rb<=k∧k<w.heap.size:=by
 obtain⟨a,_,h,_⟩:=h;exact sR h
theorem J7.grownNone{rb:Nat}{w w':L}{v:N}{l:List Ac}(h:J7 rb w v l)(hg:Y w w' M):J7 rb w' v l:=by
 obtain⟨e,a,b,c⟩:=h;refine⟨e,a,tX b hg ?_,fun x d=>(c x d).keptT hg (.inl rfl)⟩;cases hv:v.ownBlock with|none=>exact .inl rfl|some k=>exact .inr (by simp)
theorem J7.alloc{rb:Nat}{w:L}{v:N}{l:List Ac}(h:J7 rb w v l)(o:Obj):J7 rb (w.alloc o) v l:=h.grownNone (sZ _ _ _)
theorem J7.shape{rb:Nat}{w:L}{v:N}{l:List Ac}(h:J7 rb w v l):∃a cap,v=S a l.length cap:=by
 obtain⟨d,_,h,_⟩:=h;rcases h.2with⟨rfl,c⟩|⟨g,cap,b,rfl,_⟩;·exact⟨M,0,by rw[c]⟩
 ·exact⟨_,cap,rfl⟩
theorem Om{us:List AV}{l:List Ac}(h:us.map (·.1)=l)(i:Nat)(hi:i<l.length):(us.getD i L9).1=l.getD i Vf∧us.getD i L9∈us:=by
 subst h;have a:i<us.length:=by simpa using hi
 refine⟨by simp[a],?_⟩;rw[show us.getD i L9=us[i]by simp[a]];exact List.getElem_mem a
theorem J7.list{rb:Nat}{w:L}{v:N}{l:List Ac}(h:J7 rb w v l):Jc w v l:=by
 obtain⟨c,o,r,y⟩:=h;rcases r.2with⟨rfl,x⟩|⟨g,cap,d,rfl,D,z,B,E,F,C⟩;·have:l=[]:=tN x;rw[this];exact Nj w
 ·(have a:∀j u,(Y9 c)[j]?=O u->w.cell? ⟨g,j,M⟩=O u:=by intro j u n;(have e:j<l.length*4:=by have:=(sU.1 n).1;rw[r.1]at this;exact this);(have b:(d.toList.take (l.length*4))[j]?=(Y9 c)[j]?:=by rw[C]);rw[sL,if_pos e,n]at b;simp[tW,z];simpa using b);refine⟨_,cap,rfl,B,.inr ⟨g,0,rfl,fun i A=>?_⟩⟩;obtain⟨t,b⟩:=Om o i A;(have p:c.length=l.length:=by rw[<-o];simp);obtain⟨f,k,m,s⟩:=De c i (by omega);have q:=y _ b;rw[t]at f k m q;rw[Nat.zero_add];exact⟨_,a _ _ f,a _ _ k,a _ _ m,a _ _ s,q.1⟩
theorem RQ{rb:Nat}{w W w1:L}{v:N}{l:List Ac}(h:Y w W M)(ho:J7 rb W v l)(hb:w.heap.size<=rb)(hg:Y W w1 v.ownBlock):Y w w1 M:=⟨hg.os.trans h.os,hg.tape.trans h.tape,hg.output.trans h.output,tT h.size hg.size,fun i a b=>(hg.block i (tL a h.size) (fun e=>by
 have:=(ho.lt i e.symm).1;omega)).trans (h.block i a b)⟩
theorem Nk:(tB.info? 32).map (fun i=>(i.zero,i.size,i.bytes))=O (O (.agg #[tE tH 0,tE tH 0,tE tH 0,S M 0 0]),4,48):=by
 kernel_rfl
def Cd(w:L)(v:N)(p:Pr):Prop:=∃vk vv,v=.agg #[vk,vv]∧Qe w vk p.1∧Qe w vv p.2
theorem Cd.grown{w w':L}{v:N}{p:Pr}(h:Cd w v p)(hg:Y w w' M):Cd w' v p:=by
 obtain⟨c,d,rfl,a,b⟩:=h;exact⟨c,d,rfl,a.grown hg,b.grown hg⟩
def F3(w:L)(b o:Nat)(p:Pr):Prop:=∃vk vv,w.cell? ⟨b,o,M⟩=O vk∧w.cell? ⟨b,o+1,M⟩=O vv∧Qe w vk p.1∧Qe w vv p.2
theorem F3.grown{w w':L}{b o:Nat}{p:Pr}(h:F3 w b o p)(hg:Y w w' M):F3 w' b o p:=by
 obtain⟨f,g,a,c,d,e⟩:=h;exact⟨f,g,hg.cell a (by simp),hg.cell c (by simp),d.grown hg,e.grown hg⟩
def Qo(w:L)(v:N)(l:PL):Prop:=∃a cap,v=S a l.length cap∧l.length<=cap∧((l=[]∧(a=M->cap=0))∨∃b o,a=O ⟨b,o,M⟩∧∀i,i<l.length->F3 w b (o+i*2) (l.getD i ([],[])))
theorem XN(w:L):Qo w (S M 0 0) []:=⟨M,0,rfl,sK _,.inl ⟨rfl,fun _=>rfl⟩⟩
theorem Qo.grown{w w':L}{v:N}{l:PL}(h:Qo w v l)(hg:Y w w' M):Qo w' v l:=by
 obtain⟨a,cap,rfl,c,h⟩:=h;refine⟨a,cap,rfl,c,?_⟩;rcases h with h|⟨b,o,rfl,h⟩;·exact .inl h
 ·exact .inr ⟨b,o,rfl,fun i d=>(h i d).grown hg⟩
theorem Qo.shape{w:L}{v:N}{l:PL}(h:Qo w v l):∃a cap,v=S a l.length cap:=by
 obtain⟨a,cap,rfl,_⟩:=h;exact⟨a,cap,rfl⟩
theorem Qo.at{w:L}{a:Option Addr}{n cap:Nat}{l:PL}(h:Qo w (S a n cap) l)(i:Nat)(hi:i<l.length):∃b o,a=O ⟨b,o,M⟩∧F3 w b (o+i*2) (l.getD i ([],[])):=by
 obtain⟨d,c,e,f,h⟩:=h;simp only[tK]at e;obtain⟨rfl,rfl,rfl⟩:=e;rcases h with⟨rfl,_⟩|⟨b,o,rfl,h⟩;·simp at hi
 ·exact⟨b,o,rfl,h i hi⟩
theorem Qh.kept{base:Nat}{w w':L}{v:N}{bs:List UInt8}(h:Qh base w v bs){row:Option Nat}(hg:Y w w' row)(hrow:row=M∨∃g cur fz,row=O g∧base<=g∧w.heap[g]?=O (tD cur 45 fz)):Qh base w' v bs:=by
 obtain⟨q,u⟩:=h;rcases u with rfl|⟨b,l,j,c⟩;·obtain⟨a,cap,rfl,c,h⟩:=q;refine⟨⟨a,cap,rfl,c,?_⟩,.inl rfl⟩;rcases h with h|⟨b,o,rfl,h⟩;(·exact .inl h);·exact .inr ⟨b,o,rfl,fun i n=>by simp at n⟩
 ·(have k:O b≠row:=by intro e;rcases hrow with rfl|⟨g,cur,fz,rfl,t,f⟩;(·cases e);·cases e;rcases c with c|⟨p,s,c⟩;(·omega);·rw[c]at f;simp at f);have d:=hg.block b j k;refine⟨?_,.inr ⟨b,l,tL j hg.size,?_⟩⟩;(·obtain⟨a,cap,rfl,m,h⟩:=q;refine⟨a,cap,rfl,m,?_⟩;rcases h with h|⟨r,o,rfl,h⟩;(·exact .inl h);·refine .inr ⟨r,o,rfl,fun i n=>?_⟩;simp[Value.ownBlock]at l;subst l;exact hg.cell (h i n) (by simpa using k));·rcases c with c|⟨cur,fz,c⟩;(·exact .inl c);·exact .inr ⟨cur,fz,by rw[d];exact c⟩
def flat(vs:List (N×N)):List N:=vs.flatMap fun x=>[x.1,x.2]
theorem KV(vs:List (N×N)):(flat vs).length=vs.length*2:=by
 induction vs with|nil=>rfl|cons x r ih=>simp only[flat,tS,tG,sM,List.length_nil]at ih⊢;omega
theorem Kk(a b:List (N×N)):flat (a++b)=flat a++flat b:=by
 simp[flat]
theorem jL:∀(vs:List (N×N))(i:Nat),i<vs.length->(flat vs)[i*2]?=O (vs.getD i (sV,sV)).1∧(flat vs)[i*2+1]?=O (vs.getD i (sV,sV)).2|[],i,h=>by simp at h|x::r,0,_=>by simp[flat]|x::r,i+1,h=>by have:=jL r i (by simpa using h);rw[show(i+1)*2=i*2+2by omega,show i*2+2+1=(i*2+1)+2by omega];simpa[flat]using this
def qJ(base:Nat)(w:L)(v:N)(l:PL):Prop:=∃vs:List (N×N),vs.length=l.length∧w.ownsRow base 45 2 v l.length (flat vs)∧∀i,i<l.length->Qh base w (vs.getD i (sV,sV)).1 (l.getD i ([],[])).1∧Qh base w (vs.getD i (sV,sV)).2 (l.getD i ([],[])).2
theorem qJ.row{base:Nat}{w:L}{v:N}{l:PL}(h:qJ base w v l):v.ownBlock=M∨∃g cur fz,v.ownBlock=O g∧base<=g∧w.heap[g]?=O (tD cur 45 fz):=by
 obtain⟨c,_,h,_⟩:=h;rcases h.2with⟨rfl,_⟩|⟨g,cap,cur,rfl,a,b,_⟩;·exact .inl rfl
 ·exact .inr ⟨g,cur,_,rfl,a,b⟩
theorem qJ.lt{base:Nat}{w:L}{v:N}{l:PL}(h:qJ base w v l):∀k,v.ownBlock=O k->base<=k∧k<w.heap.size:=by
 obtain⟨a,_,h,_⟩:=h;exact sR h
theorem qJ.grownNone{base:Nat}{w w':L}{v:N}{l:PL}(h:qJ base w v l)(hg:Y w w' M):qJ base w' v l:=by
 obtain⟨e,c,d,a⟩:=h;refine⟨e,c,tX d hg ?_,fun i b=>⟨((a i b).1).kept hg (.inl rfl),((a i b).2).kept hg (.inl rfl)⟩⟩;cases hv:v.ownBlock with|none=>exact .inl rfl|some k=>exact .inr (by simp)
theorem qJ.alloc{base:Nat}{w:L}{v:N}{l:PL}(h:qJ base w v l)(o:Obj):qJ base (w.alloc o) v l:=h.grownNone (sZ _ _ _)
theorem qJ.shape{base:Nat}{w:L}{v:N}{l:PL}(h:qJ base w v l):∃a cap,v=S a l.length cap:=by
 obtain⟨d,_,h,_⟩:=h;rcases h.2with⟨rfl,c⟩|⟨g,cap,b,rfl,_⟩;·exact⟨M,0,by rw[c]⟩
 ·exact⟨_,cap,rfl⟩
theorem nJ{base:Nat}{w W w1:L}{v:N}{l:PL}(h:Y w W M)(ho:qJ base W v l)(hb:w.heap.size<=base)(hg:Y W w1 v.ownBlock):Y w w1 M:=⟨hg.os.trans h.os,hg.tape.trans h.tape,hg.output.trans h.output,tT h.size hg.size,fun i a b=>(hg.block i (tL a h.size) (fun e=>by
 have:=(ho.lt i e.symm).1;omega)).trans (h.block i a b)⟩
theorem Ag:(tB.info? 45).map (fun i=>(i.zero,i.size,i.bytes))=O (O (.agg #[S M 0 0,S M 0 0]),2,48):=by
 kernel_rfl
theorem JA{α:Type}(a b:List α)(i:Nat)(d:α):(a++b).getD i d=if i<a.length then a.getD i d else b.getD (i-a.length) d:=by
 by_cases h:i<a.length;·rw[if_pos h];simp[List.getElem?_append,h]
 ·rw[if_neg h];simp[List.getElem?_append,h]
theorem uA(vs:List (N×N))(k:Nat):flat (vs.take k)=(flat vs).take (k*2):=by
 induction vs generalizing k with|nil=>simp[flat]|cons x r ih=>cases k with|zero=>simp[flat]|succ k=>rw[List.take_succ_cons,show(k+1)*2=k*2+2by omega];have:=ih k;simp only[flat,tS,List.cons_append,List.nil_append,List.take_succ_cons]at this⊢;rw[this]
theorem Mq(vs:List (N×N))(k:Nat):flat (vs.drop k)=(flat vs).drop (k*2):=by
 induction vs generalizing k with|nil=>simp[flat]|cons x r ih=>cases k with|zero=>simp[flat]|succ k=>rw[List.drop_succ_cons,show(k+1)*2=k*2+2by omega];have:=ih k;simp only[flat,tS,List.cons_append,List.nil_append,List.drop_succ_cons]at this⊢;rw[this]
theorem qJ.cells{base:Nat}{w:L}{g n cap:Nat}{vs:List (N×N)}{l:PL}(hr:w.ownsRow base 45 2 (S (O ⟨g,0,M⟩) n cap) l.length (flat vs)):∀j u,(flat vs)[j]?=O u->w.cell? ⟨g,j,M⟩=O u:=by
 intro j u f;rcases hr.2with⟨e,_⟩|⟨k,c,a,e,m,h,p,o,q,i⟩;·cases e
 ·simp only[tK,tF,Addr.mk.injEq]at e;obtain⟨⟨rfl,_⟩,_,_⟩:=e;(have b:j<l.length*2:=by have:=(sU.1 f).1;rw[hr.1]at this;exact this);(have d:(a.toList.take (l.length*2))[j]?=(flat vs)[j]?:=by rw[i]);rw[sL,if_pos b,f]at d;simp[tW,h];simpa using d
theorem Za.setOther{base:Nat}{w:L}{v:N}{bs:List UInt8}(h:Za base w v bs)(c i:Nat)(x:N)(hc:c<base):Za base (tI w ⟨c,i,M⟩ x) v bs:=by
 refine h.grown (row:=O c) (Qg (Qb _ _) i x) ?_;cases hv:v.ownBlock with|none=>exact .inl rfl|some k=>have:=(h.lt k hv).1;exact .inr (by simp;omega)
theorem JL{W w:L}{b:Nat}{x y:N}{t:tZ}(hg:Y W w M)(h:W.heap[b]?=O (tD #[x,y] t))(u v:N):(tI w ⟨b,0,M⟩ u).cell? ⟨b,0,M⟩=O u∧((tI w ⟨b,0,M⟩ u).setCell ⟨b,1,M⟩ v).cell? ⟨b,1,M⟩=O v:=by
 have a:w.heap[b]?=O (tD #[x,y] t):=by rw[hg.block b (tM.1 h).1 (by simp)];exact h
 have c:w.cell? ⟨b,0,M⟩=O x:=by simp[tW,a]
 have d:w.cell? ⟨b,1,M⟩=O y:=by simp[tW,a]
 refine⟨World.cell?_setCell_same' _ _ _ (by rw[c];rfl),World.cell?_setCell_same' _ _ _ ?_⟩;rw[World.cell?_setCell_other _ _ _ _ (by simp),d];rfl
theorem G7{base:Nat}{W:L}{pb:Nat}{x y:N}(h:W.heap[pb]?=O (tD #[x,y] 45))(hb:base<=pb)(u v:N):((tI W ⟨pb,0,M⟩ u).setCell ⟨pb,1,M⟩ v).heap[pb]?=O (tD #[u,v] 45)∧(∀z bs,Qh base W z bs->Qh base ((tI W ⟨pb,0,M⟩ u).setCell ⟨pb,1,M⟩ v) z bs)∧∀w0:L,w0.heap.size<=pb->Y w0 W M->Y w0 ((tI W ⟨pb,0,M⟩ u).setCell ⟨pb,1,M⟩ v) M:=by
 refine⟨?_,fun z bs c=>?_,fun w0 a b=>Qc (Qc b _ a _ _) _ a _ _⟩;·simp only[tI,tY,if_true,h,Option.map_some];first|rfl|simp
 ·exact c.kept (Qg (Qg (Qb _ _) _ _) _ _) (.inr ⟨pb,_,_,rfl,hb,h⟩)
def KQ(rb pb:Nat)(w:L)(v:N)(l:PL):Prop:=∃vs:List (N×N),vs.length=l.length∧w.ownsRow rb 45 2 v l.length (flat vs)∧∀i,i<l.length->Qh pb w (vs.getD i (sV,sV)).1 (l.getD i ([],[])).1∧Qh pb w (vs.getD i (sV,sV)).2 (l.getD i ([],[])).2
theorem Sm(rb pb:Nat)(w:L):KQ rb pb w (S M 0 0) []:=⟨[],rfl,sY _ _ _ _,fun i hi=>by
 simp at hi⟩
theorem KQ.p{rb pb:Nat}{w:L}{v:N}{l:PL}(h:KQ rb pb w v l)(hb:pb<=rb):qJ pb w v l:=by
 obtain⟨e,c,a,d⟩:=h;refine⟨e,c,⟨a.1,?_⟩,d⟩;rcases a.2with h|⟨g,cap,b,c,a,d⟩;·exact .inl h
 ·exact .inr ⟨g,cap,b,c,tT hb a,d⟩
theorem KQ.row{rb base:Nat}{w:L}{v:N}{l:PL}(h:KQ rb base w v l)(hb:base<=rb):v.ownBlock=M∨∃g cur fz,v.ownBlock=O g∧base<=g∧w.heap[g]?=O (tD cur 45 fz):=(h.p hb).row
theorem KQ.lt{rb pb:Nat}{w:L}{v:N}{l:PL}(h:KQ rb pb w v l):∀k,v.ownBlock=O k->rb<=k∧k<w.heap.size:=by
 obtain⟨a,_,h,_⟩:=h;exact sR h
theorem KQ.grownNone{rb pb:Nat}{w w':L}{v:N}{l:PL}(h:KQ rb pb w v l)(hg:Y w w' M):KQ rb pb w' v l:=by
 obtain⟨e,c,d,a⟩:=h;refine⟨e,c,tX d hg ?_,fun i b=>⟨((a i b).1).kept hg (.inl rfl),((a i b).2).kept hg (.inl rfl)⟩⟩;cases hv:v.ownBlock with|none=>exact .inl rfl|some k=>exact .inr (by simp)
theorem KQ.alloc{rb pb:Nat}{w:L}{v:N}{l:PL}(h:KQ rb pb w v l)(o:Obj):KQ rb pb (w.alloc o) v l:=h.grownNone (sZ _ _ _)
theorem KQ.shape{rb pb:Nat}{w:L}{v:N}{l:PL}(h:KQ rb pb w v l):∃a cap,v=S a l.length cap:=by
 obtain⟨d,_,h,_⟩:=h;rcases h.2with⟨rfl,c⟩|⟨g,cap,b,rfl,_⟩;·exact⟨M,0,by rw[c]⟩
 ·exact⟨_,cap,rfl⟩
theorem ET{rb pb:Nat}{w W w1:L}{v:N}{l:PL}(h:Y w W M)(ho:KQ rb pb W v l)(hb:w.heap.size<=rb)(hg:Y W w1 v.ownBlock):Y w w1 M:=⟨hg.os.trans h.os,hg.tape.trans h.tape,hg.output.trans h.output,tT h.size hg.size,fun i a b=>(hg.block i (tL a h.size) (fun e=>by
 have:=(ho.lt i e.symm).1;omega)).trans (h.block i a b)⟩
def oT(base:Nat)(w:L)(b o:Nat)(p:Pr):Prop:=∃vk vv,w.cell? ⟨b,o,M⟩=O vk∧w.cell? ⟨b,o+1,M⟩=O vv∧Qh base w vk p.1∧Qh base w vv p.2
def QL(base:Nat)(w:L)(v:N)(l:PL):Prop:=∃a cap,v=S a l.length cap∧l.length<=cap∧((l=[]∧(a=M->cap=0))∨∃b o,a=O ⟨b,o,M⟩∧(b<base∨∃cur fz,w.heap[b]?=O (tD cur 45 fz))∧∀i,i<l.length->oT base w b (o+i*2) (l.getD i ([],[])))
theorem QL.list{base:Nat}{w:L}{v:N}{l:PL}(h:QL base w v l):Qo w v l:=by
 obtain⟨a,cap,rfl,g,h⟩:=h;refine⟨a,cap,rfl,g,?_⟩;rcases h with h|⟨b,o,rfl,_,h⟩;·exact .inl h
 ·refine .inr ⟨b,o,rfl,fun i j=>?_⟩;obtain⟨k,m,c,d,e,f⟩:=h i j;exact⟨k,m,c,d,e.1,f.1⟩
theorem Qo.pairsB{w w':L}{v:N}{l:PL}(h:Qo w v l)(hg:Y w w' M)(base:Nat)(hb:w.heap.size<=base):QL base w' v l:=by
 obtain⟨a,cap,rfl,n,h⟩:=h;refine⟨a,cap,rfl,n,?_⟩;rcases h with h|⟨b,o,rfl,h⟩;·exact .inl h
 ·by_cases d:l=[];(·exact .inl ⟨d,fun e=>by cases e⟩);·have q:0<l.length:=List.length_pos_iff.2 d;refine .inr ⟨b,o,rfl,.inl ?_,fun i p=>?_⟩;(·obtain⟨f,g,c,_⟩:=h 0 q;exact tL (U1 c) hb);·obtain⟨f,g,c,j,k,m⟩:=h i p;exact⟨f,g,hg.cell c (by simp),hg.cell j (by simp),k.part hg base hb,m.part hg base hb⟩
theorem qJ.pairsB{base:Nat}{w:L}{v:N}{l:PL}(h:qJ base w v l):QL base w v l:=by
 obtain⟨c,p,j,d⟩:=h;have a:=j;rcases j.2with⟨rfl,k⟩|⟨g,cap,b,rfl,o,m,n,q,r,s⟩;·have:l=[]:=tN k;subst this;exact⟨M,0,rfl,sK _,.inl ⟨rfl,fun _=>rfl⟩⟩
 ·refine⟨_,cap,rfl,n,.inr ⟨g,0,rfl,.inr ⟨b,_,m⟩,fun i f=>?_⟩⟩;have e:=jL c i (by omega);refine⟨(c.getD i (sV,sV)).1,(c.getD i (sV,sV)).2,?_,?_,(d i f).1,(d i f).2⟩;(·have:=qJ.cells a _ _ e.1;rw[Nat.zero_add];exact this);·have:=qJ.cells a _ _ e.2;rw[Nat.zero_add];exact this
theorem QL.kept{base:Nat}{w w':L}{v:N}{l:PL}(h:QL base w v l){row:Option Nat}(hg:Y w w' row)(hrow:row=M∨∃g cur t fz,row=O g∧base<=g∧w.heap[g]?=O (tD cur t fz)∧t≠5∧t≠45):QL base w' v l:=by
 obtain⟨a,cap,rfl,D,h⟩:=h;refine⟨a,cap,rfl,D,?_⟩;rcases h with h|⟨b,o,rfl,d,h⟩;·exact .inl h
 ·by_cases s:l=[];(·exact .inl ⟨s,fun e=>by cases e⟩);·have F:0<l.length:=List.length_pos_iff.2 s;(have p:b<w.heap.size:=by obtain⟨u,x,k,_⟩:=h 0 F;exact U1 k);(have j:O b≠row:=by intro e;rcases hrow with rfl|⟨g,cur,t,fz,rfl,C,f,G,q⟩;(·cases e);·cases e;rcases d with d|⟨r,z,d⟩;(·omega);·rw[d]at f;simp only[tF,sH]at f;exact q f.2.1.symm);(have c:row=M∨∃g cur t fz,row=O g∧base<=g∧w.heap[g]?=O (tD cur t fz)∧t≠5:=by rcases hrow with h|⟨g,cur,t,fz,m,n,A,B,_⟩;(·exact .inl h);·exact .inr ⟨g,cur,t,fz,m,n,A,B⟩);refine .inr ⟨b,o,rfl,?_,fun i E=>?_⟩;(·rcases d with d|⟨cur,fz,d⟩;(·exact .inl d);·exact .inr ⟨cur,fz,by rw[hg.block b p j];exact d⟩);·obtain⟨u,x,k,y,m,n⟩:=h i E;exact⟨u,x,hg.cell k (by simpa using j),hg.cell y (by simpa using j),m.keptT hg c,n.keptT hg c⟩
theorem QL.grown{base:Nat}{w w':L}{v:N}{l:PL}(h:QL base w v l)(hg:Y w w' M):QL base w' v l:=h.kept hg (.inl rfl)
theorem jX{base:Nat}{w:L}{v:N}{l:PL}(h:QL base w v l):v.oneCell'=tA:=by
 obtain⟨a,cap,rfl,_⟩:=h;rfl
theorem YI(base:Nat)(w:L):QL base w (S M 0 0) []:=⟨M,0,rfl,sK _,.inl ⟨rfl,fun _=>rfl⟩⟩
theorem QL.shape{base:Nat}{w:L}{v:N}{l:PL}(h:QL base w v l):∃a cap,v=S a l.length cap:=by
 obtain⟨a,cap,rfl,_⟩:=h;exact⟨a,cap,rfl⟩
theorem QL.mono{base base':Nat}{w:L}{v:N}{l:PL}(h:QL base w v l)(hb:base<=base'):QL base' w v l:=by
 obtain⟨a,cap,rfl,g,h⟩:=h;refine⟨a,cap,rfl,g,?_⟩;rcases h with h|⟨b,o,rfl,c,f⟩;·exact .inl h
 ·refine .inr ⟨b,o,rfl,?_,fun i j=>?_⟩;(·rcases c with c|c;(·exact .inl (by omega));·exact .inr c);·obtain⟨n,p,d,e,k,m⟩:=f i j;exact⟨n,p,d,e,k.mono hb,m.mono hb⟩
theorem KQ.pairsB{rb:Nat}{w:L}{v:N}{l:PL}(h:KQ rb 0 w v l):QL 0 w v l:=(h.p (tU _)).pairsB
theorem QL.up{w:L}{v:N}{l:PL}(h:QL 0 w v l)(base:Nat):QL base w v l:=h.mono (tU _)
abbrev WV:=Q6×N×N×N
def SO:WV:=(Qp,sV,sV,sV)
def Jh(us:List WV):List N:=us.flatMap fun x=>[x.2.1,x.2.2.1,tQ x.1.gone,x.2.2.2]
theorem Od(us:List WV):(Jh us).length=us.length*4:=by
 induction us with|nil=>rfl|cons x r ih=>simp only[Jh,tS,tG,sM,List.length_nil]at ih⊢;omega
theorem Pk(a b:List WV):Jh (a++b)=Jh a++Jh b:=by
 simp[Jh]
theorem Dj:∀(us:List WV)(i:Nat),i<us.length->(Jh us)[i*4]?=O (us.getD i SO).2.1∧(Jh us)[i*4+1]?=O (us.getD i SO).2.2.1∧(Jh us)[i*4+2]?=O (tQ (us.getD i SO).1.gone)∧(Jh us)[i*4+3]?=O (us.getD i SO).2.2.2|[],i,h=>by simp at h|x::r,0,_=>by simp[Jh]|x::r,i+1,h=>by have:=Dj r i (by simpa using h);rw[show(i+1)*4=i*4+4by omega,show i*4+4+1=(i*4+1)+4by omega,show i*4+4+2=(i*4+2)+4by omega,show i*4+4+3=(i*4+3)+4by omega];simpa[Jh]using this
theorem vZ:(154:Nat)≠5:=by
 decide
theorem Ob{us:List WV}{l:List Q6}(h:us.map (·.1)=l)(i:Nat)(hi:i<l.length):(us.getD i SO).1=l.getD i Qp∧us.getD i SO∈us:=by
 subst h;have a:i<us.length:=by simpa using hi
 refine⟨by simp[a],?_⟩;rw[show us.getD i SO=us[i]by simp[a]];exact List.getElem_mem a
theorem gL:(tB.info? 154).map (fun i=>(i.zero,i.size,i.bytes))=O (O (.agg #[S M 0 0,S M 0 0,tQ tC,S M 0 0]),4,80):=by
 kernel_rfl
theorem Ny(w:L)(vn vk vv:N)(p:Q6)(h1:Qe w vn p.name)(h2:Qe w vk p.key)(h3:Qe w vv p.value)(t:tZ):QP (w.alloc (tD #[vn,vk,tQ p.gone,vv] t)) (S (O ⟨w.heap.size,0,M⟩) 1 1) [p]:=by
 refine⟨_,1,rfl,by simp,.inr ⟨w.heap.size,0,rfl,fun i a=>?_⟩⟩;match i,a with|0,_=>exact⟨vn,vk,vv,by simp,by simp,by simp,by simp,h1.alloc _,h2.alloc _,h3.alloc _⟩
def dM(base:Nat)(w:L)(b o:Nat)(p:Q6):Prop:=∃vn vk vv,w.cell? ⟨b,o,M⟩=O vn∧w.cell? ⟨b,o+1,M⟩=O vk∧w.cell? ⟨b,o+2,M⟩=O (tQ p.gone)∧w.cell? ⟨b,o+3,M⟩=O vv∧Qh base w vn p.name∧Qh base w vk p.key∧Qh base w vv p.value
def Xv(base:Nat)(w:L)(v:N)(l:List Q6):Prop:=∃a cap,v=S a l.length cap∧l.length<=cap∧((l=[]∧(a=M->cap=0))∨∃b o,a=O ⟨b,o,M⟩∧(b<base∨∃cur fz,w.heap[b]?=O (tD cur 154 fz))∧∀i,i<l.length->dM base w b (o+i*4) (l.getD i Qp))
theorem Bt(base:Nat)(w:L):Xv base w (S M 0 0) []:=⟨M,0,rfl,sK _,.inl ⟨rfl,fun _=>rfl⟩⟩
theorem Xv.shape{base:Nat}{w:L}{v:N}{l:List Q6}(h:Xv base w v l):∃a cap,v=S a l.length cap:=by
 obtain⟨a,cap,rfl,_⟩:=h;exact⟨a,cap,rfl⟩
theorem Xv.oneCell{base:Nat}{w:L}{v:N}{l:List Q6}(h:Xv base w v l):v.oneCell'=tA:=by
 obtain⟨a,cap,rfl,_⟩:=h;rfl
theorem Xv.list{base:Nat}{w:L}{v:N}{l:List Q6}(h:Xv base w v l):QP w v l:=by
 obtain⟨a,cap,rfl,m,h⟩:=h;refine⟨a,cap,rfl,m,?_⟩;rcases h with h|⟨b,o,rfl,_,h⟩;·exact .inl h
 ·refine .inr ⟨b,o,rfl,fun i n=>?_⟩;obtain⟨q,p,r,c,d,e,f,g,j,k⟩:=h i n;exact⟨q,p,r,c,d,e,f,g.1,j.1,k.1⟩
theorem Xv.kept{base:Nat}{w w':L}{v:N}{l:List Q6}(h:Xv base w v l){row:Option Nat}(hg:Y w w' row)(hrow:row=M∨∃g cur t fz,row=O g∧base<=g∧w.heap[g]?=O (tD cur t fz)∧t≠5∧t≠154):Xv base w' v l:=by
 obtain⟨a,cap,rfl,G,h⟩:=h;refine⟨a,cap,rfl,G,?_⟩;rcases h with h|⟨b,o,rfl,f,h⟩;·exact .inl h
 ·by_cases u:l=[];(·exact .inl ⟨u,fun e=>by cases e⟩);·have I:0<l.length:=List.length_pos_iff.2 u;(have q:b<w.heap.size:=by obtain⟨y,x,z,k,_⟩:=h 0 I;exact U1 k);(have d:O b≠row:=by intro e;rcases hrow with rfl|⟨g,cur,t,fz,rfl,F,j,J,r⟩;(·cases e);·cases e;rcases f with f|⟨s,D,f⟩;(·omega);·rw[f]at j;simp only[tF,sH]at j;exact r j.2.1.symm);(have c:row=M∨∃g cur t fz,row=O g∧base<=g∧w.heap[g]?=O (tD cur t fz)∧t≠5:=by rcases hrow with h|⟨g,cur,t,fz,m,n,p,E,_⟩;(·exact .inl h);·exact .inr ⟨g,cur,t,fz,m,n,p,E⟩);refine .inr ⟨b,o,rfl,?_,fun i H=>?_⟩;(·rcases f with f|⟨cur,fz,f⟩;(·exact .inl f);·exact .inr ⟨cur,fz,by rw[hg.block b q d];exact f⟩);·obtain⟨y,x,z,k,A,B,C,m,n,p⟩:=h i H;exact⟨y,x,z,hg.cell k (by simpa using d),hg.cell A (by simpa using d),hg.cell B (by simpa using d),hg.cell C (by simpa using d),m.keptT hg c,n.keptT hg c,p.keptT hg c⟩
theorem Xv.grown{base:Nat}{w w':L}{v:N}{l:List Q6}(h:Xv base w v l)(hg:Y w w' M):Xv base w' v l:=h.kept hg (.inl rfl)
def Ks(w:L)(v:N)(c:XJ):Prop:=∃vs,v=.agg #[tE tH c.turn,vs]∧QP w vs c.writes
theorem Ks.grown{w w':L}{v:N}{c:XJ}(h:Ks w v c)(hg:Y w w' M):Ks w' v c:=by
 obtain⟨a,rfl,h⟩:=h;exact⟨a,rfl,h.grown hg⟩
theorem Ks.agg{w:L}{v:N}{c:XJ}(h:Ks w v c):∃a cap,v=.agg #[tE tH c.turn,S a c.writes.length cap]:=by
 obtain⟨b,rfl,h⟩:=h;obtain⟨a,cap,rfl⟩:=h.shape;exact⟨a,cap,rfl⟩
theorem Ks.writes{w:L}{c:XJ}{x y:N}(h:Ks w (.agg #[x,y]) c):x=tE tH c.turn∧QP w y c.writes:=by
 obtain⟨a,e,h⟩:=h;injection e with e;injection e with e;injection e with e1 e;injection e with e2 e;exact⟨e1,e2▸h⟩
structure M3(c:XJ):Prop where turn:-9223372036854775808<=c.turn∧c.turn<=9223372036854775807writes:Pd c.writes
structure GK where
  data : List UInt8
  synced : Int
def GR:GK:=⟨[],0⟩
def Uj(w:L)(v:N)(t:GK):Prop:=∃vd,v=.agg #[vd,tE tH t.synced]∧Qe w vd t.data
theorem Uj.grown{w w':L}{v:N}{t:GK}(h:Uj w v t)(hg:Y w w' M):Uj w' v t:=by
 obtain⟨a,rfl,h⟩:=h;exact⟨a,rfl,h.grown hg⟩
theorem Uj.agg{w:L}{v:N}{t:GK}(h:Uj w v t):∃a cap,v=.agg #[S a t.data.length cap,tE tH t.synced]:=by
 obtain⟨b,rfl,h⟩:=h;obtain⟨a,cap,rfl⟩:=h.shape;exact⟨a,cap,rfl⟩
theorem Uj.data{w:L}{t:GK}{x y:N}(h:Uj w (.agg #[x,y]) t):Qe w x t.data∧y=tE tH t.synced:=by
 obtain⟨a,e,h⟩:=h;injection e with e;injection e with e;injection e with e1 e;injection e with e2 e;exact⟨e1▸h,e2⟩
structure jU(t:GK):Prop where data:t.data.length<=140737488355328synced:-9223372036854775808<=t.synced∧t.synced<=9223372036854775807
def YH(w:L)(v:N)(t:GK):Prop:=∃vd,v=.agg #[vd,tE tH t.synced]∧Qh 0 w vd t.data
theorem YH.is{w:L}{v:N}{t:GK}(h:YH w v t):Uj w v t:=by
 obtain⟨a,rfl,h⟩:=h;exact⟨a,rfl,h.slice⟩
theorem GD(w:L):YH w (.agg #[S M 0 0,tE tH 0]) GR:=⟨_,rfl,Qw w,.inl rfl⟩
def qI(t:GK):Bool:=tV (t.data.length<=200000)&&tV (0<=t.synced∧t.synced<=(t.data.length:Int))
theorem K3(t:GK):qI t=tA↔t.data.length<=200000∧0<=t.synced∧t.synced<=(t.data.length:Int):=by
 unfold qI;rw[Bool.and_eq_true,decide_eq_true_iff,decide_eq_true_iff]
def Ei(c:XJ):List UInt8:=if QW c=0then Zm c else[]
def E9(t:GK):Int:=if qI t=tA then 0 else 6
def KN(t:GK):GK:=if qI t=tA then⟨t.data,(t.data.length:Int)⟩else GR
def UQ(t:GK)(keep:Int):Int:=if qI t=tA then(if keep<0then 2 else 0)else 6
def XD(t:GK)(keep:Int):Nat:=if keep<(t.data.length:Int)-t.synced then(t.synced+keep).toNat else t.data.length
def XA(t:GK)(keep:Int):GK:=if UQ t keep=0then⟨t.data.take (XD t keep),(XD t keep:Int)⟩else GR
def VC(D:List UInt8->List UInt8)(t:GK)(c:XJ):Int:=if qI t=tA then(if QW c=0then(if 200000<t.data.length+(ZK D c).length then 11 else 0)else QW c)else 6
def qZ(D:List UInt8->List UInt8)(t:GK)(c:XJ):GK:=if VC D t c=0then⟨t.data++ZK D c,t.synced⟩else GR
def Ma(t:GK):Int:=if qI t=tA then 0 else 6
def kC(D:List UInt8->List UInt8)(t:GK):List XJ:=if qI t=tA then(K4 D 1 t.data).1 else[]
def yY(D:List UInt8->List UInt8)(t:GK):GK:=if qI t=tA then⟨t.data.take (Bb D t.data),if t.synced>(Bb D t.data:Int)then(Bb D t.data:Int)else t.synced⟩else GR
theorem En:∀(ws:List Q6)(l:FL)(m:Nat),Zb l->(∀w∈ws,QA w=0)->EU m l->m+ws.length<=60->l.length+ws.length<=8->ZA l ws=0|[],l,m,_,_,_,_,_=>rfl|w::ws,l,m,h,hv,hs,hm,h8=>by have a:=hv w (by simp);have d:=To l w;simp only[sM]at hm h8;(have b:XC l w=0:=by rw[yT h a hs (by omega),if_neg (by omega)]);rw[ZA,if_pos a,if_pos b];exact En ws _ (m+1) (UZ h a b) (fun x c=>hv x (sQ _ c)) (NZ h.rises hs w) (by omega) (by omega)
theorem kE{D:List UInt8->List UInt8}(hD:∀x,(D x).length=4){c:XJ}(hc:QW c=0):6<=(ZK D c).length∧(ZK D c).length<=600:=by
 have a:=F0 hD c;have b:=Vv hc;omega
theorem SN(D:List UInt8->List UInt8)(cs:List XJ)(i:Nat)(h:i<cs.length):QU D (cs.take (i+1))=QU D (cs.take i)++ZK D (cs.getD i Zq):=by
 rw[List.take_succ_eq_append_getElem h,Gd,FS,show cs[i]=cs.getD i Zq by simp[h]]
theorem nY{D:List UInt8->List UInt8}{t:GK}(hm:qI t=tA){cs:List XJ}{r:List UInt8}{n:Nat}(h:K4 D 1 t.data=(cs,r))(hn:Bb D t.data=n):Ma t=0∧kC D t=cs∧yY D t=⟨t.data.take n,if t.synced>(n:Int)then(n:Int)else t.synced⟩:=by
 refine⟨by rw[Ma,if_pos hm],by rw[kC,if_pos hm,h],by rw[yY,if_pos hm,hn]⟩
theorem eA{D:List UInt8->List UInt8}(hD:∀x,(D x).length=4){cs:List XJ}(h:xS 1 cs)(k:Nat)(s:Int)(hk:k<=(QU D cs).length)(hs:0<=s∧s<=(k:Int))(hl:(QU D cs).length<=200000):∃j,j<=cs.length∧(QU D (cs.take j)).length<=k∧(j<cs.length->k<(QU D (cs.take (j+1))).length)∧Ma ⟨(QU D cs).take k,s⟩=0∧kC D ⟨(QU D cs).take k,s⟩=cs.take j∧yY D ⟨(QU D cs).take k,s⟩=⟨QU D (cs.take j),if s>((QU D (cs.take j)).length:Int)then((QU D (cs.take j)).length:Int)else s⟩:=by
 obtain⟨j,i,f,g,o,l⟩:=AY hD h k;have d:((QU D cs).take k).length=k:=by simp;omega
 have m:qI ⟨(QU D cs).take k,s⟩=tA:=(K3 _).2 ⟨by show((QU D cs).take k).length<=_;omega,by show 0<=s∧s<=(((QU D cs).take k).length:Int);omega⟩;have n:Bb D ((QU D cs).take k)=(QU D (cs.take j)).length:=by rw[Bb,f,d];show k-(((QU D cs).take k).drop _).length=_;rw[List.length_drop,d];omega
 obtain⟨a,b,c⟩:=nY m f n;refine⟨j,i,g,l,a,b,?_⟩;rw[c];have e:((QU D cs).take k).take (QU D (cs.take j)).length=QU D (cs.take j):=by rw[List.take_take,Nat.min_eq_left g];(conv=>lhs;rw[<-List.take_append_drop j cs,Gd]);rw[show(cs.take j++cs.drop j).take j=cs.take j by rw[List.take_append_drop]];exact List.take_left' rfl
 show(⟨((QU D cs).take k).take _,_⟩:GK)=_;rw[e]
def dD:FL->Nat->List XJ->Int|_,_,[]=>0|f,i,c::cs=>if QW c=0then(if c.turn=((i+1:Nat):Int)then(if QM f c.writes=0then dD (ZQ f c.writes) (i+1) cs else QM f c.writes)else 3)else QW c
def VX:FL->List XJ->FL|f,[]=>f|f,c::cs=>VX (ZQ f c.writes) cs
theorem Ff:∀(a b:List XJ)(f:FL),VX f (a++b)=VX (VX f a) b|[],_,_=>rfl|_::a,b,_=>Ff a b _
theorem E8(cs:List XJ)(f:FL)(c:XJ):VX f (cs++[c])=ZQ (VX f cs) c.writes:=by
 rw[Ff];rfl
def vN:FL->Nat->List XJ->Prop|_,_,[]=>True|f,i,c::cs=>QW c=0∧c.turn=((i+1:Nat):Int)∧QM f c.writes=0∧vN (ZQ f c.writes) (i+1) cs
theorem vN.take:∀{cs:List XJ}{f:FL}{i:Nat}(_:vN f i cs)(j:Nat),vN f i (cs.take j)|[],_,_,_,j=>by rw[List.take_nil];trivial|_::_,_,_,_,0=>trivial|_::_,_,_,h,j+1=>⟨h.1,h.2.1,h.2.2.1,vN.take h.2.2.2 j⟩
theorem vN.at:∀{cs:List XJ}{f:FL}{i:Nat}(_:vN f i cs)(j:Nat)(_:j<cs.length),QW (cs.getD j Zq)=0∧(cs.getD j Zq).turn=((i+j+1:Nat):Int)∧QM (VX f (cs.take j)) (cs.getD j Zq).writes=0|[],_,_,_,j,hj=>by simp at hj|c::cs,f,i,h,0,_=>⟨h.1,h.2.1,h.2.2.1⟩|c::cs,f,i,h,j+1,hj=>by have:=vN.at h.2.2.2 j (by simpa using hj);rw[show i+(j+1)+1=i+1+j+1by omega];simpa[VX]using this
theorem yG{l:FL}(h:Zb l)(ws:List Q6):Zb (ZQ l ws):=by
 unfold ZQ;by_cases a:QM l ws=0;·rw[if_pos a];unfold QM at a;rw[if_pos ((Z6 l).2 h)]at a;by_cases b:10<ws.length;(·rw[if_pos b]at a;omega);·rw[if_neg b]at a;exact P5 ws l h a
 ·rw[if_neg a];exact Kg
theorem UR:∀(cs:List XJ)(f:FL),Zb f->Zb (VX f cs)|[],_,h=>h|c::cs,_,h=>UR cs _ (yG h c.writes)
def Jg(n t:Int):Bool:=tV (0<=t∧t<=n∧n-t<6)
def ER(a b:Q6):Prop:=a.name=b.name∧a.key=b.key
def MZ(l:List Q6):Prop:=l.Pairwise fun a b=>¬ER a b
def XP(a b:Rd):Bool:=a.wide==b.wide&&(tV (a.name=b.name)&&(tV (a.key=b.key)&&tV (a.last=b.last)))
theorem xF(a b:Rd):XP a b=tA↔a=b:=by
 obtain⟨n,k,w,l⟩:=a;obtain⟨i,g,j,h⟩:=b;simp only[XP,Bool.and_eq_true,decide_eq_true_iff,beq_iff_eq,Rd.mk.injEq];exact⟨fun⟨c,d,e,f⟩=>⟨d,e,c,f⟩,fun⟨c,d,e,f⟩=>⟨e,c,d,f⟩⟩
def ZW(a b:Q6):Bool:=tV (a.name=b.name)&&tV (a.key=b.key)
theorem xR(a b:Q6):ZW a b=tA↔ER a b:=by
 simp only[ZW,Bool.and_eq_true,decide_eq_true_iff];exact Iff.rfl
def zJ:List Rd->List Rd->Int|_,[]=>0|p,r::rs=>if XM r=0then(if p.any (fun q=>XP q r)=tA then 3 else zJ (p++[r]) rs)else XM r
def jP:List Q6->List Q6->Int|_,[]=>0|p,w::ws=>if QA w=0then(if p.any (fun q=>ZW q w)=tA then 3 else jP (p++[w]) ws)else QA w
theorem Ea:∀(rs p:List Rd),zJ p rs=0↔(∀r∈rs,XM r=0)∧(∀r∈rs,r∉p)∧rs.Nodup|[],p=>by simp[zJ]|r::rs,p=>by have m:=Ea rs (p++[r]);rw[zJ];by_cases f:XM r=0;(·rw[if_pos f];by_cases g:p.any (fun q=>XP q r)=tA;(·rw[if_pos g];refine⟨fun h=>by omega,fun h=>?_⟩;obtain⟨q,j,k⟩:=List.any_eq_true.1 g;rw[(xF q r).1 k]at j;exact absurd j (h.2.1 r (List.mem_cons_self ..)));·rw[if_neg g,m];have l:r∉p:=fun d=>g (List.any_eq_true.2 ⟨r,d,(xF r r).2 rfl⟩);constructor;(·rintro⟨a,b,c⟩;refine⟨fun x e=>?_,fun x e=>?_,List.nodup_cons.2 ⟨fun d=>b r d (by simp),c⟩⟩;(·rcases tP.1 e with rfl|e;(·exact f);·exact a x e);·rcases tP.1 e with rfl|e;(·exact l);·exact fun d=>b x e (sI.2 (.inl d)));·rintro⟨a,b,c⟩;have i:=List.nodup_cons.1 c;refine⟨fun x e=>a x (sQ _ e),fun x e d=>?_,i.2⟩;rcases sI.1 d with d|d;(·exact b x (sQ _ e) d);·simp only[tP,tR,or_false]at d;subst d;exact i.1 e);·rw[if_neg f];exact⟨fun h=>absurd h f,fun h=>absurd (h.1 r (List.mem_cons_self ..)) f⟩
theorem CT:∀(ws p:List Q6),jP p ws=0↔(∀w∈ws,QA w=0)∧(∀w∈ws,∀q∈p,¬ER q w)∧MZ ws|[],p=>by simp[jP,MZ]|w::ws,p=>by have n:=CT ws (p++[w]);rw[jP];by_cases g:QA w=0;(·rw[if_pos g];by_cases i:p.any (fun q=>ZW q w)=tA;(·rw[if_pos i];refine⟨fun h=>by omega,fun h=>?_⟩;obtain⟨q,j,l⟩:=List.any_eq_true.1 i;exact absurd ((xR q w).1 l) (h.2.1 w (List.mem_cons_self ..) q j));·rw[if_neg i,n];have m:∀q∈p,¬ER q w:=fun q f e=>i (List.any_eq_true.2 ⟨q,f,(xR q w).2 e⟩);constructor;(·rintro⟨a,b,c⟩;refine⟨fun x d=>?_,fun x d q j=>?_,List.pairwise_cons.2 ⟨fun x d=>b x d w (by simp),c⟩⟩;(·rcases tP.1 d with rfl|d;(·exact g);·exact a x d);·rcases tP.1 d with rfl|d;(·exact m q j);·exact b x d q (sI.2 (.inl j)));·rintro⟨a,b,c⟩;have k:=List.pairwise_cons.1 c;refine⟨fun x d=>a x (sQ _ d),fun x d q f=>?_,k.2⟩;rcases sI.1 f with f|f;(·exact b x (sQ _ d) q f);·simp only[tP,tR,or_false]at f;subst f;exact k.1 x d);·rw[if_neg g];exact⟨fun h=>absurd h g,fun h=>absurd (h.1 w (List.mem_cons_self ..)) g⟩
structure Tx where
  start : Int
  reads : List Rd
  writes : List Q6
def T8:Tx:=⟨0,[],[]⟩
def G0(t:Tx):Int:=if 0<=t.start∧t.start<=1048576then(if 20<t.reads.length∨10<t.writes.length then 1 else(if zJ [] t.reads=0then jP [] t.writes else zJ [] t.reads))else 2
structure xA (t : Tx) : Prop where
  start : 0 <= t.start ∧ t.start <= 1048576
  reads : t.reads.length <= 20
  writes : t.writes.length <= 10
  each : ∀ r ∈ t.reads, XM r = 0
  once : t.reads.Nodup
  wrs : ∀ w ∈ t.writes, QA w = 0
  apart : MZ t.writes
theorem kH(t:Tx):G0 t=0↔xA t:=by
 unfold G0;by_cases c:0<=t.start∧t.start<=1048576;·rw[if_pos c];by_cases e:20<t.reads.length∨10<t.writes.length;(·rw[if_pos e];exact⟨fun h=>by omega,fun h=>by have:=h.reads;have:=h.writes;omega⟩);·rw[if_neg e];by_cases a:zJ [] t.reads=0;(·rw[if_pos a,CT];have b:=(Ea _ _).1 a;exact⟨fun h=>⟨c,by omega,by omega,b.1,b.2.2,h.1,h.2.2⟩,fun h=>⟨h.wrs,fun _ _ _ d=>by simp at d,h.apart⟩⟩);·rw[if_neg a];exact⟨fun h=>absurd h a,fun h=>absurd ((Ea _ _).2 ⟨h.each,fun _ _ d=>by simp at d,h.once⟩) a⟩
 ·rw[if_neg c];exact⟨fun h=>by omega,fun h=>absurd h.start c⟩
def N9(t:Tx)(r:Rd):Bool:=t.reads.any (fun q=>XP q r)
theorem dJ(t:Tx)(r:Rd):N9 t r=tA↔r∈t.reads:=by
 unfold N9;rw[List.any_eq_true];exact⟨fun⟨q,a,e⟩=>(xF q r).1 e▸a,fun h=>⟨r,h,(xF r r).2 rfl⟩⟩
def Xm(t:Tx)(r:Rd):Int:=if G0 t=0then(if XM r=0then(if N9 t r=tA then 0 else(if t.reads.length=20then 11 else 0))else XM r)else G0 t
def X5(t:Tx)(r:Rd):Tx:=if Xm t r=0then(if N9 t r=tA then t else⟨t.start,t.reads++[r],t.writes⟩)else T8
theorem mZ{t:Tx}(h:xA t){r:Rd}(hr:XM r=0):Xm t r=if N9 t r=tA then 0 else(if t.reads.length=20then 11 else 0):=by
 rw[Xm,if_pos ((kH t).2 h),if_pos hr]
theorem lW{t:Tx}(h:xA t){r:Rd}(hr:XM r=0)(he:Xm t r=0):xA (X5 t r):=by
 rw[X5,if_pos he];by_cases d:N9 t r=tA;·rw[if_pos d];exact h
 ·rw[if_neg d];rw[mZ h hr,if_neg d]at he;have j:r∉t.reads:=fun e=>d ((dJ t r).2 e);(have g:t.reads.length≠20:=fun e=>by rw[if_pos e]at he;omega);refine⟨h.start,?_,h.writes,fun x c=>?_,?_,h.wrs,h.apart⟩;(·have:=h.reads;simp;omega);(·rcases sI.1 c with c|c;(·exact h.each x c);·simp only[tP,tR,or_false]at c;rw[c];exact hr);·rw[List.nodup_append];refine⟨h.once,by simp,fun a i b f e=>?_⟩;simp only[tP,tR,or_false]at f;subst f;subst e;exact j i
def T6(l:List Q6)(w:Q6):Bool:=l.any (fun q=>ZW q w)
def yX:List Q6->Q6->List Q6|[],w=>[w]|a::l,w=>if ZW a w=tA then w::l else a::yX l w
def Z4(t:Tx)(w:Q6):Int:=if G0 t=0then(if QA w=0then(if T6 t.writes w=tA then 0 else(if t.writes.length=10then 11 else 0))else QA w)else G0 t
def Ye(t:Tx)(w:Q6):Tx:=if Z4 t w=0then⟨t.start,t.reads,yX t.writes w⟩else T8
theorem Bl:∀(l:List Q6)(w:Q6),(yX l w).length=if T6 l w=tA then l.length else l.length+1|[],w=>rfl|a::l,w=>by rw[yX,T6,List.any_cons];by_cases h:ZW a w=tA;(·rw[if_pos h,h];rfl);·rw[if_neg h,sM,Bl l w];(have c:ZW a w=tC:=by simpa using h);rw[c,Bool.false_or];show _=if T6 l w=tA then _ else _;by_cases b:T6 l w=tA;(·rw[if_pos b,if_pos b];rfl);·rw[if_neg b,if_neg b];rfl
theorem Pt:∀(l:List Q6)(w x:Q6),x∈yX l w->x=w∨x∈l|[],w,x,h=>by simpa[yX]using h|a::l,w,x,h=>by rw[yX]at h;by_cases b:ZW a w=tA;(·rw[if_pos b]at h;rcases tP.1 h with h|h;(·exact .inl h);·exact .inr (sQ _ h));·rw[if_neg b]at h;rcases tP.1 h with h|h;(·exact .inr (by rw[h];exact List.mem_cons_self ..));·exact(Pt l w x h).elim .inl fun h=>.inr (sQ _ h)
theorem Bo{a b c:Q6}(h:ER a b)(k:ER b c):ER a c:=⟨h.1.trans k.1,h.2.trans k.2⟩
theorem RY:∀(l:List Q6)(w:Q6),MZ l->MZ (yX l w)|[],w,_=>List.pairwise_singleton ..|a::l,w,h=>by have c:=List.pairwise_cons.1 h;rw[yX];by_cases d:ZW a w=tA;(·rw[if_pos d];exact List.pairwise_cons.2 ⟨fun x b e=>c.1 x b (Bo ((xR a w).1 d) e),c.2⟩);·rw[if_neg d];refine List.pairwise_cons.2 ⟨fun x b e=>?_,RY l w c.2⟩;rcases Pt l w x b with rfl|b;(·exact d ((xR _ _).2 e));·exact c.1 x b e
theorem dW{t:Tx}(h:xA t){w:Q6}(hw:QA w=0):Z4 t w=if T6 t.writes w=tA then 0 else(if t.writes.length=10then 11 else 0):=by
 rw[Z4,if_pos ((kH t).2 h),if_pos hw]
theorem gO{t:Tx}(h:xA t){w:Q6}(hw:QA w=0)(he:Z4 t w=0):xA (Ye t w):=by
 rw[Ye,if_pos he];rw[dW h hw]at he;refine⟨h.start,h.reads,?_,h.each,h.once,fun x a=>?_,RY _ _ h.apart⟩;·show(yX t.writes w).length<=10;rw[Bl];have:=h.writes;by_cases b:T6 t.writes w=tA;(·rw[if_pos b];exact this);·rw[if_neg b]at he⊢;(have c:t.writes.length≠10:=fun e=>by rw[if_pos e]at he;omega);omega
 ·rcases Pt _ _ _ a with rfl|a;(·exact hw);·exact h.wrs x a
def pB(l:List Q6)(n k:List UInt8):Option Q6:=l.find? fun q=>tV (q.name=n)&&tV (q.key=k)
theorem dH{l:List Q6}{n k:List UInt8}{w:Q6}(h:pB l n k=O w):w∈l∧w.name=n∧w.key=k:=by
 refine⟨List.mem_of_find?_eq_some h,?_⟩;have:=List.find?_some h;simpa using this
def pP(a b k:List UInt8):Bool:=!YP k a&&!YP b k
def Uk(n a b:List UInt8)(l:PL)(w:Q6):PL:=if w.name=n∧pP a b w.key=tA then(if w.gone=tA then yN l w.key else J5 l (w.key,w.value))else l
def Hn(n a b:List UInt8):PL->List Q6->PL|l,[]=>l|l,w::ws=>Hn n a b (Uk n a b l w) ws
def vU(n a b:List UInt8):PL->List Q6->Int|_,[]=>0|l,w::ws=>if 60<(Uk n a b l w).length then 11 else vU n a b (Uk n a b l w) ws
theorem Lw{f:FL}{w:Q6}{ws:List Q6}(he:ZA f (w::ws)=0):QA w=0∧XC f w=0∧ZA (QZ f w) ws=0:=by
 rw[ZA]at he;have b:QA w=0:=by by_cases e:QA w=0;(·exact e);·rw[if_neg e]at he;exact absurd he e
 rw[if_pos b]at he;have a:XC f w=0:=by by_cases e:XC f w=0;(·exact e);·rw[if_neg e]at he;exact absurd he e
 rw[if_pos a]at he;exact⟨b,a,he⟩
def X6(r:Rd)(w:Q6):Bool:=tV (r.name=w.name)&&(if r.wide=tA then pP r.key r.last w.key else tV (r.key=w.key))
def nQ(t:Tx)(ws:List Q6):Bool:=ws.any fun w=>t.reads.any fun r=>X6 r w
def LJ(t:Tx)(l:List XJ):Bool:=l.any fun c=>tV (t.start<c.turn)&&nQ t c.writes
def Ec(t:Tx):Int:=G0 t
def Ud(t:Tx)(l:List XJ):Bool:=if G0 t=0then LJ t l else tC
theorem SI{f:FL}(h:Zb f){ws:List Q6}(he:QM f ws=0):ZA f ws=0∧ZQ f ws=YL f ws:=by
 unfold QM at he;rw[if_pos ((Z6 f).2 h)]at he;by_cases a:10<ws.length;·rw[if_pos a]at he;omega
 ·rw[if_neg a]at he;exact⟨he,by rw[ZQ,QM,if_pos ((Z6 f).2 h),if_neg a,if_pos he]⟩
def yQ(l:FL)(t:Tx):Int:=if Q7 l=0then G0 t else Q7 l
def KU(l:FL)(t:Tx)(n k:List UInt8):Int:=if yQ l t=0then(if Qs n.length=0then Qn k.length else Qs n.length)else yQ l t
def Gp(l:FL)(t:Tx)(n k:List UInt8):Bool:=if KU l t n k=0then(pB t.writes n k).isSome else tC
def VG(l:FL)(t:Tx)(n k:List UInt8):Bool:=if KU l t n k=0then(match pB t.writes n k with|O w=>!w.gone|none=>Ur l n k)else tC
def Vp(l:FL)(t:Tx)(n k:List UInt8):List UInt8:=if KU l t n k=0then(match pB t.writes n k with|O w=>w.value|none=>Ux l n k)else[]
theorem Wl{l:FL}{t:Tx}(hl:Zb l)(ht:xA t){n k:List UInt8}(hn:1<=n.length∧n.length<=8)(hk:1<=k.length∧k.length<=16):KU l t n k=0:=by
 rw[KU,yQ,if_pos ((Z6 l).2 hl),if_pos ((kH t).2 ht),if_pos ((Zk _).2 hn),(Zc _).2 hk]
def KW(l:FL)(t:Tx)(n a b:List UInt8):Int:=if yQ l t=0then(if Qs n.length=0then(if Qn a.length=0then(if Qn b.length=0then vU n a b (VQ (Xw l n) a b) t.writes else Qn b.length)else Qn a.length)else Qs n.length)else yQ l t
def GF(l:FL)(t:Tx)(n a b:List UInt8):PL:=if KW l t n a b=0then Hn n a b (VQ (Xw l n) a b) t.writes else[]
structure Rp where
  sess : Int
  code : Int
  turn : Int
  found : Bool
  value : List UInt8
  pairs : PL
  pf : Option (FL × List UInt8 × List UInt8)
def zY(s:Nat)(e:Int):Rp:=⟨(s:Int),e,0,tC,[],[],M⟩
def Sq(s:Nat)(t:Int):Rp:=⟨(s:Int),0,t,tC,[],[],M⟩
structure Sv where
  up : Bool
  tape : GK
  commits : List XJ
  synced : Nat
  begun : Nat -> Bool
  waits : Nat -> Bool
  txns : Nat -> Tx
  queue : List Nat
  out : List Rp
def K9{α:Type}(f:Nat->α)(i:Nat)(x:α):Nat->α:=fun j=>if j=i then x else f j
theorem Zz{α:Type}(f:Nat->α)(i:Nat)(x:α):K9 f i x i=x:=by
 simp[K9]
theorem Zi{α:Type}(f:Nat->α){i j:Nat}(x:α)(h:j≠i):K9 f i x j=f j:=by
 simp[K9,h]
def GN(up:Bool)(t:GK)(cs:List XJ)(o:List Rp):Sv:=⟨up,t,cs,cs.length,fun _=>tC,fun _=>tC,fun _=>T8,[],o⟩
def BR:Sv:=GN tA GR [] []
def Xd(v:Sv)(r:Rp):Sv:={v with out:=v.out++[r]}
def Qy(v:Sv)(n:Nat):FL:=VX [] (v.commits.take n)
def U4(v:Sv)(s:Nat)(x:Rd)(o:Rp):Sv:=if Xm (v.txns s) x=0then Xd {v with txns:=K9 v.txns s (X5 (v.txns s) x)} o else Xd v (zY s (Xm (v.txns s) x))
def qR(v:Sv)(s:Nat)(w:Q6):Sv:=Xd (if Z4 (v.txns s) w=0then{v with txns:=K9 v.txns s (Ye (v.txns s) w)}else v) (zY s (Z4 (v.txns s) w))
def Dy(v:Sv)(s:Nat)(r:Rq):Sv:=if Gp (Qy v (v.txns s).start.toNat) (v.txns s) r.name r.key=tA then Xd v ⟨(s:Int),0,(v.txns s).start,VG (Qy v (v.txns s).start.toNat) (v.txns s) r.name r.key,Vp (Qy v (v.txns s).start.toNat) (v.txns s) r.name r.key,[],M⟩else U4 v s (ZC r) ⟨(s:Int),0,(v.txns s).start,VG (Qy v (v.txns s).start.toNat) (v.txns s) r.name r.key,Vp (Qy v (v.txns s).start.toNat) (v.txns s) r.name r.key,[],M⟩
def Fa(v:Sv)(s:Nat)(r:Rq):Sv:=if KW (Qy v (v.txns s).start.toNat) (v.txns s) r.name r.key r.last=0then U4 v s (ZC r) ⟨(s:Int),0,(v.txns s).start,tC,[],GF (Qy v (v.txns s).start.toNat) (v.txns s) r.name r.key r.last,M⟩else Xd v (zY s (KW (Qy v (v.txns s).start.toNat) (v.txns s) r.name r.key r.last))
def yK(v:Sv)(s:Nat)(r:Rq):Sv:=if r.kind=4∨r.kind=5then qR v s (QY r)else if r.kind=2then Dy v s r else Fa v s r
def Yk(v:Sv)(s:Nat):XJ:=⟨((v.commits.length+1:Nat):Int),(v.txns s).writes⟩
def XG(v:Sv)(s:Nat):Sv:={v with begun:=K9 v.begun s tC}
def Jo(D:List UInt8->List UInt8)(v:Sv)(s:Nat):Sv:=if(v.txns s).writes.length=0then Xd (XG v s) (Sq s (v.txns s).start)else if v.queue.length=6∨v.commits.length=300then Xd v (zY s 11)else if Ud (v.txns s) v.commits=tA then Xd (XG v s) (zY s 9)else if QM (Qy v v.commits.length) (v.txns s).writes≠0then Xd (XG v s) (zY s (QM (Qy v v.commits.length) (v.txns s).writes))else if VC D v.tape (Yk v s)≠0then Xd (XG v s) (zY s (VC D v.tape (Yk v s)))else{XG v s with tape:=qZ D v.tape (Yk v s),commits:=v.commits++[Yk v s],queue:=v.queue++[s],waits:=K9 v.waits s tA}
def TO(v:Sv)(s:Nat)(r:Rq):Sv:=Xd v ⟨(s:Int),0,(v.synced:Int),Ur (Qy v v.synced) r.name r.key,Ux (Qy v v.synced) r.name r.key,[],O (Qy v v.synced,r.name,r.key)⟩
def ZP(v:Sv)(s:Nat)(r:Rq):Bool:=v.waits s||(if r.kind=1then v.begun s else !v.begun s)
def V5(D:List UInt8->List UInt8)(v:Sv)(s:Nat)(r:Rq):Sv:=if r.kind=8then TO v s r else if ZP v s r=tA then Xd v (zY s 6)else if r.kind=1then Xd {v with begun:=K9 v.begun s tA,txns:=K9 v.txns s ⟨(v.synced:Int),[],[]⟩} (Sq s (v.synced:Int))else if r.kind=7then Xd (XG v s) (zY s 0)else if Jg (v.synced:Int) (v.txns s).start=tC then Xd (XG v s) (zY s 10)else if r.kind=6then Jo D v s else yK v s r
def V3(D:List UInt8->List UInt8)(v:Sv)(s:Nat)(data:List UInt8):Sv:=if v.up=tC then Xd v (zY s 13)else if XO data=0then V5 D v s (Y6 data)else Xd v (zY s (XO data))
def VD:Nat->List Nat->List Rp|_,[]=>[]|n,s::q=>Sq s ((n+1:Nat):Int)::VD (n+1) q
def VJ(f:Nat->Bool)(q:List Nat):Nat->Bool:=fun j=>if j∈q then tC else f j
def U3(v:Sv):Sv:={v with tape:=KN v.tape,synced:=v.synced+v.queue.length,waits:=VJ v.waits v.queue,queue:=[],out:=v.out++VD v.synced v.queue}
def Vg(D:List UInt8->List UInt8)(v:Sv)(k:Int):Sv:=GN tC (yY D (XA v.tape k)) (kC D (XA v.tape k)) v.out
def Yo(D:List UInt8->List UInt8)(v:Sv)(a:Ac):Sv:=if a.kind=1then V3 D v a.sess.toNat a.data else if a.kind=2then(if v.up=tA then U3 v else v)else if a.kind=3then(if v.up=tA then Vg D v a.keep else v)else{v with up:=tA}
def Yz(D:List UInt8->List UInt8)(l:List Ac):Sv:=l.foldl (Yo D) BR
theorem FA(D:List UInt8->List UInt8)(l:List Ac)(a:Ac):Yz D (l++[a])=Yo D (Yz D l) a:=by
 simp[Yz]
theorem Tt(D:List UInt8->List UInt8)(l k:List Ac):Yz D (l++k)=k.foldl (Yo D) (Yz D l):=by
 simp[Yz]
def zU(l:List Ac):Int:=GZ l
structure Oc where
  up : Bool
  turn : Int
  pending : Int
  forest : FL
  replies : List Rp
def N6(v:Sv):Oc:=⟨v.up,(v.synced:Int),(v.queue.length:Int),Qy v v.synced,v.out⟩
def OW:Oc:=⟨tC,0,0,[],[]⟩
def jN(D:List UInt8->List UInt8)(l:List Ac):Oc:=if zU l=0then N6 (Yz D l)else OW
section
theorem Mx:∀{cs:List XJ}{f:FL}{i:Nat},vN f i cs->xS (i+1) cs|[],_,_,_=>trivial|_::_,_,_,h=>⟨by rw[h.2.1],h.1,Mx h.2.2.2⟩
theorem MW:∀{cs:List XJ}{f:FL}{i:Nat}{c:XJ},vN f i cs->QW c=0->c.turn=((i+cs.length+1:Nat):Int)->QM (VX f cs) c.writes=0->vN f i (cs++[c])|[],_,_,_,_,h1,h2,h3=>⟨h1,by rw[h2];rfl,h3,trivial⟩|d::cs,f,i,c,h,h1,h2,h3=>⟨h.1,h.2.1,h.2.2.1,MW h.2.2.2 h1 (by rw[h2,sM];congr 1;omega) h3⟩
structure Zu (D : List UInt8 -> List UInt8) (v : Sv) : Prop where
  goes : vN [] 0 v.commits
  many : v.commits.length <= 300
  data : v.tape.data = QU D v.commits
  mark : v.tape.synced = ((QU D (v.commits.take v.synced)).length : Int)
  room : v.tape.data.length <= 200000
  turn : v.synced + v.queue.length = v.commits.length
  few : v.queue.length <= 6
  wait : ∀ s, v.waits s = tA ↔ s ∈ v.queue
  once : v.queue.Nodup
  tx : ∀ s, v.begun s = tA -> xA (v.txns s) ∧ (v.txns s).start <= (v.synced : Int)
  idle : ∀ s, v.waits s = tA -> v.begun s = tC
  down : v.up = tC -> v.queue = [] ∧ ∀ s, v.begun s = tC
variable{D:List UInt8->List UInt8}{v:Sv}
theorem Zu.tell(h:Zu D v)(r:Rp):Zu D (Xd v r):=⟨h.goes,h.many,h.data,h.mark,h.room,h.turn,h.few,h.wait,h.once,h.tx,h.idle,h.down⟩
theorem Mu{f:Nat->Bool}{s j:Nat}(h:K9 f s tC j=tA):j≠s∧f j=tA:=by
 by_cases e:j=s;·rw[e,Zz]at h;cases h
 ·exact⟨e,by rwa[Zi f _ e]at h⟩
theorem Zu.end(h:Zu D v)(s:Nat):Zu D (XG v s):=by
 refine⟨h.goes,h.many,h.data,h.mark,h.room,h.turn,h.few,h.wait,h.once,fun j a=>h.tx j (Mu a).2,fun j a=>?_,fun b=>⟨(h.down b).1,fun j=>?_⟩⟩;·show K9 v.begun s tC j=tC;by_cases e:j=s;(·rw[e,Zz]);·rw[Zi _ _ e];exact h.idle j a
 ·show K9 v.begun s tC j=tC;by_cases e:j=s;(·rw[e,Zz]);·rw[Zi _ _ e];exact(h.down b).2 j
theorem Zu.txn(h:Zu D v){s:Nat}{t:Tx}(ht:xA t)(hs:t.start<=(v.synced:Int)):Zu D {v with txns:=K9 v.txns s t}:=by
 refine⟨h.goes,h.many,h.data,h.mark,h.room,h.turn,h.few,h.wait,h.once,fun j a=>?_,h.idle,h.down⟩;show xA (K9 v.txns s t j)∧(K9 v.txns s t j).start<=_;by_cases e:j=s;·rw[e,Zz];exact⟨ht,hs⟩
 ·rw[Zi _ _ e];exact h.tx j a
theorem Zu.may(h:Zu D v):qI v.tape=tA:=by
 refine(K3 _).2 ⟨h.room,?_⟩;rw[h.mark,h.data];have:=Vn D v.commits v.synced v.commits.length (by have:=h.turn;omega);rw[sN]at this;omega
theorem xT{t:Tx}{r:Rd}(h:Xm t r=0):(X5 t r).start=t.start:=by
 rw[X5,if_pos h];split<;>rfl
theorem Ai{t:Tx}{w:Q6}(h:Z4 t w=0):(Ye t w).start=t.start:=by
 rw[Ye,if_pos h]
theorem Zu.note(h:Zu D v){s:Nat}(hb:v.begun s=tA){x:Rd}(hx:XM x=0)(o:Rp):Zu D (U4 v s x o):=by
 obtain⟨a,b⟩:=h.tx s hb;unfold U4;by_cases e:Xm (v.txns s) x=0;·rw[if_pos e];exact(h.txn (lW a hx e) (by rw[xT e];exact b)).tell _
 ·rw[if_neg e];exact h.tell _
theorem Zu.write(h:Zu D v){s:Nat}(hb:v.begun s=tA){w:Q6}(hw:QA w=0):Zu D (qR v s w):=by
 obtain⟨a,b⟩:=h.tx s hb;unfold qR;by_cases e:Z4 (v.txns s) w=0;·rw[if_pos e];exact(h.txn (gO a hw e) (by rw[Ai e];exact b)).tell _
 ·rw[if_neg e];exact h.tell _
theorem vY{r:Rq}(h:JG r)(hk:r.kind=2∨r.kind=3):XM (ZC r)=0:=fG (by
 rw[(Bf h).1,if_pos hk])
theorem FH{r:Rq}(h:JG r)(hk:r.kind=4∨r.kind=5):QA (QY r)=0:=Mr (by
 rw[(Bf h).2,if_pos hk])
theorem Zu.work(h:Zu D v){s:Nat}(hb:v.begun s=tA){r:Rq}(hr:JG r)(hk:2<=r.kind∧r.kind<=5):Zu D (yK v s r):=by
 unfold yK;by_cases a:r.kind=4∨r.kind=5;·rw[if_pos a];exact h.write hb (FH hr a)
 ·rw[if_neg a];by_cases b:r.kind=2;(·rw[if_pos b];unfold Dy;split;(·exact h.tell _);·exact h.note hb (vY hr (.inl b)) _);·rw[if_neg b];unfold Fa;split;(·exact h.note hb (vY hr (.inr (by omega))) _);·exact h.tell _
theorem TN{t:Tx}(ht:xA t)(hw:¬t.writes.length=0)(n:Nat)(hn:n<=300):QW ⟨((n+1:Nat):Int),t.writes⟩=0:=(Ug _).2 ⟨by
 show(1:Int)<=((n+1:Nat):Int)∧((n+1:Nat):Int)<=1048576;omega,⟨by
 show 1<=t.writes.length;omega,ht.writes⟩,ht.wrs⟩
theorem AW(h:Zu D v){s:Nat}(hb:v.begun s=tA)(h1:¬(v.txns s).writes.length=0)(h2:¬(v.queue.length=6∨v.commits.length=300))(h4:QM (Qy v v.commits.length) (v.txns s).writes=0)(h5:VC D v.tape (Yk v s)=0):Zu D {XG v s with tape:=qZ D v.tape (Yk v s),commits:=v.commits++[Yk v s],queue:=v.queue++[s],waits:=K9 v.waits s tA}:=by
 obtain⟨r,q⟩:=h.tx s hb;have p:=h.many;have m:QW (Yk v s)=0:=TN r h1 _ p;have d:=h.may;have c:v.tape.data.length+(ZK D (Yk v s)).length<=200000:=by rw[VC,if_pos d,if_pos m]at h5;by_cases e:200000<v.tape.data.length+(ZK D (Yk v s)).length;(·rw[if_pos e]at h5;exact absurd h5 (by decide));·omega
 have n:qZ D v.tape (Yk v s)=⟨v.tape.data++ZK D (Yk v s),v.tape.synced⟩:=by rw[qZ,if_pos h5]
 have i:v.waits s≠tA:=fun e=>by have:=h.idle s e;rw[hb]at this;cases this
 have g:s∉v.queue:=fun e=>i ((h.wait s).2 e);have l:v.up=tA:=by cases k:v.up with|true=>rfl|false=>have:=(h.down k).2 s;rw[hb]at this;cases this
 have t:=h.turn;rw[n];refine⟨?_,?_,?_,?_,?_,?_,?_,?_,?_,?_,?_,?_⟩;·refine MW h.goes m (by show((v.commits.length+1:Nat):Int)=_;congr 1;omega) ?_;rw[Qy,sN]at h4;exact h4
 ·show(v.commits++[Yk v s]).length<=300;rw[tG,sJ];omega
 ·show v.tape.data++ZK D (Yk v s)=QU D (v.commits++[Yk v s]);rw[Gd,FS,h.data]
 ·show v.tape.synced=((QU D ((v.commits++[Yk v s]).take v.synced)).length:Int);rw[List.take_append_of_le_length (by omega)];exact h.mark
 ·show(v.tape.data++ZK D (Yk v s)).length<=200000;rw[tG];exact c
 ·show v.synced+(v.queue++[s]).length=(v.commits++[Yk v s]).length;rw[tG,tG,sJ,sJ];omega
 ·show(v.queue++[s]).length<=6;have:=h.few;rw[tG,sJ];omega
 ·intro j;show K9 v.waits s tA j=tA↔j∈v.queue++[s];by_cases e:j=s;(·rw[e,Zz];simp);·rw[Zi _ _ e,h.wait j];simp[e]
 ·show(v.queue++[s]).Nodup;rw[List.nodup_append];exact⟨h.once,by simp,fun a o b hb e=>g (by simp at hb;rw[<-hb,<-e];exact o)⟩
 ·intro j f;exact h.tx j (Mu f).2
 ·intro j f;show K9 v.begun s tC j=tC;by_cases e:j=s;(·rw[e,Zz]);·rw[Zi _ _ e];exact h.idle j (by have:K9 v.waits s tA j=tA:=f;rwa[Zi _ _ e]at this)
 ·intro k;have:v.up=tC:=k;rw[l]at this;cases this
theorem Zu.commit(h:Zu D v){s:Nat}(hb:v.begun s=tA):Zu D (Jo D v s):=by
 unfold Jo;by_cases a:(v.txns s).writes.length=0;·rw[if_pos a];exact(h.end s).tell _
 ·rw[if_neg a];by_cases b:v.queue.length=6∨v.commits.length=300;(·rw[if_pos b];exact h.tell _);·rw[if_neg b];by_cases e:Ud (v.txns s) v.commits=tA;(·rw[if_pos e];exact(h.end s).tell _);·rw[if_neg e];by_cases c:QM (Qy v v.commits.length) (v.txns s).writes≠0;(·rw[if_pos c];exact(h.end s).tell _);·rw[if_neg c];by_cases d:VC D v.tape (Yk v s)≠0;(·rw[if_pos d];exact(h.end s).tell _);·rw[if_neg d];exact AW h hb a b (Classical.byContradiction c) (Classical.byContradiction d)
theorem Zu.req(h:Zu D v)(hup:v.up=tA)(s:Nat){r:Rq}(hr:JG r):Zu D (V5 D v s r):=by
 unfold V5;by_cases g:r.kind=8;·rw[if_pos g];exact h.tell _
 ·rw[if_neg g];by_cases a:ZP v s r=tA;(·rw[if_pos a];exact h.tell _);·rw[if_neg a];(have c:v.waits s=tC∧(if r.kind=1then v.begun s else !v.begun s)=tC:=by unfold ZP at a;cases hw:v.waits s;(·rw[hw]at a;exact⟨rfl,by simpa using a⟩);·rw[hw]at a;exact absurd rfl a);by_cases d:r.kind=1;(·rw[if_pos d];refine Zu.tell ?_ _;have q:=h.many;have n:=h.turn;refine⟨h.goes,h.many,h.data,h.mark,h.room,h.turn,h.few,h.wait,h.once,fun j f=>?_,fun j f=>?_,fun o=>?_⟩;(·show xA (K9 v.txns s _ j)∧(K9 v.txns s _ j).start<=_;by_cases e:j=s;(·rw[e,Zz];exact⟨⟨by show(0:Int)<=(v.synced:Int)∧(v.synced:Int)<=1048576;omega,by simp,by simp,by simp,by simp,by simp,by simp[MZ]⟩,Int.le_refl _⟩);·rw[Zi _ _ e];exact h.tx j (by have:K9 v.begun s tA j=tA:=f;rwa[Zi _ _ e]at this));(·show K9 v.begun s tA j=tC;have b:v.waits j=tA:=f;by_cases e:j=s;(·rw[e,c.1]at b;cases b);·rw[Zi _ _ e];exact h.idle j b);·have:v.up=tC:=o;rw[hup]at this;cases this);·rw[if_neg d];(have m:v.begun s=tA:=by have:=c.2;rw[if_neg d]at this;simpa using this);by_cases i:r.kind=7;(·rw[if_pos i];exact(h.end s).tell _);·rw[if_neg i];by_cases k:Jg (v.synced:Int) (v.txns s).start=tC;(·rw[if_pos k];exact(h.end s).tell _);·rw[if_neg k];by_cases l:r.kind=6;(·rw[if_pos l];exact h.commit m);·rw[if_neg l];have p:=hr.kind;exact h.work m hr (by omega)
theorem Zu.ask(h:Zu D v)(s:Nat)(d:List UInt8):Zu D (V3 D v s d):=by
 unfold V3;by_cases a:v.up=tC;·rw[if_pos a];exact h.tell _
 ·rw[if_neg a];by_cases b:XO d=0;(·rw[if_pos b];exact h.req (by simpa using a) s ((Vk _).1 (FU b).1));·rw[if_neg b];exact h.tell _
theorem Zu.sync(h:Zu D v):Zu D (U3 v):=by
 have c:=h.may;have a:=h.turn;refine⟨h.goes,h.many,?_,?_,?_,?_,by simp[U3],?_,by simp[U3],?_,?_,?_⟩;·show(KN v.tape).data=_;rw[KN,if_pos c];exact h.data
 ·show(KN v.tape).synced=((QU D (v.commits.take (v.synced+v.queue.length))).length:Int);rw[KN,if_pos c,a,sN,<-h.data]
 ·show(KN v.tape).data.length<=_;rw[KN,if_pos c];exact h.room
 ·show v.synced+v.queue.length+([]:List Nat).length=v.commits.length;simpa using a
 ·intro j;show VJ v.waits v.queue j=tA↔j∈([]:List Nat);rw[VJ];constructor;(·intro e;split at e;(·cases e);·rename_i hq;exact absurd ((h.wait j).1 e) hq);·intro e;simp at e
 ·intro j b;obtain⟨d,f⟩:=h.tx j b;exact⟨d,by show _<=((v.synced+v.queue.length:Nat):Int);have:(v.txns j).start<=(v.synced:Int):=f;show(v.txns j).start<=_;omega⟩
 ·intro j b;have:VJ v.waits v.queue j=tA:=b;rw[VJ]at this;split at this;(·cases this);·exact h.idle j this
 ·intro g;exact⟨rfl,(h.down g).2⟩
theorem Ih{up:Bool}{t:GK}{cs:List XJ}{o:List Rp}(hg:vN [] 0 cs)(hm:cs.length<=300)(hd:t=⟨QU D cs,((QU D cs).length:Int)⟩)(hr:(QU D cs).length<=200000):Zu D (GN up t cs o):=by
 subst hd;refine⟨hg,hm,rfl,?_,hr,rfl,by simp[GN],fun s=>by simp[GN],by simp[GN],fun s a=>by simp[GN]at a,fun s a=>by simp[GN]at a,fun _=>⟨rfl,fun _=>rfl⟩⟩;show((QU D cs).length:Int)=((QU D (cs.take cs.length)).length:Int);rw[sN]
theorem vG(D:List UInt8->List UInt8):Zu D BR:=Ih trivial (by
 simp) rfl (by
 simp[QU])
theorem UJ(hD:∀x,(D x).length=4)(h:Zu D v){k:Int}(hk:0<=k):∃j,v.synced<=j∧j<=v.commits.length∧Vg D v k=GN tC ⟨QU D (v.commits.take j),((QU D (v.commits.take j)).length:Int)⟩ (v.commits.take j) v.out∧(k=0->j=v.synced):=by
 have l:=h.may;obtain⟨y,z,A⟩:=(K3 _).1 l;have d:xS 1 v.commits:=Mx h.goes;have t:=h.turn;have b:UQ v.tape k=0:=by rw[UQ,if_pos l,if_neg (by omega)]
 have c:XD v.tape k<=v.tape.data.length∧v.tape.synced<=(XD v.tape k:Int):=by rw[XD];split<;>omega
 have a:XA v.tape k=⟨(QU D v.commits).take (XD v.tape k),(XD v.tape k:Int)⟩:=by rw[XA,if_pos b,h.data]
 have g:(QU D v.commits).length<=200000:=by rw[<-h.data];exact h.room
 obtain⟨j,m,u,n,_,o,p⟩:=eA hD d (XD v.tape k) (XD v.tape k:Int) (by rw[<-h.data];exact c.1) (by omega) g;have i:v.synced<=j:=by refine Nh (D:=D) (cs:=v.commits) (k:=XD v.tape k) (by omega) n ?_;have:=h.mark;omega
 have e:(if(XD v.tape k:Int)>((QU D (v.commits.take j)).length:Int)then((QU D (v.commits.take j)).length:Int)else(XD v.tape k:Int))=((QU D (v.commits.take j)).length:Int):=by split<;>omega
 refine⟨j,i,m,?_,?_⟩;·rw[Vg,a,o,p,e]
 ·intro f;by_cases r:j=v.synced;(·exact r);·exfalso;(have w:(XD v.tape k:Int)=v.tape.synced:=by rw[XD,f];split<;>omega);have g1:=Vn D v.commits (v.synced+1) j (by omega);have g2:=SN D v.commits v.synced (by omega);have q:=(h.goes.at v.synced (by omega)).1;have g3:=(kE hD q).1;have s:=h.mark;rw[g2,tG]at g1;omega
theorem Zu.crash(hD:∀x,(D x).length=4)(h:Zu D v){k:Int}(hk:0<=k):Zu D (Vg D v k):=by
 obtain⟨j,d,b,c,_⟩:=UJ hD h hk;have e:=h.many;have a:=Vn D v.commits j v.commits.length b;rw[sN,<-h.data]at a;have f:=h.room;rw[c];exact Ih (h.goes.take j) (by rw[List.length_take];omega) rfl (by omega)
theorem Zu.start(h:Zu D v):Zu D {v with up:=tA}:=⟨h.goes,h.many,h.data,h.mark,h.room,h.turn,h.few,h.wait,h.once,h.tx,h.idle,fun hu=>by
 cases hu⟩
theorem Zu.act(hD:∀x,(D x).length=4)(h:Zu D v){a:Ac}(ha:Xx a):Zu D (Yo D v a):=by
 unfold Yo;by_cases c:a.kind=1;·rw[if_pos c];exact h.ask _ _
 ·rw[if_neg c];by_cases d:a.kind=2;(·rw[if_pos d];split;(·exact h.sync);·exact h);·rw[if_neg d];by_cases b:a.kind=3;(·rw[if_pos b];split;(·exact h.crash hD (ha.keep b).1);·exact h);·rw[if_neg b];exact h.start
theorem Fz(hD:∀x,(D x).length=4):∀(l:List Ac)(v:Sv),Zu D v->(∀a∈l,Xx a)->Zu D (l.foldl (Yo D) v)|[],_,h,_=>h|a::l,v,h,ha=>Fz hD l _ (h.act hD (ha a (by simp))) (fun x b=>ha x (by simp[b]))
theorem Po(hD:∀x,(D x).length=4)(l:List Ac)(h:∀a∈l,Xx a):Zu D (Yz D l):=Fz hD l BR (vG D) h
end
structure Same (v u : Sv) : Prop where
  up : u.up = v.up
  tape : u.tape = v.tape
  commits : u.commits = v.commits
  synced : u.synced = v.synced
  waits : u.waits = v.waits
  queue : u.queue = v.queue
structure mG (s : Nat) (v u : Sv) : Prop extends Same v u where
  out : ∃ r, u.out = v.out ++ [r] ∧ r.sess = (s : Int)
  begun : ∀ j, j ≠ s -> u.begun j = v.begun j
  txns : ∀ j, j ≠ s -> u.txns j = v.txns j
theorem UC(v:Sv)(s:Nat)(r:Rp)(h:r.sess=(s:Int)):mG s v (Xd v r):=⟨⟨rfl,rfl,rfl,rfl,rfl,rfl⟩,⟨r,rfl,h⟩,fun _ _=>rfl,fun _ _=>rfl⟩
theorem kP(v:Sv)(s:Nat)(r:Rp)(h:r.sess=(s:Int)):mG s v (Xd (XG v s) r):=⟨⟨rfl,rfl,rfl,rfl,rfl,rfl⟩,⟨r,rfl,h⟩,fun _ hj=>Zi _ _ hj,fun _ _=>rfl⟩
theorem WS(v:Sv)(s:Nat)(t:Tx)(r:Rp)(h:r.sess=(s:Int)):mG s v (Xd {v with txns:=K9 v.txns s t} r):=⟨⟨rfl,rfl,rfl,rfl,rfl,rfl⟩,⟨r,rfl,h⟩,fun _ _=>rfl,fun _ a=>Zi _ _ a⟩
theorem Bc(v:Sv)(s:Nat)(x:Rd)(o:Rp)(h:o.sess=(s:Int)):mG s v (U4 v s x o):=by
 unfold U4;split;·exact WS v s _ _ h
 ·exact UC v s _ rfl
theorem OL(v:Sv)(s:Nat)(w:Q6):mG s v (qR v s w):=by
 unfold qR;split;·exact WS v s _ _ rfl
 ·exact UC v s _ rfl
theorem cR(v:Sv)(s:Nat)(r:Rq):mG s v (yK v s r):=by
 unfold yK;split;·exact OL v s _
 ·split;(·unfold Dy;split;(·exact UC v s _ rfl);·exact Bc v s _ _ rfl);·unfold Fa;split;(·exact Bc v s _ _ rfl);·exact UC v s _ rfl
structure dQ (D : List UInt8 -> List UInt8) (s : Nat) (v u : Sv) : Prop where
  up : u.up = v.up
  tape : u.tape = qZ D v.tape (Yk v s)
  commits : u.commits = v.commits ++ [Yk v s]
  synced : u.synced = v.synced
  waits : u.waits = K9 v.waits s tA
  queue : u.queue = v.queue ++ [s]
  out : u.out = v.out
  begun : u.begun = K9 v.begun s tC
  txns : u.txns = v.txns
  full : (v.txns s).writes.length ≠ 0
  room : v.queue.length ≠ 6 ∧ v.commits.length ≠ 300
  clash : Ud (v.txns s) v.commits = tC
  fits : QM (Qy v v.commits.length) (v.txns s).writes = 0
  app : VC D v.tape (Yk v s) = 0
theorem aY(D:List UInt8->List UInt8)(v:Sv)(s:Nat):mG s v (Jo D v s)∨dQ D s v (Jo D v s):=by
 unfold Jo;by_cases b:(v.txns s).writes.length=0;·rw[if_pos b];exact .inl (kP v s _ rfl)
 ·rw[if_neg b];by_cases a:v.queue.length=6∨v.commits.length=300;(·rw[if_pos a];exact .inl (UC v s _ rfl));·rw[if_neg a];by_cases c:Ud (v.txns s) v.commits=tA;(·rw[if_pos c];exact .inl (kP v s _ rfl));·rw[if_neg c];by_cases d:QM (Qy v v.commits.length) (v.txns s).writes≠0;(·rw[if_pos d];exact .inl (kP v s _ rfl));·rw[if_neg d];by_cases f:VC D v.tape (Yk v s)≠0;(·rw[if_pos f];exact .inl (kP v s _ rfl));·rw[if_neg f];exact .inr ⟨rfl,rfl,rfl,rfl,rfl,rfl,rfl,rfl,rfl,b,⟨fun e=>a (.inl e),fun e=>a (.inr e)⟩,by simpa using c,Classical.byContradiction d,Classical.byContradiction f⟩
theorem nZ(D:List UInt8->List UInt8)(v:Sv)(s:Nat)(r:Rq):mG s v (V5 D v s r)∨(r.kind=6∧ZP v s r=tC∧dQ D s v (V5 D v s r)):=by
 unfold V5;by_cases d:r.kind=8;·rw[if_pos d];exact .inl (UC v s _ rfl)
 ·rw[if_neg d];by_cases a:ZP v s r=tA;(·rw[if_pos a];exact .inl (UC v s _ rfl));·rw[if_neg a];by_cases e:r.kind=1;(·rw[if_pos e];exact .inl ⟨⟨rfl,rfl,rfl,rfl,rfl,rfl⟩,⟨_,rfl,rfl⟩,fun _ c=>Zi _ _ c,fun _ c=>Zi _ _ c⟩);·rw[if_neg e];by_cases f:r.kind=7;(·rw[if_pos f];exact .inl (kP v s _ rfl));·rw[if_neg f];by_cases g:Jg (v.synced:Int) (v.txns s).start=tC;(·rw[if_pos g];exact .inl (kP v s _ rfl));·rw[if_neg g];by_cases b:r.kind=6;(·rw[if_pos b];rcases aY D v s with h|h;(·exact .inl h);·exact .inr ⟨b,by simpa using a,h⟩);·rw[if_neg b];exact .inl (cR v s r)
theorem cH(D:List UInt8->List UInt8)(v:Sv)(s:Nat)(d:List UInt8):mG s v (V3 D v s d)∨(v.up=tA∧XO d=0∧(Y6 d).kind=6∧v.waits s=tC∧v.begun s=tA∧dQ D s v (V3 D v s d)):=by
 unfold V3;by_cases b:v.up=tC;·rw[if_pos b];exact .inl (UC v s _ rfl)
 ·rw[if_neg b];by_cases c:XO d=0;(·rw[if_pos c];rcases nZ D v s (Y6 d)with h|⟨e,a,f⟩;(·exact .inl h);·right;unfold ZP at a;rw[if_neg (by omega)]at a;simp only[Bool.or_eq_false_iff,Bool.not_eq_false']at a;exact⟨by simpa using b,c,e,a.1,a.2,f⟩);·rw[if_neg c];exact .inl (UC v s _ rfl)
theorem Tg:∀(q:List Nat)(n:Nat),(VD n q).length=q.length|[],_=>rfl|_::q,n=>by rw[VD,sM,sM,Tg q]
structure Gr where
  kind : Int
  sess : Int
  name : Int
  key : Int
  value : Int
def vP:Gr:=⟨0,0,0,0,0⟩
def Xy(n:Int)(many:Nat):Nat:=if n<0then((-(n+1))%(many:Int)).toNat else(n%(many:Int)).toNat
theorem KY(n:Int){many:Nat}(h:0<many):Xy n many<many:=by
 unfold Xy;split;·have a:=Int.emod_nonneg (-(n+1)) (show(many:Int)≠0 by omega);have b:=Int.emod_lt_of_pos (-(n+1)) (show(0:Int)<many by omega);omega
 ·have a:=Int.emod_nonneg n (show(many:Int)≠0 by omega);have b:=Int.emod_lt_of_pos n (show(0:Int)<many by omega);omega
def WY(n:Int):List UInt8:=[UInt8.ofNat (97+Xy n 3)]
def eQ(n:Int):List UInt8:=[UInt8.ofNat (107+Xy n 5)]
def rU(n:Int):List UInt8:=[UInt8.ofNat (Xy n 50)]
def Fx(k:Nat)(a b c d:List UInt8):Rq:=if k<4then⟨1,[],[],[],[]⟩else if k<7then⟨2,a,b,[],[]⟩else if k=7then⟨3,a,b,c,[]⟩else if k<12then⟨4,a,b,[],d⟩else if k=12then⟨5,a,b,[],[]⟩else if k<17then⟨6,[],[],[],[]⟩else if k=17then⟨7,[],[],[],[]⟩else⟨8,a,b,[],[]⟩
def qP(g:Gr):Rq:=Fx (Xy g.kind 20) (WY g.name) (eQ g.key) (eQ g.value) (rU g.value)
theorem mB(k:Nat){a b c d:List UInt8}(ha:a.length=1)(hb:b.length=1)(hc:c.length=1)(hd:d.length=1):JG (Fx k a b c d):=by
 unfold Fx;repeat' split
 all_goals(refine⟨⟨?_,?_⟩,?_,?_,?_,?_,?_,?_,?_,?_⟩<;>simp[QS, *])
theorem Fp(g:Gr):JG (qP g):=mB _ rfl rfl rfl rfl
def Rb(g:Gr):Ac:=if Xy g.kind 26=20∨Xy g.kind 26=21∨Xy g.kind 26=22then⟨2,0,0,[]⟩else if Xy g.kind 26=23then⟨3,0,(Xy g.value 80:Int),[]⟩else if Xy g.kind 26=24then⟨4,0,0,[]⟩else if Xy g.kind 26=25then⟨1,(Xy g.sess 8:Int),0,[UInt8.ofNat (IntKind.u8.wrap g.value).toNat,UInt8.ofNat (IntKind.u8.wrap g.key).toNat]⟩else⟨1,(Xy g.sess 8:Int),0,Kt (qP g)⟩
def Yq(l:List Gr)(n:Nat):List Ac:=(l.take n).map Rb
theorem CA{r:Rq}(h:JG r):Kt r=Jk r:=by
 rw[Kt,if_pos ((Vk r).2 h)]
theorem gS{r:Rq}(h:JG r):(Kt r).length<=78:=by
 rw[CA h];exact(Pb h).1
theorem cP{s:Int}{d:List UInt8}(h0:0<=s)(h1:s<=7)(hd:d.length<=4000):Xx ⟨1,s,0,d⟩:=by
 refine⟨⟨by simp,by simp⟩,fun _=>⟨h0,h1⟩,fun h=>by simp at h,hd,fun h=>by simp at h,fun _=>rfl,fun h=>by simp at h⟩
theorem mE:Xx ⟨2,0,0,[]⟩:=⟨⟨by
 simp,by
 simp⟩,fun h=>by
 simp at h,fun h=>by
 simp at h,by
 simp,fun _=>rfl,fun _=>rfl,fun _=>rfl⟩
theorem fP:Xx ⟨4,0,0,[]⟩:=⟨⟨by
 simp,by
 simp⟩,fun h=>by
 simp at h,fun h=>by
 simp at h,by
 simp,fun _=>rfl,fun _=>rfl,fun _=>rfl⟩
theorem cI{k:Int}(h0:0<=k)(h1:k<=200000):Xx ⟨3,0,k,[]⟩:=⟨⟨by
 simp,by
 simp⟩,fun h=>by
 simp at h,fun _=>⟨h0,h1⟩,by
 simp,fun _=>rfl,fun h=>by
 simp at h,fun _=>rfl⟩
theorem mX(g:Gr):Xx (Rb g):=by
 have b:=KY g.sess (many:=8) (by decide);have a:=KY g.value (many:=80) (by decide);have c:=gS (Fp g);unfold Rb;split;·exact mE
 ·split;(·exact cI (by omega) (by omega));·split;(·exact fP);·split;(·exact cP (by omega) (by omega) (by simp));·exact cP (by omega) (by omega) (by omega)
structure G2 (l : FL) : Prop where
  many : l.length * 48 <= 140737488355328
  each : ∀ i, i < l.length -> (l.getD i ([], [])).1.length <= 140737488355328 ∧ vA (l.getD i ([], [])).2
theorem G2.len{l:FL}(h:G2 l):l.length<=140737488355328:=by
 have:=h.many;omega
theorem Zb.fits{l:FL}(h:Zb l):G2 l:=by
 refine⟨by have:=h.room;omega,fun i a=>?_⟩;have:=h.tens l[i] (List.getElem_mem a);rw[show l[i]=l.getD i ([],[])by simp[a]]at this;exact⟨by omega,this.2.2.fits⟩
def Bh(w:L)(b o:Nat)(t:Tn):Prop:=∃vn vp,w.cell? ⟨b,o,M⟩=O vn∧w.cell? ⟨b,o+1,M⟩=O vp∧Qe w vn t.1∧Qo w vp t.2
theorem Bh.grown{w w':L}{b o:Nat}{t:Tn}(h:Bh w b o t)(hg:Y w w' M):Bh w' b o t:=by
 obtain⟨f,g,a,c,d,e⟩:=h;exact⟨f,g,hg.cell a (by simp),hg.cell c (by simp),d.grown hg,e.grown hg⟩
def ZX(w:L)(v:N)(l:FL):Prop:=∃a cap,v=S a l.length cap∧l.length<=cap∧((l=[]∧(a=M->cap=0))∨∃b o,a=O ⟨b,o,M⟩∧∀i,i<l.length->Bh w b (o+i*2) (l.getD i ([],[])))
theorem xH(w:L):ZX w (S M 0 0) []:=⟨M,0,rfl,sK _,.inl ⟨rfl,fun _=>rfl⟩⟩
theorem ZX.grown{w w':L}{v:N}{l:FL}(h:ZX w v l)(hg:Y w w' M):ZX w' v l:=by
 obtain⟨a,cap,rfl,c,h⟩:=h;refine⟨a,cap,rfl,c,?_⟩;rcases h with h|⟨b,o,rfl,h⟩;·exact .inl h
 ·exact .inr ⟨b,o,rfl,fun i d=>(h i d).grown hg⟩
theorem ZX.shape{w:L}{v:N}{l:FL}(h:ZX w v l):∃a cap,v=S a l.length cap:=by
 obtain⟨a,cap,rfl,_⟩:=h;exact⟨a,cap,rfl⟩
theorem ZX.at{w:L}{a:Option Addr}{n cap:Nat}{l:FL}(h:ZX w (S a n cap) l)(i:Nat)(hi:i<l.length):∃b o,a=O ⟨b,o,M⟩∧Bh w b (o+i*2) (l.getD i ([],[])):=by
 obtain⟨d,c,e,f,h⟩:=h;simp only[tK]at e;obtain⟨rfl,rfl,rfl⟩:=e;rcases h with⟨rfl,_⟩|⟨b,o,rfl,h⟩;·simp at hi
 ·exact⟨b,o,rfl,h i hi⟩
theorem nH:(220:Nat)≠5:=by
 decide
theorem nD:(220:Nat)≠45:=by
 decide
def ZJ(base:Nat)(w:L)(v:N)(l:FL):Prop:=∃vs:List (N×N),vs.length=l.length∧w.ownsRow base 220 2 v l.length (flat vs)∧∀i,i<l.length->Qh 0 w (vs.getD i (sV,sV)).1 (l.getD i ([],[])).1∧QL 0 w (vs.getD i (sV,sV)).2 (l.getD i ([],[])).2
theorem kA(base:Nat)(w:L):ZJ base w (S M 0 0) []:=⟨[],rfl,sY _ _ _ _,fun i hi=>by
 simp at hi⟩
theorem ZJ.row{base:Nat}{w:L}{v:N}{l:FL}(h:ZJ base w v l):v.ownBlock=M∨∃g cur t fz,v.ownBlock=O g∧base<=g∧w.heap[g]?=O (tD cur t fz)∧t≠5∧t≠45:=by
 obtain⟨c,_,h,_⟩:=h;rcases h.2with⟨rfl,_⟩|⟨g,cap,cur,rfl,a,b,_⟩;·exact .inl rfl
 ·exact .inr ⟨g,cur,_,_,rfl,a,b,nH,nD⟩
theorem ZJ.row0{base:Nat}{w:L}{v:N}{l:FL}(h:ZJ base w v l):v.ownBlock=M∨∃g cur t fz,v.ownBlock=O g∧0<=g∧w.heap[g]?=O (tD cur t fz)∧t≠5∧t≠45:=by
 rcases h.row with h|⟨g,cur,t,fz,a,_,b⟩;·exact .inl h
 ·exact .inr ⟨g,cur,t,fz,a,tU _,b⟩
theorem oY{base:Nat}{w:L}{r:Option Nat}(h:r=M∨∃g cur t fz,r=O g∧base<=g∧w.heap[g]?=O (tD cur t fz)∧t≠5∧t≠45):r=M∨∃g cur t fz,r=O g∧base<=g∧w.heap[g]?=O (tD cur t fz)∧t≠5:=by
 rcases h with h|⟨g,cur,t,fz,a,b,c,d,_⟩;·exact .inl h
 ·exact .inr ⟨g,cur,t,fz,a,b,c,d⟩
theorem ZJ.lt{base:Nat}{w:L}{v:N}{l:FL}(h:ZJ base w v l):∀k,v.ownBlock=O k->base<=k∧k<w.heap.size:=by
 obtain⟨a,_,h,_⟩:=h;exact sR h
theorem ZJ.grownNone{base:Nat}{w w':L}{v:N}{l:FL}(h:ZJ base w v l)(hg:Y w w' M):ZJ base w' v l:=by
 obtain⟨e,c,d,a⟩:=h;refine⟨e,c,tX d hg ?_,fun i b=>⟨((a i b).1).keptT hg (.inl rfl),((a i b).2).kept hg (.inl rfl)⟩⟩;cases hv:v.ownBlock with|none=>exact .inl rfl|some k=>exact .inr (by simp)
theorem ZJ.alloc{base:Nat}{w:L}{v:N}{l:FL}(h:ZJ base w v l)(o:Obj):ZJ base (w.alloc o) v l:=h.grownNone (sZ _ _ _)
theorem ZJ.shape{base:Nat}{w:L}{v:N}{l:FL}(h:ZJ base w v l):∃a cap,v=S a l.length cap:=by
 obtain⟨d,_,h,_⟩:=h;rcases h.2with⟨rfl,c⟩|⟨g,cap,b,rfl,_⟩;·exact⟨M,0,by rw[c]⟩
 ·exact⟨_,cap,rfl⟩
theorem ZJ.cells{base:Nat}{w:L}{g n cap:Nat}{vs:List (N×N)}{l:FL}(hr:w.ownsRow base 220 2 (S (O ⟨g,0,M⟩) n cap) l.length (flat vs)):∀j u,(flat vs)[j]?=O u->w.cell? ⟨g,j,M⟩=O u:=by
 intro j u f;rcases hr.2with⟨e,_⟩|⟨k,c,a,e,m,h,p,o,q,i⟩;·cases e
 ·simp only[tK,tF,Addr.mk.injEq]at e;obtain⟨⟨rfl,_⟩,_,_⟩:=e;(have b:j<l.length*2:=by have:=(sU.1 f).1;rw[hr.1]at this;exact this);(have d:(a.toList.take (l.length*2))[j]?=(flat vs)[j]?:=by rw[i]);rw[sL,if_pos b,f]at d;simp[tW,h];simpa using d
theorem ZJ.list{base:Nat}{w:L}{v:N}{l:FL}(h:ZJ base w v l):ZX w v l:=by
 obtain⟨b,p,f,c⟩:=h;have a:=f;rcases f.2with⟨rfl,k⟩|⟨g,cap,j,rfl,n,o,m,q,r,s⟩;·have:l=[]:=tN k;subst this;exact xH w
 ·refine⟨_,cap,rfl,m,.inr ⟨g,0,rfl,fun i e=>?_⟩⟩;have d:=jL b i (by omega);refine⟨(b.getD i (sV,sV)).1,(b.getD i (sV,sV)).2,?_,?_,(c i e).1.1,(c i e).2.list⟩;(·have:=ZJ.cells a _ _ d.1;rw[Nat.zero_add];exact this);·have:=ZJ.cells a _ _ d.2;rw[Nat.zero_add];exact this
theorem Es{base:Nat}{w W w1:L}{v:N}{l:FL}(h:Y w W M)(ho:ZJ base W v l)(hb:w.heap.size<=base)(hg:Y W w1 v.ownBlock):Y w w1 M:=⟨hg.os.trans h.os,hg.tape.trans h.tape,hg.output.trans h.output,tT h.size hg.size,fun i a b=>(hg.block i (tL a h.size) (fun e=>by
 have:=(ho.lt i e.symm).1;omega)).trans (h.block i a b)⟩
theorem Ru:(tB.info? 220).map (fun i=>(i.zero,i.size,i.bytes))=O (O (.agg #[S M 0 0,S M 0 0]),2,48):=by
 kernel_rfl
theorem uX{w:L}{o:Oper}{a:Act}{K:Act->L->Prop}{Q:Exit->Act->L->Prop}(s x:Operand)(ho:o.op=.call {callee:=.builtin .append,args:=#[s,x],argTypes:=#[35,35]})(base:Nat)(v:N)(l:FL)(hs:a.eval s=v)(hown:ZJ base w v l)(vn vp:N)(t:Tn)(hk:Qh 0 w vn t.1)(hv:QL 0 w vp t.2)(nb:Nat)(hb:w.heap[nb]?=O (tD #[vn,vp] 220))(hx:a.eval x=S (O ⟨nb,0,M⟩) 1 1)(hl:(l.length+1)*48<=140737488355328)(hbase:base<=w.heap.size)(h:∀v' w',ZJ base w' v' (l++[t])->Y w w' v.ownBlock->K (a.put o.dst v') w'):o.wp tB a w K Q:=by
 obtain⟨z,f,j,k,m⟩:=info_parts Ru;have b:=hown.row0;obtain⟨q,e,y,n⟩:=hown;refine wp_append_lies w s x 35 ho base 220 z (.agg #[S M 0 0,S M 0 0]) 2 48 Tryz.underlying35 f j k m rfl (by decide) v l.length (flat q) hs y ⟨nb,0,M⟩ 1 1 (flat [(vn,vp)]) hx rfl (World.news_of_block (cs:=#[vn,vp]) hb) ?_ (by omega) (by unfold maxLen;omega) hl hbase _ rfl ?_;·intro u p;simp only[flat,tS,List.flatMap_nil,List.append_nil,tP,tR,or_false]at p;rcases p with rfl|rfl;(·exact ZH hk);·exact jX hv
 ·intro g cap w' r d _ _;refine h _ w' ⟨q++[(vn,vp)],by simp[e],?_,?_⟩ d;(·rw[Kk,tG];exact r);·intro i f;rw[JA,JA,e];by_cases c:i<l.length;(·rw[if_pos c,if_pos c];exact⟨(n i c).1.keptT d (oY b),(n i c).2.kept d b⟩);·rw[if_neg c,if_neg c];(obtain rfl:i=l.length:=by simp at f;omega);rw[Nat.sub_self];exact⟨hk.keptT d (oY b),hv.kept d b⟩
theorem Rj{w:L}{ops:Array Oper}{o:Oper}{a:Act}{K:Act->L->Prop}{Q:Exit->Act->L->Prop}{E:Prop}(hgd:o.guard=M)(s x:Operand)(ho:o.op=.call {callee:=.builtin .append,args:=#[s,x],argTypes:=#[35,35]})(base:Nat)(v:N)(l:FL)(hs:a.eval s=v)(hown:ZJ base w v l)(vn vp:N)(t:Tn)(hk:Qh 0 w vn t.1)(hv:QL 0 w vp t.2)(nb:Nat)(hb:w.heap[nb]?=O (tD #[vn,vp] 220))(hx:a.eval x=S (O ⟨nb,0,M⟩) 1 1)(hl:(l.length+1)*48<=140737488355328)(hbase:base<=w.heap.size)(h:∀v' w',ZJ base w' v' (l++[t])->Y w w' v.ownBlock->K (a.put o.dst v') w'):if sP o (yielded ops a.tmps)=tA then Oper.wp tB o a w K Q else E:=by
 have b:sP o (yielded ops a.tmps)=tA:=by simp[sP,hgd]
 rw[if_pos b];exact uX s x ho base v l hs hown vn vp t hk hv nb hb hx hl hbase h
theorem Pm{w:L}{ops:Array Oper}{rest:List Oper}{o:Oper}{a:Act}{Q:Exit->Act->L->Prop}(hgd:o.guard=M)(s x:Operand)(ho:o.op=.call {callee:=.builtin .append,args:=#[s,x],argTypes:=#[35,35]})(base:Nat)(v:N)(l:FL)(hs:a.eval s=v)(hown:ZJ base w v l)(vn vp:N)(t:Tn)(hk:Qh 0 w vn t.1)(hv:QL 0 w vp t.2)(nb:Nat)(hb:w.heap[nb]?=O (tD #[vn,vp] 220))(hx:a.eval x=S (O ⟨nb,0,M⟩) 1 1)(hl:(l.length+1)*48<=140737488355328)(hbase:base<=w.heap.size)(h:∀v' w',ZJ base w' v' (l++[t])->Y w w' v.ownBlock->wpList tB ops Q rest (a.put o.dst v') w'):wpList tB ops Q (o::rest) a w:=wpList_plain hgd fun _ d=>uX s x ho base v l hs hown vn vp t hk hv nb hb hx hl hbase fun v' w' b c=>d _ _ (h v' w' b c)
theorem Qj{w:L}{b i:Nat}{cs:Array N}{t:tZ}{fz:Nat×Nat}{u:N}(h:w.heap[b]?=O (tD cs t fz)):(tI w ⟨b,i,M⟩ u).heap[b]?=O (tD (cs.setIfInBounds i u) t fz):=by
 simp only[tI,tY,if_true,h,Option.map_some];rfl
theorem Qz{w:L}{b c i:Nat}{o:Obj}{u:N}(h:w.heap[b]?=O o)(hne:b≠c):(tI w ⟨c,i,M⟩ u).heap[b]?=O o:=by
 simp only[tI,tY];rw[if_neg (fun e=>hne e.symm)];exact h
theorem YW(w:L)(b i:Nat)(u:N):Y w (tI w ⟨b,i,M⟩ u) (O b):=Qg (Qb w _) i u
theorem Qh.setOther{base:Nat}{w:L}{v:N}{bs:List UInt8}(h:Qh base w v bs){b i:Nat}{cs:Array N}{t:tZ}{fz:Nat×Nat}(hb:w.heap[b]?=O (tD cs t fz))(ht:t≠5)(hbb:base<=b)(u:N):Qh base (tI w ⟨b,i,M⟩ u) v bs:=h.keptT (YW w b i u) (.inr ⟨b,cs,t,fz,rfl,hbb,hb,ht⟩)
def Q4(rb pb:Nat)(w:L)(v:N)(l:List Q6):Prop:=∃us:List WV,us.map (·.1)=l∧w.ownsRow rb 154 4 v l.length (Jh us)∧∀x∈us,Qh pb w x.2.1 x.1.name∧Qh pb w x.2.2.1 x.1.key∧Qh pb w x.2.2.2 x.1.value
theorem XE(rb pb:Nat)(w:L):Q4 rb pb w (S M 0 0) []:=⟨[],rfl,sY _ _ _ _,fun x hx=>by
 simp at hx⟩
theorem Q4.row{rb pb:Nat}{w:L}{v:N}{l:List Q6}(h:Q4 rb pb w v l):v.ownBlock=M∨∃g cur fz,v.ownBlock=O g∧rb<=g∧w.heap[g]?=O (tD cur 154 fz):=by
 obtain⟨c,_,h,_⟩:=h;rcases h.2with⟨rfl,_⟩|⟨g,cap,cur,rfl,a,b,_⟩;·exact .inl rfl
 ·exact .inr ⟨g,cur,_,rfl,a,b⟩
theorem Q4.lt{rb pb:Nat}{w:L}{v:N}{l:List Q6}(h:Q4 rb pb w v l):∀k,v.ownBlock=O k->rb<=k∧k<w.heap.size:=by
 obtain⟨a,_,h,_⟩:=h;exact sR h
theorem Q4.ne{rb pb:Nat}{w:L}{v:N}{l:List Q6}(h:Q4 rb pb w v l){b:Nat}{cs:Array N}{t:tZ}{fz:Nat×Nat}(hb:w.heap[b]?=O (tD cs t fz))(ht:t≠154):v.ownBlock≠O b:=by
 intro e;rcases h.row with f|⟨g,c,d,i,_,a⟩;·rw[f]at e;cases e
 ·rw[i]at e;cases e;rw[hb]at a;simp only[tF,sH]at a;exact ht a.2.1
theorem Q4.kept{rb pb:Nat}{w w':L}{v:N}{l:List Q6}(h:Q4 rb pb w v l){row:Option Nat}(hg:Y w w' row)(hne:v.ownBlock=M∨v.ownBlock≠row)(hrow:row=M∨∃g cur t fz,row=O g∧pb<=g∧w.heap[g]?=O (tD cur t fz)∧t≠5):Q4 rb pb w' v l:=by
 obtain⟨e,c,d,a⟩:=h;exact⟨e,c,tX d hg hne,fun x b=>⟨(a x b).1.keptT hg hrow,(a x b).2.1.keptT hg hrow,(a x b).2.2.keptT hg hrow⟩⟩
theorem Q4.grownNone{rb pb:Nat}{w w':L}{v:N}{l:List Q6}(h:Q4 rb pb w v l)(hg:Y w w' M):Q4 rb pb w' v l:=h.kept hg (by
 cases hv:v.ownBlock with|none=>exact .inl rfl|some k=>exact .inr (by simp)) (.inl rfl)
theorem Q4.setOther{rb pb:Nat}{w:L}{v:N}{l:List Q6}(h:Q4 rb pb w v l){b i:Nat}{cs:Array N}{t:tZ}{fz:Nat×Nat}(hb:w.heap[b]?=O (tD cs t fz))(ht:t≠5)(ht2:t≠154)(hbb:pb<=b)(u:N):Q4 rb pb (tI w ⟨b,i,M⟩ u) v l:=h.kept (YW w b i u) (.inr (h.ne hb ht2)) (.inr ⟨b,cs,t,fz,rfl,hbb,hb,ht⟩)
theorem Q4.shape{rb pb:Nat}{w:L}{v:N}{l:List Q6}(h:Q4 rb pb w v l):∃a cap,v=S a l.length cap:=by
 obtain⟨d,_,h,_⟩:=h;rcases h.2with⟨rfl,c⟩|⟨g,cap,b,rfl,_⟩;·exact⟨M,0,by rw[c]⟩
 ·exact⟨_,cap,rfl⟩
theorem Q4.any{rb pb:Nat}{w:L}{v:N}{l:List Q6}(h:Q4 rb pb w v l):∃a n cap,v=S a n cap:=by
 obtain⟨a,cap,e⟩:=h.shape;exact⟨a,_,cap,e⟩
theorem Q4.down{rb pb:Nat}{w:L}{v:N}{l:List Q6}(h:Q4 rb pb w v l)(rb':Nat)(hb:rb'<=rb):Q4 rb' pb w v l:=by
 obtain⟨i,d,c,f⟩:=h;refine⟨i,d,⟨c.1,?_⟩,f⟩;rcases c.2with h|⟨g,cap,a,e,b,rest⟩;·exact .inl h
 ·exact .inr ⟨g,cap,a,e,tT hb b,rest⟩
theorem Q4.writesB{rb pb:Nat}{w:L}{v:N}{l:List Q6}(h:Q4 rb pb w v l):Xv pb w v l:=by
 obtain⟨d,o,q,z⟩:=h;rcases q.2with⟨rfl,y⟩|⟨g,cap,e,rfl,D,m,B,E,F,C⟩;·have:l=[]:=tN y;rw[this];exact Bt pb w
 ·(have a:∀j u,(Jh d)[j]?=O u->w.cell? ⟨g,j,M⟩=O u:=by intro j u n;(have f:j<l.length*4:=by have:=(sU.1 n).1;rw[q.1]at this;exact this);(have b:(e.toList.take (l.length*4))[j]?=(Jh d)[j]?:=by rw[C]);rw[sL,if_pos f,n]at b;simp[tW,m];simpa using b);refine⟨_,cap,rfl,B,.inr ⟨g,0,rfl,.inr ⟨_,_,m⟩,fun i A=>?_⟩⟩;obtain⟨x,b⟩:=Ob o i A;(have p:d.length=l.length:=by rw[<-o];simp);obtain⟨r,s,k,t⟩:=Dj d i (by omega);have c:=z _ b;rw[x]at k c;rw[Nat.zero_add];exact⟨_,_,_,a _ _ r,a _ _ s,a _ _ k,a _ _ t,c.1,c.2.1,c.2.2⟩
theorem Q4.list{rb pb:Nat}{w:L}{v:N}{l:List Q6}(h:Q4 rb pb w v l):QP w v l:=h.writesB.list
theorem GI{rb pb:Nat}{w W w1:L}{v:N}{l:List Q6}(h:Y w W M)(ho:Q4 rb pb W v l)(hb:w.heap.size<=rb)(hg:Y W w1 v.ownBlock):Y w w1 M:=⟨hg.os.trans h.os,hg.tape.trans h.tape,hg.output.trans h.output,tT h.size hg.size,fun i a b=>(hg.block i (tL a h.size) (fun e=>by
 have:=(ho.lt i e.symm).1;omega)).trans (h.block i a b)⟩
def E7(w:L)(b o:Nat)(r:Rd):Prop:=∃vn vk vl,w.cell? ⟨b,o,M⟩=O vn∧w.cell? ⟨b,o+1,M⟩=O vk∧w.cell? ⟨b,o+2,M⟩=O (tQ r.wide)∧w.cell? ⟨b,o+3,M⟩=O vl∧Qe w vn r.name∧Qe w vk r.key∧Qe w vl r.last
theorem E7.grown{w w':L}{b o:Nat}{r:Rd}(h:E7 w b o r)(hg:Y w w' M):E7 w' b o r:=by
 obtain⟨l,j,k,a,c,d,e,f,g,i⟩:=h;exact⟨l,j,k,hg.cell a (by simp),hg.cell c (by simp),hg.cell d (by simp),hg.cell e (by simp),f.grown hg,g.grown hg,i.grown hg⟩
def Xg(w:L)(v:N)(l:List Rd):Prop:=∃a cap,v=S a l.length cap∧l.length<=cap∧((l=[]∧(a=M->cap=0))∨∃b o,a=O ⟨b,o,M⟩∧∀i,i<l.length->E7 w b (o+i*4) (l.getD i Zj))
theorem AQ(w:L):Xg w (S M 0 0) []:=⟨M,0,rfl,sK _,.inl ⟨rfl,fun _=>rfl⟩⟩
theorem Xg.shape{w:L}{v:N}{l:List Rd}(h:Xg w v l):∃a cap,v=S a l.length cap:=by
 obtain⟨a,cap,rfl,_⟩:=h;exact⟨a,cap,rfl⟩
theorem Xg.grown{w w':L}{v:N}{l:List Rd}(h:Xg w v l)(hg:Y w w' M):Xg w' v l:=by
 obtain⟨a,cap,rfl,c,h⟩:=h;refine⟨a,cap,rfl,c,?_⟩;rcases h with h|⟨b,o,rfl,h⟩;·exact .inl h
 ·exact .inr ⟨b,o,rfl,fun i d=>(h i d).grown hg⟩
theorem Xg.at{w:L}{a:Option Addr}{n cap:Nat}{l:List Rd}(h:Xg w (S a n cap) l)(i:Nat)(hi:i<l.length):∃b o,a=O ⟨b,o,M⟩∧E7 w b (o+i*4) (l.getD i Zj):=by
 obtain⟨d,c,e,f,h⟩:=h;simp only[tK]at e;obtain⟨rfl,rfl,rfl⟩:=e;rcases h with⟨rfl,_⟩|⟨b,o,rfl,h⟩;·simp at hi
 ·exact⟨b,o,rfl,h i hi⟩
structure pW (l : List Rd) : Prop where
  many : l.length * 80 <= 140737488355328
  each : ∀ i, i < l.length -> Ta (l.getD i Zj)
structure jE (t : Tx) : Prop where
  start : -9223372036854775808 <= t.start ∧ t.start <= 9223372036854775807
  reads : pW t.reads
  writes : Pd t.writes
def zK(w:L)(v:N)(t:Tx):Prop:=∃vr vw,v=.agg #[tE tH t.start,vr,vw]∧Xg w vr t.reads∧QP w vw t.writes
theorem zK.grown{w w':L}{v:N}{t:Tx}(h:zK w v t)(hg:Y w w' M):zK w' v t:=by
 obtain⟨c,d,rfl,a,b⟩:=h;exact⟨c,d,rfl,a.grown hg,b.grown hg⟩
theorem zK.agg{w:L}{v:N}{t:Tx}(h:zK w v t):∃ra rc wa wc,v=.agg #[tE tH t.start,S ra t.reads.length rc,S wa t.writes.length wc]:=by
 obtain⟨c,d,rfl,a,b⟩:=h;obtain⟨ra,rc,rfl⟩:=a.shape;obtain⟨wa,wc,rfl⟩:=b.shape;exact⟨ra,rc,wa,wc,rfl⟩
theorem zK.parts{w:L}{t:Tx}{x y z:N}(h:zK w (.agg #[x,y,z]) t):x=tE tH t.start∧Xg w y t.reads∧QP w z t.writes:=by
 obtain⟨c,d,e,a,b⟩:=h;simp only[Value.agg.injEq,Array.mk.injEq,List.cons.injEq,and_true]at e;obtain⟨rfl,rfl,rfl⟩:=e;exact⟨rfl,a,b⟩
theorem FY{r:Rd}(h:XM r=0):Ta r:=by
 obtain⟨b,c,a⟩:=(Mi r).1 h;refine⟨by omega,by omega,?_⟩;split at a;·omega
 ·rw[a];simp
abbrev RV:=Rd×N×N×N
def SH:RV:=(Zj,sV,sV,sV)
def G9(us:List RV):List N:=us.flatMap fun x=>[x.2.1,x.2.2.1,tQ x.1.wide,x.2.2.2]
theorem Dx(a b:List RV):G9 (a++b)=G9 a++G9 b:=by
 simp[G9]
theorem MN:∀(us:List RV)(i:Nat),i<us.length->(G9 us)[i*4]?=O (us.getD i SH).2.1∧(G9 us)[i*4+1]?=O (us.getD i SH).2.2.1∧(G9 us)[i*4+2]?=O (tQ (us.getD i SH).1.wide)∧(G9 us)[i*4+3]?=O (us.getD i SH).2.2.2|[],i,h=>by simp at h|x::us,0,_=>⟨rfl,rfl,rfl,rfl⟩|x::us,i+1,h=>by have:=MN us i (by simpa using h);rw[show(i+1)*4=i*4+4by omega];exact this
theorem o9:(175:Nat)≠5:=by
 decide
theorem pN:(175:Nat)≠154:=by
 decide
def ZS(rb pb:Nat)(w:L)(v:N)(l:List Rd):Prop:=∃us:List RV,us.map (·.1)=l∧w.ownsRow rb 175 4 v l.length (G9 us)∧∀x∈us,Qh pb w x.2.1 x.1.name∧Qh pb w x.2.2.1 x.1.key∧Qh pb w x.2.2.2 x.1.last
theorem UO(rb pb:Nat)(w:L):ZS rb pb w (S M 0 0) []:=⟨[],rfl,sY _ _ _ _,fun x hx=>by
 simp at hx⟩
theorem ZS.row{rb pb:Nat}{w:L}{v:N}{l:List Rd}(h:ZS rb pb w v l):v.ownBlock=M∨∃g cur fz,v.ownBlock=O g∧rb<=g∧w.heap[g]?=O (tD cur 175 fz):=by
 obtain⟨c,_,h,_⟩:=h;rcases h.2with⟨rfl,_⟩|⟨g,cap,cur,rfl,a,b,_⟩;·exact .inl rfl
 ·exact .inr ⟨g,cur,_,rfl,a,b⟩
theorem ZS.lt{rb pb:Nat}{w:L}{v:N}{l:List Rd}(h:ZS rb pb w v l):∀k,v.ownBlock=O k->rb<=k∧k<w.heap.size:=by
 obtain⟨a,_,h,_⟩:=h;exact sR h
theorem ZS.ne{rb pb:Nat}{w:L}{v:N}{l:List Rd}(h:ZS rb pb w v l){b:Nat}{cs:Array N}{t:tZ}{fz:Nat×Nat}(hb:w.heap[b]?=O (tD cs t fz))(ht:t≠175):v.ownBlock≠O b:=by
 intro e;rcases h.row with f|⟨g,c,d,i,_,a⟩;·rw[f]at e;cases e
 ·rw[i]at e;cases e;rw[hb]at a;simp only[tF,sH]at a;exact ht a.2.1
theorem ZS.kept{rb pb:Nat}{w w':L}{v:N}{l:List Rd}(h:ZS rb pb w v l){row:Option Nat}(hg:Y w w' row)(hne:v.ownBlock=M∨v.ownBlock≠row)(hrow:row=M∨∃g cur t fz,row=O g∧pb<=g∧w.heap[g]?=O (tD cur t fz)∧t≠5):ZS rb pb w' v l:=by
 obtain⟨e,c,d,a⟩:=h;exact⟨e,c,tX d hg hne,fun x b=>⟨(a x b).1.keptT hg hrow,(a x b).2.1.keptT hg hrow,(a x b).2.2.keptT hg hrow⟩⟩
theorem ZS.grownNone{rb pb:Nat}{w w':L}{v:N}{l:List Rd}(h:ZS rb pb w v l)(hg:Y w w' M):ZS rb pb w' v l:=h.kept hg (by
 cases hv:v.ownBlock with|none=>exact .inl rfl|some k=>exact .inr (by simp)) (.inl rfl)
theorem ZS.setOther{rb pb:Nat}{w:L}{v:N}{l:List Rd}(h:ZS rb pb w v l){b i:Nat}{cs:Array N}{t:tZ}{fz:Nat×Nat}(hb:w.heap[b]?=O (tD cs t fz))(ht:t≠5)(ht2:t≠175)(hbb:pb<=b)(u:N):ZS rb pb (tI w ⟨b,i,M⟩ u) v l:=h.kept (YW w b i u) (.inr (h.ne hb ht2)) (.inr ⟨b,cs,t,fz,rfl,hbb,hb,ht⟩)
theorem ZS.down{rb pb:Nat}{w:L}{v:N}{l:List Rd}(h:ZS rb pb w v l)(rb':Nat)(hb:rb'<=rb):ZS rb' pb w v l:=by
 obtain⟨i,d,c,f⟩:=h;refine⟨i,d,⟨c.1,?_⟩,f⟩;rcases c.2with h|⟨g,cap,a,e,b,rest⟩;·exact .inl h
 ·exact .inr ⟨g,cap,a,e,tT hb b,rest⟩
theorem ZS.shape{rb pb:Nat}{w:L}{v:N}{l:List Rd}(h:ZS rb pb w v l):∃a cap,v=S a l.length cap:=by
 obtain⟨d,_,h,_⟩:=h;rcases h.2with⟨rfl,c⟩|⟨g,cap,b,rfl,_⟩;·exact⟨M,0,by rw[c]⟩
 ·exact⟨_,cap,rfl⟩
theorem aC{us:List RV}{l:List Rd}(h:us.map (·.1)=l)(i:Nat)(hi:i<l.length):(us.getD i SH).1=l.getD i Zj∧us.getD i SH∈us:=by
 subst h;have a:i<us.length:=by simpa using hi
 refine⟨by simp[a],?_⟩;rw[show us.getD i SH=us[i]by simp[a]];exact List.getElem_mem a
theorem ZS.list{rb pb:Nat}{w:L}{v:N}{l:List Rd}(h:ZS rb pb w v l):Xg w v l:=by
 obtain⟨d,n,p,y⟩:=h;rcases p.2with⟨rfl,x⟩|⟨g,cap,e,rfl,D,z,B,E,F,C⟩;·have:l=[]:=tN x;rw[this];exact AQ w
 ·(have a:∀j u,(G9 d)[j]?=O u->w.cell? ⟨g,j,M⟩=O u:=by intro j u m;(have f:j<l.length*4:=by have:=(sU.1 m).1;rw[p.1]at this;exact this);(have b:(e.toList.take (l.length*4))[j]?=(G9 d)[j]?:=by rw[C]);rw[sL,if_pos f,m]at b;simp[tW,z];simpa using b);refine⟨_,cap,rfl,B,.inr ⟨g,0,rfl,fun i A=>?_⟩⟩;obtain⟨t,b⟩:=aC n i A;(have o:d.length=l.length:=by rw[<-n];simp);obtain⟨q,r,k,s⟩:=MN d i (by omega);have c:=y _ b;rw[t]at k c;rw[Nat.zero_add];exact⟨_,_,_,a _ _ q,a _ _ r,a _ _ k,a _ _ s,c.1.1,c.2.1.1,c.2.2.1⟩
theorem Ek{rb pb:Nat}{w W w1:L}{v:N}{l:List Rd}(h:Y w W M)(ho:ZS rb pb W v l)(hb:w.heap.size<=rb)(hg:Y W w1 v.ownBlock):Y w w1 M:=⟨hg.os.trans h.os,hg.tape.trans h.tape,hg.output.trans h.output,tT h.size hg.size,fun i a b=>(hg.block i (tL a h.size) (fun e=>by
 have:=(ho.lt i e.symm).1;omega)).trans (h.block i a b)⟩
theorem o6:(tB.info? 175).map (fun i=>(i.zero,i.size,i.bytes))=O (O (.agg #[S M 0 0,S M 0 0,tQ tC,S M 0 0]),4,80):=by
 kernel_rfl
def zD(w:L)(v:N)(t:Tx):Prop:=∃vr vw,v=.agg #[tE tH t.start,vr,vw]∧ZS 0 0 w vr t.reads∧Q4 0 0 w vw t.writes
theorem zD.is{w:L}{v:N}{t:Tx}(h:zD w v t):zK w v t:=by
 obtain⟨c,d,rfl,a,b⟩:=h;exact⟨c,d,rfl,a.list,b.list⟩
theorem jC(w:L):zD w (.agg #[tE tH 0,S M 0 0,S M 0 0]) T8:=⟨_,_,rfl,UO 0 0 w,XE 0 0 w⟩
def Nn(w:L)(b o:Nat)(s:VN):Prop:=∃vo,w.cell? ⟨b,o,M⟩=O (tE tH s.bit)∧w.cell? ⟨b,o+1,M⟩=O (tQ s.right)∧w.cell? ⟨b,o+2,M⟩=O vo∧Qe w vo s.other
theorem Nn.grown{w w':L}{b o:Nat}{s:VN}(h:Nn w b o s)(hg:Y w w' M):Nn w' b o s:=by
 obtain⟨f,a,c,d,e⟩:=h;exact⟨f,hg.cell a (by simp),hg.cell c (by simp),hg.cell d (by simp),e.grown hg⟩
def JH(w:L)(v:N)(l:List VN):Prop:=∃a cap,v=S a l.length cap∧l.length<=cap∧((l=[]∧(a=M->cap=0))∨∃b o,a=O ⟨b,o,M⟩∧∀i,i<l.length->Nn w b (o+i*3) (l.getD i QT))
theorem AG(w:L):JH w (S M 0 0) []:=⟨M,0,rfl,sK _,.inl ⟨rfl,fun _=>rfl⟩⟩
theorem JH.grown{w w':L}{v:N}{l:List VN}(h:JH w v l)(hg:Y w w' M):JH w' v l:=by
 obtain⟨a,cap,rfl,c,h⟩:=h;refine⟨a,cap,rfl,c,?_⟩;rcases h with h|⟨b,o,rfl,h⟩;·exact .inl h
 ·exact .inr ⟨b,o,rfl,fun i d=>(h i d).grown hg⟩
theorem JH.shape{w:L}{v:N}{l:List VN}(h:JH w v l):∃a cap,v=S a l.length cap:=by
 obtain⟨a,cap,rfl,_⟩:=h;exact⟨a,cap,rfl⟩
theorem JH.at{w:L}{a:Option Addr}{n cap:Nat}{l:List VN}(h:JH w (S a n cap) l)(i:Nat)(hi:i<l.length):∃b o,a=O ⟨b,o,M⟩∧Nn w b (o+i*3) (l.getD i QT):=by
 obtain⟨d,c,e,f,h⟩:=h;simp only[tK]at e;obtain⟨rfl,rfl,rfl⟩:=e;rcases h with⟨rfl,_⟩|⟨b,o,rfl,h⟩;·simp at hi
 ·exact⟨b,o,rfl,h i hi⟩
def Xo(w:L)(v:N)(p:GU):Prop:=∃vs vk vv,v=.agg #[tQ p.empty,vs,vk,vv]∧JH w vs p.steps∧Qe w vk p.pair.1∧Qe w vv p.pair.2
theorem Xo.grown{w w':L}{v:N}{p:GU}(h:Xo w v p)(hg:Y w w' M):Xo w' v p:=by
 obtain⟨e,d,f,rfl,a,b,c⟩:=h;exact⟨e,d,f,rfl,a.grown hg,b.grown hg,c.grown hg⟩
def kL(p:GU):Prop:=p.steps.length*40<=140737488355328∧(∀i,i<p.steps.length->(-9223372036854775808<=(p.steps.getD i QT).bit∧(p.steps.getD i QT).bit<=9223372036854775807)∧(p.steps.getD i QT).other.length<=140737488355328)∧p.pair.1.length<=140737488355328∧p.pair.2.length<=140737488355328
theorem Zo{w:L}{b:Nat}{x y:N}{t:tZ}(h:w.heap[b]?=O (tD #[x,y] t)):w.cell? ⟨b,0,M⟩=O x∧w.cell? ⟨b,1,M⟩=O y∧w.frozen? ⟨b,0,M⟩=tC∧w.frozen? ⟨b,1,M⟩=tC:=by
 refine⟨?_,?_,?_,?_⟩<;>simp[tW,World.frozen?,h]
theorem z8{w:L}{b:Nat}{x y:N}{t:tZ}(h:w.heap[b]?=O (tD #[x,y] t))(u v:N):((tI w ⟨b,0,M⟩ u).setCell ⟨b,1,M⟩ v).heap[b]?=O (tD #[u,v] t):=by
 have a:(tI w ⟨b,0,M⟩ u).heap[b]?=O (tD #[u,y] t):=by simp only[tI,tY,if_true,h,Option.map_some];first|rfl|simp
 rw[tI,tY,if_pos rfl,a];first|rfl|simp
theorem Ya{w:L}{b:Nat}{x y z:N}{t:tZ}(h:w.heap[b]?=O (tD #[x,y,z] t)):(w.cell? ⟨b,0,M⟩=O x∧w.cell? ⟨b,1,M⟩=O y∧w.cell? ⟨b,2,M⟩=O z)∧w.frozen? ⟨b,0,M⟩=tC∧w.frozen? ⟨b,1,M⟩=tC∧w.frozen? ⟨b,2,M⟩=tC:=by
 refine⟨⟨?_,?_,?_⟩,?_,?_,?_⟩<;>simp[tW,World.frozen?,h]
theorem MB{w:L}{b:Nat}{x y z:N}{t:tZ}(h:w.heap[b]?=O (tD #[x,y,z] t))(x' y' z':N):(((tI w ⟨b,0,M⟩ x').setCell ⟨b,1,M⟩ y').setCell ⟨b,2,M⟩ z').heap[b]?=O (tD #[x',y',z'] t):=by
 have a:(tI w ⟨b,0,M⟩ x').heap[b]?=O (tD #[x',y,z] t):=by simp only[tI,tY,if_true,h,Option.map_some];first|rfl|simp
 have c:((tI w ⟨b,0,M⟩ x').setCell ⟨b,1,M⟩ y').heap[b]?=O (tD #[x',y',z] t):=by rw[tI,tY,if_pos rfl,a];first|rfl|simp
 rw[tI,tY,if_pos rfl,c];first|rfl|simp
theorem Tw{w w1:L}(h:Y w w1 M)(b:Nat)(hb:w.heap.size<=b)(x y z:N):Y w (((tI w1 ⟨b,0,M⟩ x).setCell ⟨b,1,M⟩ y).setCell ⟨b,2,M⟩ z) M:=Qc (Qc (Qc h _ hb _ _) _ hb _ _) _ hb _ _
theorem Gf{w w1:L}(h:Y w w1 M)(b:Nat)(hb:w.heap.size<=b)(x y:N):Y w ((tI w1 ⟨b,0,M⟩ x).setCell ⟨b,1,M⟩ y) M:=Qc (Qc h _ hb _ _) _ hb _ _
def oR(w:L)(b:Nat):Prop:=∃cur t fz,w.heap[b]?=O (tD cur t fz)∧(t=5∨∃q,cur[0]?=O (tE .u8 q))
def uH(w:L)(b:Nat):Prop:=∃cur t fz,w.heap[b]?=O (tD cur t fz)∧t≠5∧∀q,cur[0]?≠O (tE .u8 q)
theorem oR.ne{w:L}{a b:Nat}(h:oR w a)(h':uH w b):a≠b:=by
 rintro rfl;obtain⟨f,t,l,i,c⟩:=h;obtain⟨e,m,g,d,j,k⟩:=h';rw[i]at d;simp only[tF,sH]at d;obtain⟨rfl,rfl,_⟩:=d;rcases c with c|⟨q,c⟩;·exact j c
 ·exact k q c
theorem uH.grown{w w':L}{b:Nat}(h:uH w b)(hg:Y w w' M):uH w' b:=by
 obtain⟨a,t,d,c,e⟩:=h;exact⟨a,t,d,by rw[hg.block b (tM.1 c).1 (by simp)];exact c,e⟩
theorem uH.set{w:L}{c:Nat}(h:uH w c)(i:Nat)(u:N)(hu:∀q,u≠tE .u8 q):uH (tI w ⟨c,i,M⟩ u) c:=by
 obtain⟨b,t,d,e,f,g⟩:=h;refine⟨b.setIfInBounds i u,t,d,?_,f,fun q a=>?_⟩;·simp only[tI,tY,if_true,e,Option.map_some];first|rfl|simp
 ·rw[Array.getElem?_setIfInBounds]at a;split at a;(·split at a;(·simp at a;exact hu q a);·cases a);·exact g q a
theorem Cq{w:L}{c:Nat}{x:N}{xs:List N}{t:tZ}{fz:Nat×Nat}(h:w.heap[c]?=O (tD ⟨x::xs⟩ t fz))(ht:t≠5)(hx:∀q,x≠tE .u8 q):uH w c:=⟨_,t,fz,h,ht,fun q a=>by
 simp at a;exact hx q a⟩
def Yb(w:L)(v:N)(bs:List UInt8):Prop:=Qe w v bs∧(bs=[]∨∃b,v.ownBlock=O b∧b<w.heap.size∧oR w b)
theorem pG:(97:Nat)≠5:=by
 decide
theorem U5(w:L):Yb w (S M 0 0) []:=⟨Qw _,.inl rfl⟩
theorem Za.partS{base':Nat}{w:L}{v:N}{bs:List UInt8}(h:Za base' w v bs):Yb w v bs:=by
 refine⟨h.slice,?_⟩;rcases h.2with⟨rfl,c⟩|⟨g,cap,a,rfl,d,b,_⟩;·exact .inl (tN c)
 ·exact .inr ⟨g,rfl,(tM.1 b).1,a,_,_,b,.inl rfl⟩
theorem ZN.partS{w:L}{nb:Nat}{bs:List UInt8}(h:ZN w nb bs)(hl:bs.length=32):Yb w (S (O ⟨nb,0,M⟩) 32 32) bs:=by
 refine⟨h.slice32 hl,.inr ⟨nb,rfl,U1 (h.cell 0 (by omega)),?_⟩⟩;have b:=h.cell 0 (by omega);obtain⟨t,a⟩:=h;refine⟨_,t,_,a,.inr ⟨((bs.getD 0 0).toNat:Int),?_⟩⟩;·simpa[tW,a]using b
theorem Mc{w:L}{v:N}{bs:List UInt8}(h:Yb w v bs):v.oneCell'=tA:=by
 obtain⟨⟨a,cap,rfl,_⟩,_⟩:=h;rfl
def pQ(w:L)(row:Option Nat):Prop:=row=M∨∃g,row=O g∧uH w g
theorem Yb.kept{w w':L}{v:N}{bs:List UInt8}(h:Yb w v bs){row:Option Nat}(hg:Y w w' row)(hrow:pQ w row):Yb w' v bs:=by
 obtain⟨r,x⟩:=h;rcases x with rfl|⟨b,l,f,c⟩;·obtain⟨a,cap,rfl,c,h⟩:=r;refine⟨⟨a,cap,rfl,c,?_⟩,.inl rfl⟩;rcases h with h|⟨b,o,rfl,h⟩;(·exact .inl h);·exact .inr ⟨b,o,rfl,fun i q=>by simp at q⟩
 ·(have j:O b≠row:=by intro e;rcases hrow with rfl|⟨g,rfl,p⟩;(·cases e);·cases e;exact c.ne p rfl);have d:=hg.block b f j;refine⟨?_,.inr ⟨b,l,tL f hg.size,?_⟩⟩;(·obtain⟨a,cap,rfl,n,h⟩:=r;refine⟨a,cap,rfl,n,?_⟩;rcases h with h|⟨s,o,rfl,h⟩;(·exact .inl h);·refine .inr ⟨s,o,rfl,fun i q=>?_⟩;simp[Value.ownBlock]at l;subst l;exact hg.cell (h i q) (by simpa using j));·obtain⟨k,t,u,c,m⟩:=c;exact⟨k,t,u,by rw[d];exact c,m⟩
theorem Yb.grown{w w':L}{v:N}{bs:List UInt8}(h:Yb w v bs)(hg:Y w w' M):Yb w' v bs:=h.kept hg (.inl rfl)
theorem Yb.set{w:L}{v:N}{bs:List UInt8}(h:Yb w v bs){c:Nat}(hc:uH w c)(i:Nat)(u:N):Yb (tI w ⟨c,i,M⟩ u) v bs:=h.kept (Qg (Qb _ (O c)) i u) (.inr ⟨c,rfl,hc⟩)
abbrev SV:=VN×N
def I9:SV:=(QT,sV)
def UI(us:List SV):List N:=us.flatMap fun x=>[tE tH x.1.bit,tQ x.1.right,x.2]
theorem Ct(a b:List SV):UI (a++b)=UI a++UI b:=by
 simp[UI]
theorem Dr:∀(us:List SV)(i:Nat),i<us.length->(UI us)[i*3]?=O (tE tH (us.getD i I9).1.bit)∧(UI us)[i*3+1]?=O (tQ (us.getD i I9).1.right)∧(UI us)[i*3+2]?=O (us.getD i I9).2|[],i,h=>by simp at h|x::r,0,_=>by simp[UI]|x::r,i+1,h=>by have:=Dr r i (by simpa using h);rw[show(i+1)*3=i*3+3by omega,show i*3+3+1=(i*3+1)+3by omega,show i*3+3+2=(i*3+2)+3by omega];simpa[UI]using this
theorem Oj(us:List SV):∀u∈UI us,(∀x∈us,x.2.oneCell'=tA)->u.oneCell'=tA:=by
 intro u a h;obtain⟨x,b,a⟩:=List.mem_flatMap.1 a;simp only[tP,tR,or_false]at a;rcases a with rfl|rfl|rfl;·rfl
 ·rfl
 ·exact h x b
def Ke(base:Nat)(w:L)(v:N)(l:List VN):Prop:=∃us:List SV,us.map (·.1)=l∧w.ownsRow base 97 3 v l.length (UI us)∧(∀x∈us,Yb w x.2 x.1.other)∧(l=[]->v=S M 0 0)
theorem Pv(base:Nat)(w:L):Ke base w (S M 0 0) []:=⟨[],rfl,sY _ _ _ _,fun x hx=>by
 simp at hx,fun _=>rfl⟩
theorem Ke.row{base:Nat}{w:L}{v:N}{l:List VN}(h:Ke base w v l):pQ w v.ownBlock:=by
 obtain⟨b,c,h,_,d⟩:=h;cases l with|nil=>rw[d rfl];exact .inl rfl|cons x r=>rcases h.2with⟨rfl,_⟩|⟨g,cap,a,rfl,j,f,k,_,_,i⟩;(·exact .inl rfl);·refine .inr ⟨g,rfl,a,_,_,f,pG,fun q=>?_⟩;cases b with|nil=>simp at c|cons u b=>simp only[List.map_cons,List.cons.injEq]at c;(have e:(a.toList.take ((x::r).length*3))[0]?=(UI (u::b))[0]?:=by rw[i]);rw[sL,if_pos (by simp)]at e;rw[<-Array.getElem?_toList,e];simp[UI]
theorem Ke.lt{base:Nat}{w:L}{v:N}{l:List VN}(h:Ke base w v l):∀k,v.ownBlock=O k->base<=k∧k<w.heap.size:=by
 obtain⟨a,_,h,_⟩:=h;exact sR h
theorem Ke.grownNone{base:Nat}{w w':L}{v:N}{l:List VN}(h:Ke base w v l)(hg:Y w w' M):Ke base w' v l:=by
 obtain⟨f,a,b,c,d⟩:=h;refine⟨f,a,tX b hg ?_,fun x e=>(c x e).grown hg,d⟩;cases hv:v.ownBlock with|none=>exact .inl rfl|some k=>exact .inr (by simp)
theorem Ke.alloc{base:Nat}{w:L}{v:N}{l:List VN}(h:Ke base w v l)(o:Obj):Ke base (w.alloc o) v l:=h.grownNone (sZ _ _ _)
theorem Ke.shape{base:Nat}{w:L}{v:N}{l:List VN}(h:Ke base w v l):∃a cap,v=S a l.length cap:=by
 obtain⟨d,_,h,_⟩:=h;rcases h.2with⟨rfl,c⟩|⟨g,cap,b,rfl,_⟩;·exact⟨M,0,by rw[c]⟩
 ·exact⟨_,cap,rfl⟩
theorem Ke.cells{base:Nat}{w:L}{g n cap:Nat}{us:List SV}{k:Nat}(hr:w.ownsRow base 97 3 (S (O ⟨g,0,M⟩) n cap) k (UI us)):∀j u,(UI us)[j]?=O u->w.cell? ⟨g,j,M⟩=O u:=by
 intro j u f;rcases hr.2with⟨e,_⟩|⟨l,c,a,e,m,h,p,o,q,i⟩;·cases e
 ·simp only[tK,tF,Addr.mk.injEq]at e;obtain⟨⟨rfl,_⟩,_,_⟩:=e;(have b:j<k*3:=by have:=(sU.1 f).1;rw[hr.1]at this;exact this);(have d:(a.toList.take (k*3))[j]?=(UI us)[j]?:=by rw[i]);rw[sL,if_pos b,f]at d;simp[tW,h];simpa using d
theorem fE{us:List SV}{l:List VN}(h:us.map (·.1)=l)(i:Nat)(hi:i<l.length):(us.getD i I9).1=l.getD i QT∧us.getD i I9∈us:=by
 subst h;have a:i<us.length:=by simpa using hi
 constructor;·simp[a]
 ·rw[show us.getD i I9=us[i]by simp[a]];exact List.getElem_mem _
theorem Ke.list{base:Nat}{w:L}{v:N}{l:List VN}(h:Ke base w v l):JH w v l:=by
 obtain⟨f,d,a,p,_⟩:=h;have s:f.length=l.length:=by rw[<-d];simp
 rcases a.2with⟨rfl,o⟩|⟨g,cap,k,rfl,t,u,r,x,y,z⟩;·have:l=[]:=tN o;subst this;exact AG w
 ·refine⟨_,cap,rfl,r,.inr ⟨g,0,rfl,fun i q=>?_⟩⟩;obtain⟨m,n⟩:=fE d i q;obtain⟨b,c,j⟩:=Dr f i (by omega);have e:=p _ n;rw[m]at b c e;rw[Nat.zero_add];exact⟨_,Ke.cells a _ _ b,Ke.cells a _ _ c,Ke.cells a _ _ j,e.1⟩
theorem Ke.set{base:Nat}{w:L}{v:N}{l:List VN}(h:Ke base w v l){c:Nat}(hc:uH w c)(hne:c<base)(i:Nat)(u:N):Ke base (tI w ⟨c,i,M⟩ u) v l:=by
 have a:=h.lt;obtain⟨j,b,d,e,f⟩:=h;refine⟨j,b,tX d (Qg (Qb _ (O c)) i u) ?_,fun x g=>(e x g).set hc i u,f⟩;cases hv:v.ownBlock with|none=>exact .inl rfl|some k=>exact .inr (by have:=(a k hv).1;simp;omega)
theorem oD:(47:Nat)≠5:=by
 decide
theorem pV:(45:Nat)≠5:=by
 decide
theorem V8{W:L}{pb:Nat}{x y:N}(h:W.heap[pb]?=O (tD #[x,y] 45))(hx:∀q,x≠tE .u8 q)(ua va:Option Addr)(un uc vn vc:Nat){z:N}{bs:List UInt8}(hz:Yb W z bs):Yb ((tI W ⟨pb,0,M⟩ (S ua un uc)).setCell ⟨pb,1,M⟩ (S va vn vc)) z bs:=have a:uH W pb:=Cq (xs:=[y]) h pV hx;have b:=a.set 0 (S ua un uc) (fun q=>by
 simp);(hz.set a 0 _).set b 1 _
theorem Yb.quad{w:L}{v:N}{bs:List UInt8}(h:Yb w v bs){c:Nat}(hc:uH w c){e:Bool}{sa:Option Addr}{sn sc:Nat}{ka va:Option Addr}{kn kc vn vc:Nat}:Yb ((((tI w ⟨c,0,M⟩ (tQ e)).setCell ⟨c,1,M⟩ (S sa sn sc)).setCell ⟨c,2,M⟩ (S ka kn kc)).setCell ⟨c,3,M⟩ (S va vn vc)) v bs:=have a:=hc.set 0 (tQ e) (fun q=>by
 simp);have b:=a.set 1 (S sa sn sc) (fun q=>by
 simp);have d:=b.set 2 (S ka kn kc) (fun q=>by
 simp);(((h.set hc 0 _).set a 1 _).set b 2 _).set d 3 _
theorem Ke.quad{base:Nat}{w:L}{v:N}{l:List VN}(h:Ke base w v l){c:Nat}(hc:uH w c)(hne:c<base){e:Bool}{sa:Option Addr}{sn sc:Nat}{ka va:Option Addr}{kn kc vn vc:Nat}:Ke base ((((tI w ⟨c,0,M⟩ (tQ e)).setCell ⟨c,1,M⟩ (S sa sn sc)).setCell ⟨c,2,M⟩ (S ka kn kc)).setCell ⟨c,3,M⟩ (S va vn vc)) v l:=have a:=hc.set 0 (tQ e) (fun q=>by
 simp);have b:=a.set 1 (S sa sn sc) (fun q=>by
 simp);have d:=b.set 2 (S ka kn kc) (fun q=>by
 simp);(((h.set hc hne 0 _).set a hne 1 _).set b hne 2 _).set d hne 3 _
def ZI(n:Nat)(w:L)(v:N)(p:GU):Prop:=∃base vs vk vv,v=.agg #[tQ p.empty,vs,vk,vv]∧n<=base∧base<=w.heap.size∧Ke base w vs p.steps∧Yb w vk p.pair.1∧Yb w vv p.pair.2
theorem ZI.is{n:Nat}{w:L}{v:N}{p:GU}(h:ZI n w v p):Xo w v p:=by
 obtain⟨a,f,e,g,rfl,_,_,b,c,d⟩:=h;exact⟨f,e,g,rfl,b.list,c.1,d.1⟩
theorem L7{base:Nat}{w W w1:L}{v:N}{l:List VN}(h:Y w W M)(ho:Ke base W v l)(hb:w.heap.size<=base)(hg:Y W w1 v.ownBlock):Y w w1 M:=⟨hg.os.trans h.os,hg.tape.trans h.tape,hg.output.trans h.output,tT h.size hg.size,fun i a b=>(hg.block i (tL a h.size) (fun e=>by
 have:=(ho.lt i e.symm).1;omega)).trans (h.block i a b)⟩
theorem dP:(tB.info? 97).map (fun i=>(i.zero,i.size,i.bytes))=O (O (.agg #[tE tH 0,tQ tC,S M 0 0]),3,40):=by
 kernel_rfl
theorem E6{w:L}{o:Oper}{a:Act}{K:Act->L->Prop}{Q:Exit->Act->L->Prop}(s x:Operand)(ho:o.op=.call {callee:=.builtin .append,args:=#[s,x],argTypes:=#[43,43]})(base:Nat)(v:N)(l:List VN)(hs:a.eval s=v)(hown:Ke base w v l)(vo:N)(p:VN)(hk:Yb w vo p.other)(nb:Nat)(hb:∀j u,[tE tH p.bit,tQ p.right,vo][j]?=O u->w.cell? ⟨nb,j,M⟩=O u)(hx:a.eval x=S (O ⟨nb,0,M⟩) 1 1)(hl:(l.length+1)*40<=140737488355328)(hbase:base<=w.heap.size)(h:∀v' w',Ke base w' v' (l++[p])->Y w w' v.ownBlock->K (a.put o.dst v') w'):o.wp tB a w K Q:=by
 obtain⟨B,q,g,i,k⟩:=info_parts dP;have c:=hown.row;obtain⟨m,f,z,t,_⟩:=hown;refine wp_append_own w s x 43 ho base 97 B (.agg #[tE tH 0,tQ tC,S M 0 0]) 3 40 Tryz.underlying43 q g i k rfl (by decide) v l.length (UI m) hs z ⟨nb,0,M⟩ 1 1 (UI [(p,vo)]) hx rfl ?_ ?_ (by unfold maxLen;omega) hl hbase ?_;·intro j u r;rw[Xc,Nat.zero_add];exact hb j u (by simpa[UI]using r)
 ·intro u A;exact Oj _ u A fun y b=>by simp at b;subst b;exact Mc hk
 ·intro v' w' n d _;refine h _ w' ⟨m++[(p,vo)],by simp[f],?_,?_,fun e=>by simp at e⟩ d;(·rw[Ct,tG];exact n);·intro y b;rcases sI.1 b with b|b;(·exact(t y b).kept d c);·simp at b;subst b;exact hk.kept d c
theorem vO{w:L}{ops:Array Oper}{rest:List Oper}{o:Oper}{a:Act}{Q:Exit->Act->L->Prop}(hgd:o.guard=M)(s x:Operand)(ho:o.op=.call {callee:=.builtin .append,args:=#[s,x],argTypes:=#[43,43]})(base:Nat)(v:N)(l:List VN)(hs:a.eval s=v)(hown:Ke base w v l)(vo:N)(p:VN)(hk:Yb w vo p.other)(nb:Nat)(hb:∀j u,[tE tH p.bit,tQ p.right,vo][j]?=O u->w.cell? ⟨nb,j,M⟩=O u)(hx:a.eval x=S (O ⟨nb,0,M⟩) 1 1)(hl:(l.length+1)*40<=140737488355328)(hbase:base<=w.heap.size)(h:∀v' w',Ke base w' v' (l++[p])->Y w w' v.ownBlock->wpList tB ops Q rest (a.put o.dst v') w'):wpList tB ops Q (o::rest) a w:=wpList_plain hgd fun _ d=>E6 s x ho base v l hs hown vo p hk nb hb hx hl hbase fun v' w' b c=>d _ _ (h v' w' b c)
theorem Oo{w:L}{nb:Nat}{p:VN}{vo:N}{t:tZ}(h:w.heap[nb]?=O (tD #[tE tH p.bit,tQ p.right,vo] t)):∀j u,[tE tH p.bit,tQ p.right,vo][j]?=O u->w.cell? ⟨nb,j,M⟩=O u:=by
 intro j u a;simp[tW,h];simpa using a
def nM:N->Nat|S _ n _=>n|_=>0
def FF(t:tZ):Prop:=t=82∨t=49∨t=165∨t=35∨t=3
def Wz(B:Nat)(w:L)(i:Nat):Prop:=i<B∨∀cs t fz,w.heap[i]?=O (tD cs t fz)->(¬FF t∨∃q,cs[0]?=O (tE .u8 q))
structure Kp (B : Nat) (w w' : L) : Prop where
  os : w'.os = w.os
  tape : w'.tape = w.tape
  output : w'.output = w.output
  size : w.heap.size <= w'.heap.size
  keep : ∀ i, i < w.heap.size -> Wz B w i -> w'.heap[i]? = w.heap[i]?
theorem Kp.refl(B:Nat)(w:L):Kp B w w:=⟨rfl,rfl,rfl,sK _,fun _ _ _=>rfl⟩
theorem Wz.same{B:Nat}{w w':L}{i:Nat}(h:Wz B w i)(e:w'.heap[i]?=w.heap[i]?):Wz B w' i:=by
 rcases h with h|h;·exact .inl h
 ·exact .inr fun a t b c=>h a t b (by rw[<-e];exact c)
theorem Kp.trans{B:Nat}{w w1 w2:L}(h:Kp B w w1)(k:Kp B w1 w2):Kp B w w2:=⟨k.os.trans h.os,k.tape.trans h.tape,k.output.trans h.output,tT h.size k.size,fun i a b=>by
 have e:=h.keep i a b;exact(k.keep i (tL a h.size) (b.same e)).trans e⟩
theorem Kp.grown{B:Nat}{w w':L}(h:Y w w' M):Kp B w w':=⟨h.os,h.tape,h.output,h.size,fun i hi _=>h.block i hi (by
 simp)⟩
theorem Kp.turn{B:Nat}{w w':L}{g:Nat}{cs:Array N}{t:tZ}{fz:Nat×Nat}(h:Y w w' (O g))(hB:B<=g)(hb:w.heap[g]?=O (tD cs t fz))(ht:FF t)(h0:∀q,cs[0]?≠O (tE .u8 q)):Kp B w w':=⟨h.os,h.tape,h.output,h.size,fun i c a=>by
 refine h.block i c fun e=>?_;cases e;rcases a with a|a;·omega
 ·rcases a cs t fz hb with b|⟨q,b⟩;(·exact b ht);·exact h0 q b⟩
theorem Kp.low{B:Nat}{w w':L}(h:Kp B w w')(w0:L)(hg:Y w0 w M)(hB:w0.heap.size<=B):Y w0 w' M:=⟨h.os.trans hg.os,h.tape.trans hg.tape,h.output.trans hg.output,tT hg.size h.size,fun i a b=>(h.keep i (tL a hg.size) (.inl (by
 omega))).trans (hg.block i a b)⟩
def GA(t:tZ):Prop:=t=5∨t=45∨t=220∨t=154∨t=175∨t=97
def yJ(t:tZ):Prop:=¬GA t
theorem FF.two{t:tZ}(h:FF t):yJ t:=by
 rcases h with rfl|rfl|rfl|rfl|rfl<;>simp[yJ,GA]
def Cg(B:Nat)(w:L)(i:Nat):Prop:=i<B∨∀cs t fz,w.heap[i]?=O (tD cs t fz)->(¬yJ t∨∃q,cs[0]?=O (tE .u8 q))
structure SG (B : Nat) (w w' : L) : Prop where
  os : w'.os = w.os
  tape : w'.tape = w.tape
  output : w'.output = w.output
  size : w.heap.size <= w'.heap.size
  keep : ∀ i, i < w.heap.size -> Cg B w i -> w'.heap[i]? = w.heap[i]?
theorem Kp.two{B C:Nat}{w w':L}(h:Kp B w w')(hC:C<=B):SG C w w':=⟨h.os,h.tape,h.output,h.size,fun i g a=>h.keep i g (by
 rcases a with a|a;·exact .inl (tL a hC)
 ·exact .inr fun b t c f=>(a b t c f).imp (fun d e=>d e.two) id)⟩
theorem SG.refl(B:Nat)(w:L):SG B w w:=⟨rfl,rfl,rfl,sK _,fun _ _ _=>rfl⟩
theorem Cg.same{B:Nat}{w w':L}{i:Nat}(h:Cg B w i)(e:w'.heap[i]?=w.heap[i]?):Cg B w' i:=by
 rcases h with h|h;·exact .inl h
 ·exact .inr fun a t b c=>h a t b (by rw[<-e];exact c)
theorem SG.trans{B:Nat}{w w1 w2:L}(h:SG B w w1)(k:SG B w1 w2):SG B w w2:=⟨k.os.trans h.os,k.tape.trans h.tape,k.output.trans h.output,tT h.size k.size,fun i a b=>by
 have e:=h.keep i a b;exact(k.keep i (tL a h.size) (b.same e)).trans e⟩
theorem SG.grown{B:Nat}{w w':L}(h:Y w w' M):SG B w w':=⟨h.os,h.tape,h.output,h.size,fun i hi _=>h.block i hi (by
 simp)⟩
def Ic(w:L)(i:Nat):Prop:=∀cs t fz,w.heap[i]?=O (tD cs t fz)->(GA t∨t=49∨∃q,cs[0]?=O (tE .u8 q))
structure KL (w w' : L) : Prop where
  os : w'.os = w.os
  tape : w'.tape = w.tape
  output : w'.output = w.output
  size : w.heap.size <= w'.heap.size
  keep : ∀ i, i < w.heap.size -> Ic w i -> w'.heap[i]? = w.heap[i]?
theorem KL.two{w w':L}(h:KL w w'):SG 0 w w':=⟨h.os,h.tape,h.output,h.size,fun i f a=>h.keep i f fun c t d e=>by
 rcases a with a|a;·omega
 ·rcases a c t d e with b|b;(·exact .inl (Classical.byContradiction b));·exact .inr (.inr b)⟩
theorem KL.refl(w:L):KL w w:=⟨rfl,rfl,rfl,sK _,fun _ _ _=>rfl⟩
theorem Ic.same{w w':L}{i:Nat}(h:Ic w i)(e:w'.heap[i]?=w.heap[i]?):Ic w' i:=fun cs t fz hc=>h cs t fz (by
 rw[<-e];exact hc)
theorem KL.trans{w w1 w2:L}(h:KL w w1)(k:KL w1 w2):KL w w2:=⟨k.os.trans h.os,k.tape.trans h.tape,k.output.trans h.output,tT h.size k.size,fun i a b=>by
 have e:=h.keep i a b;exact(k.keep i (tL a h.size) (b.same e)).trans e⟩
theorem KL.grown{w w':L}(h:Y w w' M):KL w w':=⟨h.os,h.tape,h.output,h.size,fun i hi _=>h.block i hi (by
 simp)⟩
theorem KL.turn{w w':L}{row:Option Nat}(h:Y w w' row)(hr:∀g,row=O g->∃cs t fz,w.heap[g]?=O (tD cs t fz)∧¬GA t∧t≠49∧∀q,cs[0]?≠O (tE .u8 q)):KL w w':=⟨h.os,h.tape,h.output,h.size,fun i j k=>by
 refine h.block i j fun e=>?_;obtain⟨cs,t,fz,f,b,c,d⟩:=hr i e.symm;rcases k cs t fz f with a|a|⟨q,a⟩;·exact b a
 ·exact c a
 ·exact d q a⟩
def J6(w:L)(P:L->Prop):Prop:=∀w',KL w w'->P w'
theorem J6.now{w:L}{P:L->Prop}(h:J6 w P):P w:=h w (KL.refl w)
theorem J6.later{w w':L}{P:L->Prop}(h:J6 w P)(k:KL w w'):J6 w' P:=fun w2 k2=>h w2 (k.trans k2)
theorem J6.grown{w w':L}{P:L->Prop}(h:J6 w P)(k:Y w w' M):J6 w' P:=h.later (KL.grown k)
def xE(w:L)(P:L->Prop):Prop:=∀w',Y w w' M->P w'
theorem xE.now{w:L}{P:L->Prop}(h:xE w P):P w:=h w (Qb w M)
theorem xE.grown{w w':L}{P:L->Prop}(h:xE w P)(k:Y w w' M):xE w' P:=fun w2 k2=>h w2 (Qa k k2)
def Zg(B:Nat)(w:L)(P:L->Prop):Prop:=∀w',SG B w w'->P w'
theorem Zg.now{B:Nat}{w:L}{P:L->Prop}(h:Zg B w P):P w:=h w (SG.refl B w)
theorem Zg.later{B C:Nat}{w w':L}{P:L->Prop}(h:Zg C w P)(k:Kp B w w')(hC:C<=B:=by
 first|exact Nat.zero_le _|exact Nat.le_refl _):Zg C w' P:=fun b a=>h b ((k.two hC).trans a)
theorem Zg.later2{C:Nat}{w w':L}{P:L->Prop}(h:Zg C w P)(k:SG C w w'):Zg C w' P:=fun w2 k2=>h w2 (k.trans k2)
theorem Zg.grown{C:Nat}{w w':L}{P:L->Prop}(h:Zg C w P)(k:Y w w' M):Zg C w' P:=h.later2 (SG.grown k)
theorem Zg.mono{B:Nat}{w:L}{P Q:L->Prop}(h:Zg B w P)(k:∀w',P w'->Q w'):Zg B w Q:=fun w' h'=>k w' (h w' h')
theorem V4{w w':L}{v:N}{bs:List UInt8}(h:Qe w v bs)(hb:bs=[]∨∃b,v.ownBlock=O b∧w'.heap[b]?=w.heap[b]?):Qe w' v bs:=by
 obtain⟨a,cap,rfl,d,h⟩:=h;refine⟨a,cap,rfl,d,?_⟩;rcases h with h|⟨b,o,rfl,h⟩;·exact .inl h
 ·refine .inr ⟨b,o,rfl,fun i c=>?_⟩;rcases hb with rfl|⟨f,e,hb⟩;(·simp at c);·simp[Value.ownBlock]at e;subst e;rw[sW hb];exact h i c
theorem pR:¬yJ 5:=by
 simp[yJ,GA]
theorem Z7{B:Nat}{w:L}{v:N}{bs:List UInt8}(h:Qh 0 w v bs):Zg B w (fun w=>Qh 0 w v bs):=fun m k=>by
 obtain⟨i,a⟩:=h;rcases a with a|⟨b,e,j,a⟩;·exact⟨V4 i (.inl a),.inl a⟩
 ·(obtain⟨c,d,a⟩:∃c d,w.heap[b]?=O (tD c 5 d):=by rcases a with a|a;(·omega);·exact a);have l:m.heap[b]?=w.heap[b]?:=k.keep b j (.inr fun n t f g=>.inl (by rw[a]at g;simp only[tF,sH]at g;rw[<-g.2.1];exact pR));exact⟨V4 i (.inr ⟨b,e,l⟩),.inr ⟨b,e,tL j k.size,.inr ⟨c,d,by rw[l];exact a⟩⟩⟩
theorem qD{B:Nat}{w:L}{v:N}{bs:List UInt8}(h:Yb w v bs):Zg B w (fun w=>Yb w v bs):=fun n k=>by
 obtain⟨i,a⟩:=h;rcases a with a|⟨b,e,j,d,t,m,a,c⟩;·exact⟨V4 i (.inl a),.inl a⟩
 ·have l:n.heap[b]?=w.heap[b]?:=k.keep b j (.inr fun o p f g=>by rw[a]at g;simp only[tF,sH]at g;obtain⟨rfl,rfl,_⟩:=g;rcases c with rfl|c;(·exact .inl pR);·exact .inr c);exact⟨V4 i (.inr ⟨b,e,l⟩),.inr ⟨b,e,tL j k.size,d,t,m,by rw[l];exact a,c⟩⟩
theorem Vi{B base:Nat}{w:L}{t:tZ}{n m:Nat}{v:N}{xs:List N}(h:w.ownsRow base t n v m xs)(ht:¬yJ t):Zg B w (fun w=>w.ownsRow base t n v m xs):=fun l k=>by
 refine⟨h.1,?_⟩;rcases h.2with h|⟨g,cap,a,e,d,c,rest⟩;·exact .inl h
 ·refine .inr ⟨g,cap,a,e,d,?_,rest⟩;rw[k.keep g (tM.1 c).1 (.inr fun i j f b=>.inl (by rw[c]at b;simp only[tF,sH]at b;rw[<-b.2.1];exact ht))];exact c
theorem LU{B rb:Nat}{w:L}{v:N}{l:List Rd}(h:ZS rb 0 w v l):Zg B w (fun w=>ZS rb 0 w v l):=fun a k=>by
 obtain⟨f,d,e,b⟩:=h;exact⟨f,d,Vi e (by simp[yJ,GA]) a k,fun x c=>⟨Z7 (b x c).1 a k,Z7 (b x c).2.1 a k,Z7 (b x c).2.2 a k⟩⟩
theorem Le{B rb:Nat}{w:L}{v:N}{l:List Q6}(h:Q4 rb 0 w v l):Zg B w (fun w=>Q4 rb 0 w v l):=fun a k=>by
 obtain⟨f,d,e,b⟩:=h;exact⟨f,d,Vi e (by simp[yJ,GA]) a k,fun x c=>⟨Z7 (b x c).1 a k,Z7 (b x c).2.1 a k,Z7 (b x c).2.2 a k⟩⟩
theorem V9{B:Nat}{w:L}{v:N}{l:PL}(h:QL 0 w v l):Zg B w (fun w=>QL 0 w v l):=fun m k=>by
 obtain⟨a,cap,rfl,e,h⟩:=h;refine⟨a,cap,rfl,e,?_⟩;rcases h with h|⟨b,o,rfl,c,h⟩;·exact .inl h
 ·(obtain⟨d,g,c⟩:∃d g,w.heap[b]?=O (tD d 45 g):=by rcases c with c|c;(·omega);·exact c);have j:m.heap[b]?=w.heap[b]?:=k.keep b (tM.1 c).1 (.inr fun y t f e=>.inl (by rw[c]at e;simp only[tF,sH]at e;rw[<-e.2.1];simp[yJ,GA]));refine .inr ⟨b,o,rfl,.inr ⟨d,g,by rw[j];exact c⟩,fun i s=>?_⟩;obtain⟨u,x,n,p,q,r⟩:=h i s;exact⟨u,x,by rw[sW j];exact n,by rw[sW j];exact p,Z7 q m k,Z7 r m k⟩
theorem Lm{B rb:Nat}{w:L}{v:N}{l:FL}(h:ZJ rb w v l):Zg B w (fun w=>ZJ rb w v l):=fun a k=>by
 obtain⟨f,d,e,b⟩:=h;exact⟨f,d,Vi e (by simp[yJ,GA]) a k,fun i c=>⟨Z7 (b i c).1 a k,V9 (b i c).2 a k⟩⟩
theorem NS{B:Nat}{w:L}{v:N}{l:List Q6}(h:Xv 0 w v l):Zg B w (fun w=>Xv 0 w v l):=fun j k=>by
 obtain⟨a,cap,rfl,e,h⟩:=h;refine⟨a,cap,rfl,e,?_⟩;rcases h with h|⟨b,o,rfl,c,h⟩;·exact .inl h
 ·(obtain⟨d,m,c⟩:∃d m,w.heap[b]?=O (tD d 154 m):=by rcases c with c|c;(·omega);·exact c);have g:j.heap[b]?=w.heap[b]?:=k.keep b (tM.1 c).1 (.inr fun D t f e=>.inl (by rw[c]at e;simp only[tF,sH]at e;rw[<-e.2.1];simp[yJ,GA]));refine .inr ⟨b,o,rfl,.inr ⟨d,m,by rw[g];exact c⟩,fun i y=>?_⟩;obtain⟨A,z,C,n,p,q,r,s,u,x⟩:=h i y;exact⟨A,z,C,by rw[sW g];exact n,by rw[sW g];exact p,by rw[sW g];exact q,by rw[sW g];exact r,Z7 s j k,Z7 u j k,Z7 x j k⟩
theorem FM{B:Nat}{w:L}{v:N}{t:Tx}(h:zD w v t):Zg B w (fun w=>zD w v t):=fun a k=>by
 obtain⟨d,e,rfl,b,c⟩:=h;exact⟨d,e,rfl,LU b a k,Le c a k⟩
theorem Ho{B base:Nat}{w:L}{v:N}{l:List VN}(h:Ke base w v l):Zg B w (fun w=>Ke base w v l):=fun a k=>by
 obtain⟨g,b,c,d,e⟩:=h;exact⟨g,b,Vi c (by simp[yJ,GA]) a k,fun x f=>qD (d x f) a k,e⟩
theorem jZ{B n:Nat}{w:L}{v:N}{p:GU}(h:ZI n w v p):Zg B w (fun w=>Xo w v p):=fun a k=>by
 obtain⟨b,g,f,i,rfl,_,_,c,d,e⟩:=h;exact⟨g,f,i,rfl,(Ho c a k).list,(qD d a k).1,(qD e a k).1⟩
section
section
variable{α:Type}{T:tZ}{k:Nat}{P:L->List N->α->Prop}{B:Nat}{w w':L}{v:N}{l:List α}
def JX(T:tZ)(k:Nat)(P:L->List N->α->Prop)(B:Nat)(w:L)(v:N)(l:List α):Prop:=∃us:List (List N×α),us.map (·.2)=l∧w.ownsRow B T k v l.length (us.flatMap (·.1))∧(l=[]->v=S M 0 0)∧∀x∈us,x.1.length=k∧(∀u∈x.1,u.oneCell'=tA)∧(∀q,x.1[0]?≠O (tE .u8 q))∧Zg 0 w (fun w=>P w x.1 x.2)
theorem P8(T:tZ)(k:Nat)(P:L->List N->α->Prop)(B:Nat)(w:L):JX T k P B w (S M 0 0) []:=⟨[],rfl,sY _ _ _ _,fun _=>rfl,fun x a=>by
 simp at a⟩
theorem JX.kept(h:JX T k P B w v l)(hk:Kp B w w')(hs:∀g,v.ownBlock=O g->w'.heap[g]?=w.heap[g]?):JX T k P B w' v l:=by
 obtain⟨m,e,d,f,a⟩:=h;refine⟨m,e,⟨d.1,?_⟩,f,fun x b=>⟨(a x b).1,(a x b).2.1,(a x b).2.2.1,(a x b).2.2.2.later hk⟩⟩;rcases d.2with h|⟨g,cap,c,rfl,i,j,rest⟩;·exact .inl h
 ·exact .inr ⟨g,cap,c,rfl,i,by rw[hs g rfl];exact j,rest⟩
theorem JX.kept2(h:JX T k P B w v l)(hk:SG 0 w w')(hs:∀g,v.ownBlock=O g->w'.heap[g]?=w.heap[g]?):JX T k P B w' v l:=by
 obtain⟨m,e,d,f,a⟩:=h;refine⟨m,e,⟨d.1,?_⟩,f,fun x b=>⟨(a x b).1,(a x b).2.1,(a x b).2.2.1,(a x b).2.2.2.later2 hk⟩⟩;rcases d.2with h|⟨g,cap,c,rfl,i,j,rest⟩;·exact .inl h
 ·exact .inr ⟨g,cap,c,rfl,i,by rw[hs g rfl];exact j,rest⟩
theorem JX.lt(h:JX T k P B w v l):∀g,v.ownBlock=O g->B<=g∧g<w.heap.size:=by
 obtain⟨e,b,a,c,d⟩:=h;exact sR a
theorem JX.grown(h:JX T k P B w v l)(hg:Y w w' M):JX T k P B w' v l:=h.kept (Kp.grown hg) fun g e=>hg.block g (h.lt g e).2 (by
 simp)
theorem JX.shape(h:JX T k P B w v l):∃a cap,v=S a l.length cap:=by
 obtain⟨d,_,h,_⟩:=h;rcases h.2with⟨rfl,c⟩|⟨g,cap,b,rfl,_⟩;·exact⟨M,0,by rw[c]⟩
 ·exact⟨_,cap,rfl⟩
theorem WX{k:Nat}:∀(us:List (List N×α))(_:∀x∈us,x.1.length=k)(i:Nat)(hi:i<us.length)(j:Nat),j<k->(us.flatMap (·.1))[i*k+j]?=us[i].1[j]?|[],_,i,hi,_,_=>by simp at hi|x::us,hk,0,_,j,hj=>by have:=hk x (by simp);simp[List.getElem?_append_left (show j<x.1.length by omega)]|x::us,hk,i+1,hi,j,hj=>by have a:=hk x (by simp);have:=WX us (fun y b=>hk y (by simp[b])) i (by simpa using hi) j hj;rw[tS,List.getElem?_append_right (by rw[a,Nat.succ_mul];omega),a,show(i+1)*k+j-k=i*k+j by rw[Nat.succ_mul];omega,this];simp
theorem JX.blk(hk0:0<k)(h:JX T k P B w v l):v.ownBlock=M∨∃g cs,v.ownBlock=O g∧B<=g∧w.heap[g]?=O (tD cs T (0,0))∧∀q,cs[0]?≠O (tE .u8 q):=by
 obtain⟨b,c,f,i,d⟩:=h;rcases f.2with⟨rfl,_⟩|⟨g,cap,a,rfl,j,n,s,_,m,r⟩;·exact .inl rfl
 ·refine .inr ⟨g,a,rfl,j,n,fun q p=>?_⟩;cases b with|nil=>subst c;have:=i rfl;cases this|cons x b=>(have o:l.length=b.length+1:=by rw[<-c];simp);(have e:(a.toList.take (l.length*k))[0]?=((x::b).flatMap (·.1))[0]?:=by rw[r]);have t:=(d x (by simp)).1;rw[sL,if_pos (by rw[o,Nat.succ_mul];omega),tS,List.getElem?_append_left (by omega),Array.getElem?_toList,p]at e;exact(d x (by simp)).2.2.1 q e.symm
theorem JX.turn(hk0:0<k)(hT:FF T)(h:JX T k P B w v l)(hg:Y w w' v.ownBlock):Kp B w w':=by
 rcases h.blk hk0 with e|⟨g,d,e,b,c,a⟩;·rw[e]at hg;exact Kp.grown hg
 ·rw[e]at hg;exact Kp.turn hg b c hT a
theorem JX.other(hk0:0<k)(h:JX T k P B w v l){row:Option Nat}(hk:Kp B w w')(hg:Y w w' row)(hr:row=M∨∃g cs t fz,row=O g∧w.heap[g]?=O (tD cs t fz)∧t≠T):JX T k P B w' v l:=by
 refine h.kept hk fun g e=>?_;refine hg.block g (h.lt g e).2 fun c=>?_;rcases hr with rfl|⟨j,cs,t,fz,rfl,f,i⟩;·cases c
 ·cases c;rcases h.blk hk0 with b|⟨g2,d,b,_,a,_⟩;(·rw[b]at e;cases e);·rw[b]at e;cases e;rw[f]at a;simp only[tF,sH]at a;exact i a.2.1
theorem JX.at(h:JX T k P B w v l)(d:α)(i:Nat)(hi:i<l.length):∃g cap cs,v=S (O ⟨g,0,M⟩) l.length cap∧cs.length=k∧l.length<=cap∧(∀j,j<k->w.cell? ⟨g,i*k+j,M⟩=cs[j]?)∧Zg 0 w (fun w=>P w cs (l.getD i d)):=by
 obtain⟨a,m,o,z,n⟩:=h;have u:a.length=l.length:=by rw[<-m];simp
 rcases o.2with⟨rfl,y⟩|⟨g,cap,c,rfl,A,q,s,_,p,t⟩;·omega
 ·have b:=n a[i] (List.getElem_mem (by omega));refine⟨g,cap,a[i].1,rfl,b.1,s,fun j r=>?_,?_⟩;(·(have e:(c.toList.take (l.length*k))[i*k+j]?=(a.flatMap (·.1))[i*k+j]?:=by rw[t]);(have f:i*k+j<l.length*k:=by have:(i+1)*k<=l.length*k:=Nat.mul_le_mul_right k hi;rw[Nat.succ_mul]at this;omega);rw[WX a (fun x b=>(n x b).1) i (by omega) j r,sL,if_pos f,Array.getElem?_toList]at e;simp[tW,q,e]);·(have e:l.getD i d=a[i].2:=by subst m;simp[List.getD,show i<a.length by omega]);rw[e];exact b.2.2.2
theorem jY{o:Oper}{a:Act}{K:Act->L->Prop}{Q:Exit->Act->L->Prop}(s x:Operand)(t:tZ)(ho:o.op=.call {callee:=.builtin .append,args:=#[s,x],argTypes:=#[t,t]})(i:TypeInfo)(z:N)(bytes:Nat)(ht:tB.underlying t=O (.slice T))(hi:tB.info? T=O i)(hz:i.zero=O z)(hsize:i.size=k)(hby:i.bytes=bytes)(hzs:z.cells.size=k)(hsz:0<k)(hT:FF T)(hs:a.eval s=v)(hown:JX T k P B w v l)(nb:Nat)(cs:List N)(y:α)(hx:a.eval x=S (O ⟨nb,0,M⟩) 1 1)(hcl:cs.length=k)(hc:∀j u,cs[j]?=O u->w.cell? ⟨nb,j,M⟩=O u)(h1:∀u∈cs,u.oneCell'=tA)(h0:∀q,cs[0]?≠O (tE .u8 q))(hP:Zg 0 w (fun w=>P w cs y))(h63:l.length+1<=maxLen)(hbytes:(l.length+1)*bytes<=140737488355328)(hbase:B<=w.heap.size)(h:∀v' w',JX T k P B w' v' (l++[y])->Kp B w w'->Y w w' v.ownBlock->K (a.put o.dst v') w'):o.wp tB a w K Q:=by
 have b:=hown;obtain⟨m,n,p,E,c⟩:=hown;refine wp_append_lies w s x t ho B T i z k bytes ht hi hz hsize hby hzs hsz v l.length (m.flatMap (·.1)) hs p ⟨nb,0,M⟩ 1 1 cs hx (by omega) (fun j u A=>by rw[Xc,Nat.zero_add];exact hc j u A) h1 (by omega) h63 hbytes hbase _ rfl ?_;intro g cap w' D f r C;have d:=b.turn hsz hT f;refine h _ w' ⟨m++[(cs,y)],by simp[n],?_,fun e=>by simp at e,fun x hx=>?_⟩ d f;·simpa[List.flatMap_append]using D
 ·rcases sI.1 hx with hx|hx;(·exact⟨(c x hx).1,(c x hx).2.1,(c x hx).2.2.1,(c x hx).2.2.2.later d⟩);·(obtain rfl:x=(cs,y):=by simpa using hx);exact⟨hcl,h1,h0,hP.later d⟩
theorem JX.take(h:JX T k P B w v l){a:Option Addr}{n cap:Nat}(hv:v=S a n cap)(m:Nat)(hm:m<=l.length)(h0:0<m):JX T k P B w (S a m cap) (l.take m):=by
 subst hv;obtain⟨i,q,r,G,s⟩:=h;have D:i.length=l.length:=by rw[<-q];simp
 have b:(l.take m).length=m:=by simp;omega
 rcases r.2with⟨e,t⟩|⟨g,F,j,e,u,z,H,p,o,C⟩;·omega
 ·simp only[tK]at e;obtain⟨rfl,rfl,rfl⟩:=e;(have f:(i.take m).flatMap (·.1)=(i.flatMap (·.1)).take (m*k):=by(have A:∀(d:List (List N×α)),(∀x∈d,x.1.length=k)->∀m,(d.take m).flatMap (·.1)=(d.flatMap (·.1)).take (m*k):=by intro d;induction d with|nil=>intro _ m;simp|cons x d ih=>intro c m;cases m with|zero=>simp|succ m=>have:=c x (by simp);rw[List.take_succ_cons,tS,tS,ih (fun y E=>c y (by simp[E])) m,List.take_append,this,Nat.succ_mul,show m*k+k-k=m*k by omega,List.take_of_length_le (l:=x.1) (by omega)]);exact A i (fun x c=>(s x c).1) m);refine⟨i.take m,by rw[<-q,List.map_take],⟨?_,.inr ⟨g,cap,j,by rw[b],u,z,by omega,p,o,?_⟩⟩,fun e=>?_,fun x c=>s x (List.mem_of_mem_take c)⟩;(·rw[f,List.length_take,r.1,b];have:m*k<=l.length*k:=Nat.mul_le_mul_right k hm;omega);(·rw[b,f,<-C,List.take_take];have:m*k<=l.length*k:=Nat.mul_le_mul_right k hm;rw[Nat.min_eq_left this]);·rw[e]at b;simp at b;omega
end
end
theorem TI:(165:Nat)≠5:=by
 decide
theorem uN:(165:Nat)≠154:=by
 decide
def Bz(w:L)(b o:Nat)(c:XJ):Prop:=∃vs,w.cell? ⟨b,o,M⟩=O (tE tH c.turn)∧w.cell? ⟨b,o+1,M⟩=O vs∧QP w vs c.writes
theorem Bz.grown{w w':L}{b o:Nat}{c:XJ}(h:Bz w b o c)(hg:Y w w' M):Bz w' b o c:=by
 obtain⟨e,a,d,h⟩:=h;exact⟨e,hg.cell a (by simp),hg.cell d (by simp),h.grown hg⟩
def Js(w:L)(v:N)(l:List XJ):Prop:=∃a cap,v=S a l.length cap∧l.length<=cap∧((l=[]∧(a=M->cap=0))∨∃b o,a=O ⟨b,o,M⟩∧∀i,i<l.length->Bz w b (o+i*2) (l.getD i Zq))
theorem N7(w:L):Js w (S M 0 0) []:=⟨M,0,rfl,sK _,.inl ⟨rfl,fun _=>rfl⟩⟩
theorem Js.shape{w:L}{v:N}{l:List XJ}(h:Js w v l):∃a cap,v=S a l.length cap:=by
 obtain⟨a,cap,rfl,_⟩:=h;exact⟨a,cap,rfl⟩
theorem Js.grown{w w':L}{v:N}{l:List XJ}(h:Js w v l)(hg:Y w w' M):Js w' v l:=by
 obtain⟨a,cap,rfl,c,h⟩:=h;refine⟨a,cap,rfl,c,?_⟩;rcases h with h|⟨b,o,rfl,h⟩;·exact .inl h
 ·exact .inr ⟨b,o,rfl,fun i d=>(h i d).grown hg⟩
theorem Js.at{w:L}{a:Option Addr}{n cap:Nat}{l:List XJ}(h:Js w (S a n cap) l)(i:Nat)(hi:i<l.length):∃b o,a=O ⟨b,o,M⟩∧Bz w b (o+i*2) (l.getD i Zq):=by
 obtain⟨d,c,e,f,h⟩:=h;simp only[tK]at e;obtain⟨rfl,rfl,rfl⟩:=e;rcases h with⟨rfl,_⟩|⟨b,o,rfl,h⟩;·simp at hi
 ·exact⟨b,o,rfl,h i hi⟩
structure Lf (l : List XJ) : Prop where
  many : l.length * 32 <= 140737488355328
  each : ∀ i, i < l.length -> M3 (l.getD i Zq)
abbrev CV:=XJ×N
def uW(us:List CV):List N:=us.flatMap fun x=>[tE tH x.1.turn,x.2]
theorem DG(a b:List CV):uW (a++b)=uW a++uW b:=by
 simp[uW]
theorem mI:(tB.info? 165).map (fun i=>(i.zero,i.size,i.bytes))=O (O (.agg #[tE tH 0,S M 0 0]),2,32):=by
 kernel_rfl
def Jl(base:Nat)(w:L)(v:N)(l:List XJ):Prop:=∃us:List CV,us.map (·.1)=l∧w.ownsRow base 165 2 v l.length (uW us)∧(l=[]->v=S M 0 0)∧∀x∈us,Xv 0 w x.2 x.1.writes
theorem BH(base:Nat)(w:L):Jl base w (S M 0 0) []:=⟨[],rfl,sY _ _ _ _,fun _=>rfl,fun x hx=>by
 simp at hx⟩
theorem Jl.row{base:Nat}{w:L}{v:N}{l:List XJ}(h:Jl base w v l):v.ownBlock=M∨∃g cur t fz,v.ownBlock=O g∧base<=g∧w.heap[g]?=O (tD cur t fz)∧t≠5∧t≠154:=by
 obtain⟨c,_,h,_⟩:=h;rcases h.2with⟨rfl,_⟩|⟨g,cap,cur,rfl,a,b,_⟩;·exact .inl rfl
 ·exact .inr ⟨g,cur,_,_,rfl,a,b,TI,uN⟩
theorem Jl.row0{base:Nat}{w:L}{v:N}{l:List XJ}(h:Jl base w v l):v.ownBlock=M∨∃g cur t fz,v.ownBlock=O g∧0<=g∧w.heap[g]?=O (tD cur t fz)∧t≠5∧t≠154:=by
 rcases h.row with h|⟨g,cur,t,fz,a,_,b⟩;·exact .inl h
 ·exact .inr ⟨g,cur,t,fz,a,tU _,b⟩
theorem Jl.lt{base:Nat}{w:L}{v:N}{l:List XJ}(h:Jl base w v l):∀k,v.ownBlock=O k->base<=k∧k<w.heap.size:=by
 obtain⟨a,_,h,_⟩:=h;exact sR h
theorem Jl.grownNone{base:Nat}{w w':L}{v:N}{l:List XJ}(h:Jl base w v l)(hg:Y w w' M):Jl base w' v l:=by
 obtain⟨f,b,c,a,d⟩:=h;refine⟨f,b,tX c hg ?_,a,fun x e=>(d x e).kept hg (.inl rfl)⟩;cases hv:v.ownBlock with|none=>exact .inl rfl|some k=>exact .inr (by simp)
theorem Jl.shape{base:Nat}{w:L}{v:N}{l:List XJ}(h:Jl base w v l):∃a cap,v=S a l.length cap:=by
 obtain⟨d,_,h,_⟩:=h;rcases h.2with⟨rfl,c⟩|⟨g,cap,b,rfl,_⟩;·exact⟨M,0,by rw[c]⟩
 ·exact⟨_,cap,rfl⟩
theorem Lz{base:Nat}{w W w1:L}{v:N}{l:List XJ}(h:Y w W M)(ho:Jl base W v l)(hb:w.heap.size<=base)(hg:Y W w1 v.ownBlock):Y w w1 M:=⟨hg.os.trans h.os,hg.tape.trans h.tape,hg.output.trans h.output,tT h.size hg.size,fun i a b=>(hg.block i (tL a h.size) (fun e=>by
 have:=(ho.lt i e.symm).1;omega)).trans (h.block i a b)⟩
theorem Nv{w:L}{o:Oper}{a:Act}{K:Act->L->Prop}{Q:Exit->Act->L->Prop}(s x:Operand)(ho:o.op=.call {callee:=.builtin .append,args:=#[s,x],argTypes:=#[72,72]})(base:Nat)(v:N)(l:List XJ)(hs:a.eval s=v)(hown:Jl base w v l)(vw:N)(c:XJ)(hw:Xv 0 w vw c.writes)(nb:Nat)(hb:w.heap[nb]?=O (tD #[tE tH c.turn,vw] 165))(hx:a.eval x=S (O ⟨nb,0,M⟩) 1 1)(hl:(l.length+1)*32<=140737488355328)(hbase:base<=w.heap.size)(h:∀v' w',Jl base w' v' (l++[c])->Y w w' v.ownBlock->K (a.put o.dst v') w'):o.wp tB a w K Q:=by
 obtain⟨z,q,i,j,k⟩:=info_parts mI;have b:=hown.row0;obtain⟨p,f,t,_,r⟩:=hown;refine wp_append_lies w s x 72 ho base 165 z (.agg #[tE tH 0,S M 0 0]) 2 32 Tryz.underlying72 q i j k rfl (by decide) v l.length (uW p) hs t ⟨nb,0,M⟩ 1 1 (uW [(c,vw)]) hx rfl (World.news_of_block (cs:=#[tE tH c.turn,vw]) hb) ?_ (by omega) (by unfold maxLen;omega) hl hbase _ rfl ?_;·intro u n;simp only[uW,tS,List.flatMap_nil,List.append_nil,tP,tR,or_false]at n;rcases n with rfl|rfl;(·rfl);·exact hw.oneCell
 ·intro g cap w' A m _ _;refine h _ w' ⟨p++[(c,vw)],by simp[f],?_,fun e=>by simp at e,?_⟩ m;(·rw[DG,tG];exact A);·intro y d;rcases sI.1 d with d|d;(·exact(r y d).kept m b);·simp only[tP,tR,or_false]at d;subst d;exact hw.kept m b
theorem vJ{w:L}{ops:Array Oper}{rest:List Oper}{o:Oper}{a:Act}{Q:Exit->Act->L->Prop}(hgd:o.guard=M)(s x:Operand)(ho:o.op=.call {callee:=.builtin .append,args:=#[s,x],argTypes:=#[72,72]})(base:Nat)(v:N)(l:List XJ)(hs:a.eval s=v)(hown:Jl base w v l)(vw:N)(c:XJ)(hw:Xv 0 w vw c.writes)(nb:Nat)(hb:w.heap[nb]?=O (tD #[tE tH c.turn,vw] 165))(hx:a.eval x=S (O ⟨nb,0,M⟩) 1 1)(hl:(l.length+1)*32<=140737488355328)(hbase:base<=w.heap.size)(h:∀v' w',Jl base w' v' (l++[c])->Y w w' v.ownBlock->wpList tB ops Q rest (a.put o.dst v') w'):wpList tB ops Q (o::rest) a w:=wpList_plain hgd fun _ e=>Nv s x ho base v l hs hown vw c hw nb hb hx hl hbase fun v' w' b d=>e _ _ (h v' w' b d)
theorem Jl.ne{base:Nat}{w:L}{v:N}{l:List XJ}(h:Jl base w v l){b:Nat}{cs:Array N}{t:tZ}{fz:Nat×Nat}(hb:w.heap[b]?=O (tD cs t fz))(ht:t≠165):v.ownBlock≠O b:=by
 intro e;obtain⟨d,_,h,_⟩:=h;rcases h.2with⟨rfl,_⟩|⟨g,cap,c,rfl,_,a,_⟩;·cases e
 ·cases e;rw[hb]at a;simp only[tF,sH]at a;exact ht a.2.1
theorem Jl.setOther{base:Nat}{w:L}{v:N}{l:List XJ}(h:Jl base w v l){b i:Nat}{cs:Array N}{t:tZ}{fz:Nat×Nat}(hb:w.heap[b]?=O (tD cs t fz))(ht:t≠5)(ht2:t≠154)(ht3:t≠165)(u:N):Jl base (tI w ⟨b,i,M⟩ u) v l:=by
 have a:=h.ne hb ht3;obtain⟨j,d,e,c,f⟩:=h;exact⟨j,d,tX e (YW w b i u) (.inr a),c,fun x g=>(f x g).kept (YW w b i u) (.inr ⟨b,cs,t,fz,rfl,tU _,hb,ht,ht2⟩)⟩
theorem Jl.other{base:Nat}{w w':L}{v:N}{l:List XJ}(h:Jl base w v l)(hg:Y w w' v.ownBlock){b:Nat}{cs:Array N}{t:tZ}{fz:Nat×Nat}(hb:w.heap[b]?=O (tD cs t fz))(ht:t≠165):w'.heap[b]?=O (tD cs t fz):=by
 rw[hg.block b (tM.1 hb).1 (fun e=>h.ne hb ht e.symm)];exact hb
def aF:Prop:=∀(w:L)(v u:N)(t:Tx)(r:Rd),zK w v t->jE t->YE w u r->Ta r->Calls tB 86 #[v,u] w fun e w'=>∃x,e=tJ (sS #[x,tE tH (Xm t r)])∧zD w' x (X5 t r)∧Y w w' M
theorem Qk(w:L)(o:Obj):∃W:L,Hid (W=w.alloc o)∧Y w W M∧Hid (W.heap[w.heap.size]?=O o):=⟨w.alloc o,rfl,sZ _ _ _,heap_alloc_new w o⟩
theorem Z8{x y:Int}(h:x=y):tJ (tE tH y)=tJ (tE tH x):=by
 rw[h]
theorem YY{x y:Bool}(h:x=y):tJ (tQ y)=tJ (tQ x):=by
 rw[h]
theorem XI{W w:L}{b:Nat}{x y z:N}{t:tZ}(hg:Y W w M)(h:W.heap[b]?=O (tD #[x,y,z] t)):w.cell? ⟨b,0,M⟩=O x∧w.cell? ⟨b,1,M⟩=O y∧w.cell? ⟨b,2,M⟩=O z:=by
 have a:w.heap[b]?=O (tD #[x,y,z] t):=by rw[hg.block b (tM.1 h).1 (by simp)];exact h
 refine⟨?_,?_,?_⟩<;>simp[tW,a]
def DV(p:List Rd)(r:Rd):Int:=if XM r=0then(if p.any (fun q=>XP q r)=tA then 3 else 0)else XM r
def Cv(p:List Q6)(w:Q6):Int:=if QA w=0then(if p.any (fun q=>ZW q w)=tA then 3 else 0)else QA w
theorem gC(l:List Rd)(m:Nat)(h:m<l.length):zJ (l.take m) (l.drop m)=if DV (l.take m) (l.getD m Zj)=0then zJ (l.take (m+1)) (l.drop (m+1))else DV (l.take m) (l.getD m Zj):=by
 rw[List.drop_eq_getElem_cons h,zJ,List.take_succ_eq_append_getElem h,show l[m]=l.getD m Zj by simp[h]];unfold DV;by_cases a:XM (l.getD m Zj)=0;·rw[if_pos a,if_pos a];by_cases b:(l.take m).any (fun q=>XP q (l.getD m Zj))=tA;(·rw[if_pos b,if_pos b,if_neg (by omega)]);·rw[if_neg b,if_neg b,if_pos rfl]
 ·rw[if_neg a,if_neg a,if_neg a]
theorem gQ(l:List Q6)(m:Nat)(h:m<l.length):jP (l.take m) (l.drop m)=if Cv (l.take m) (l.getD m Qp)=0then jP (l.take (m+1)) (l.drop (m+1))else Cv (l.take m) (l.getD m Qp):=by
 rw[List.drop_eq_getElem_cons h,jP,List.take_succ_eq_append_getElem h,show l[m]=l.getD m Qp by simp[h]];unfold Cv;by_cases a:QA (l.getD m Qp)=0;·rw[if_pos a,if_pos a];by_cases b:(l.take m).any (fun q=>ZW q (l.getD m Qp))=tA;(·rw[if_pos b,if_pos b,if_neg (by omega)]);·rw[if_neg b,if_neg b,if_pos rfl]
 ·rw[if_neg a,if_neg a,if_neg a]
theorem F9{α:Type}(d:α)(f:α->Bool)(l:List α)(k:Nat)(h:k<l.length):(l.take (k+1)).any f=((l.take k).any f||f (l.getD k d)):=by
 rw[List.take_succ_eq_append_getElem h,List.any_append,show l[k]=l.getD k d by simp[h]];simp
theorem Mo{α:Type}(d:α)(f:α->Bool)(l:List α)(k m:Nat)(hk:k<m)(hm:m<=l.length)(h:f (l.getD k d)=tA):(l.take m).any f=tA:=by
 rw[List.any_eq_true];refine⟨l.getD k d,?_,h⟩;rw[show l.getD k d=(l.take m)[k]'(by rw[List.length_take];omega)by rw[List.getElem_take];simp[show k<l.length by omega]];exact List.getElem_mem _
theorem yR{w:L}{a:Option Addr}{n cap:Nat}{l:List Rd}(h:Xg w (S a n cap) l)(i:Nat)(hi:i<l.length):∃b o,a=O ⟨b,o,M⟩∧∃u1 u2 u3 u4 u5 u6,(w.cell? ⟨b,o+i*4,M⟩=O (S u1 (l.getD i Zj).name.length u2)∧w.cell? ⟨b,o+i*4+1,M⟩=O (S u3 (l.getD i Zj).key.length u4)∧w.cell? ⟨b,o+i*4+2,M⟩=O (tQ (l.getD i Zj).wide)∧w.cell? ⟨b,o+i*4+3,M⟩=O (S u5 (l.getD i Zj).last.length u6))∧YE w (.agg #[S u1 (l.getD i Zj).name.length u2,S u3 (l.getD i Zj).key.length u4,tQ (l.getD i Zj).wide,S u5 (l.getD i Zj).last.length u6]) (l.getD i Zj):=by
 obtain⟨b,o,rfl,c⟩:=h.at i hi;obtain⟨r,p,q,g,j,k,m,d,e,f⟩:=c;obtain⟨u1,u2,rfl⟩:=d.shape;obtain⟨u3,u4,rfl⟩:=e.shape;obtain⟨u5,u6,rfl⟩:=f.shape;exact⟨b,o,rfl,u1,u2,u3,u4,u5,u6,⟨g,j,k,m⟩,⟨_,_,_,rfl,d,e,f⟩⟩
theorem Ym{w:L}{a:Option Addr}{n cap:Nat}{l:List Q6}(h:QP w (S a n cap) l)(i:Nat)(hi:i<l.length):∃b o,a=O ⟨b,o,M⟩∧∃u1 u2 u3 u4 u5 u6,(w.cell? ⟨b,o+i*4,M⟩=O (S u1 (l.getD i Qp).name.length u2)∧w.cell? ⟨b,o+i*4+1,M⟩=O (S u3 (l.getD i Qp).key.length u4)∧w.cell? ⟨b,o+i*4+2,M⟩=O (tQ (l.getD i Qp).gone)∧w.cell? ⟨b,o+i*4+3,M⟩=O (S u5 (l.getD i Qp).value.length u6))∧Xh w (.agg #[S u1 (l.getD i Qp).name.length u2,S u3 (l.getD i Qp).key.length u4,tQ (l.getD i Qp).gone,S u5 (l.getD i Qp).value.length u6]) (l.getD i Qp):=by
 obtain⟨b,o,rfl,c⟩:=h.at i hi;obtain⟨r,p,q,g,j,k,m,d,e,f⟩:=c;obtain⟨u1,u2,rfl⟩:=d.shape;obtain⟨u3,u4,rfl⟩:=e.shape;obtain⟨u5,u6,rfl⟩:=f.shape;exact⟨b,o,rfl,u1,u2,u3,u4,u5,u6,⟨g,j,k,m⟩,⟨_,_,_,rfl,d,e,f⟩⟩
theorem NH{x y:Bool}{a b:Int}(h:x=y)(k:a=b):tJ (sS #[tQ y,tE tH b])=tJ (sS #[tQ x,tE tH a]):=by
 rw[h,k]
theorem dL{α:Type}(f:α->Bool)(l:List α)(d:α)(i:Nat)(hi:i<l.length)(h:f (l.getD i d)=tA):l.any f=tA:=by
 have:=Mo d f l i l.length hi (sK _) h;rw[sN]at this;exact this
theorem xZ:(77:Nat)≠5:=by
 decide
theorem uZ:(77:Nat)≠175:=by
 decide
theorem zO:(77:Nat)≠154:=by
 decide
theorem ZS.block{rb pb:Nat}{W w':L}{v:N}{l:List Rd}(ho:ZS rb pb W v l)(hg:Y W w' v.ownBlock){b:Nat}{cs:Array N}{t:tZ}{fz:Nat×Nat}(h:W.heap[b]?=O (tD cs t fz))(ht:t≠175):w'.heap[b]?=O (tD cs t fz):=by
 rw[hg.block b (tM.1 h).1 (fun e=>ho.ne h ht e.symm)];exact h
theorem Q4.block{rb pb:Nat}{W w':L}{v:N}{l:List Q6}(ho:Q4 rb pb W v l)(hg:Y W w' v.ownBlock){b:Nat}{cs:Array N}{t:tZ}{fz:Nat×Nat}(h:W.heap[b]?=O (tD cs t fz))(ht:t≠154):w'.heap[b]?=O (tD cs t fz):=by
 rw[hg.block b (tM.1 h).1 (fun e=>ho.ne h ht e.symm)];exact h
theorem ZS.keptV{rb rb':Nat}{W w':L}{v u:N}{l:List Rd}{k:List Q6}(hR:ZS rb 0 W v l)(hV:Q4 rb' 0 W u k)(hg:Y W w' u.ownBlock):ZS rb 0 w' v l:=by
 refine hR.kept hg ?_ ?_;·rcases hR.row with h|⟨g,a,b,e,_,h⟩;(·exact .inl h);·refine .inr ?_;rw[e];exact fun c=>hV.ne h (fun e=>pN e) c.symm
 ·rcases hV.row with h|⟨g,a,b,e,_,h⟩;(·exact .inl h);·exact .inr ⟨g,a,_,b,e,tU _,h,vZ⟩
theorem QH{w:L}{b:Nat}{x y z:N}{t:tZ}(h:w.heap[b]?=O (tD #[x,y,z] t)):(w.cell? ⟨b,0,M⟩=O x∧w.cell? ⟨b,1,M⟩=O y∧w.cell? ⟨b,2,M⟩=O z)∧w.frozen? ⟨b,0,M⟩=tC∧w.frozen? ⟨b,1,M⟩=tC∧w.frozen? ⟨b,2,M⟩=tC:=by
 refine⟨⟨?_,?_,?_⟩,?_,?_,?_⟩<;>simp[tW,World.frozen?,h]
theorem Vl{rb:Nat}{w wr:L}{RB:Nat}{x y z:N}{st:Int}{va ua:Option Addr}{n m vc uc:Nat}{R:List Rd}{V:List Q6}(h:wr.heap[RB]?=O (tD #[x,y,z] 77))(hR:ZS rb 0 wr (S va n vc) R)(hV:Q4 rb 0 wr (S ua m uc) V)(hg:Y w wr M)(hw:w.heap.size<=RB):((((tI wr ⟨RB,0,M⟩ (tE tH st)).setCell ⟨RB,1,M⟩ (S va n vc)).setCell ⟨RB,2,M⟩ (S ua m uc)).cell? ⟨RB,0,M⟩=O (tE tH st)∧(((tI wr ⟨RB,0,M⟩ (tE tH st)).setCell ⟨RB,1,M⟩ (S va n vc)).setCell ⟨RB,2,M⟩ (S ua m uc)).cell? ⟨RB,1,M⟩=O (S va n vc)∧(((tI wr ⟨RB,0,M⟩ (tE tH st)).setCell ⟨RB,1,M⟩ (S va n vc)).setCell ⟨RB,2,M⟩ (S ua m uc)).cell? ⟨RB,2,M⟩=O (S ua m uc))∧ZS rb 0 (((tI wr ⟨RB,0,M⟩ (tE tH st)).setCell ⟨RB,1,M⟩ (S va n vc)).setCell ⟨RB,2,M⟩ (S ua m uc)) (S va n vc) R∧Q4 rb 0 (((tI wr ⟨RB,0,M⟩ (tE tH st)).setCell ⟨RB,1,M⟩ (S va n vc)).setCell ⟨RB,2,M⟩ (S ua m uc)) (S ua m uc) V∧Y w (((tI wr ⟨RB,0,M⟩ (tE tH st)).setCell ⟨RB,1,M⟩ (S va n vc)).setCell ⟨RB,2,M⟩ (S ua m uc)) M:=by
 have a:=Qj (i:=0) (u:=tE tH st) h;have b:=Qj (i:=1) (u:=S va n vc) a;have c:=Qj (i:=2) (u:=S ua m uc) b;exact⟨(QH (x:=tE tH st) (y:=S va n vc) (z:=S ua m uc) c).1,((hR.setOther h xZ uZ (tU _) _).setOther a xZ uZ (tU _) _).setOther b xZ uZ (tU _) _,((hV.setOther h xZ zO (tU _) _).setOther a xZ zO (tU _) _).setOther b xZ zO (tU _) _,Qc (Qc (Qc hg _ hw _ _) _ hw _ _) _ hw _ _⟩
theorem Q4.keptR{rb rb':Nat}{W w':L}{v u:N}{l:List Q6}{k:List Rd}(hV:Q4 rb 0 W v l)(hR:ZS rb' 0 W u k)(hg:Y W w' u.ownBlock):Q4 rb 0 w' v l:=by
 refine hV.kept hg ?_ ?_;·rcases hV.row with h|⟨g,a,b,e,_,h⟩;(·exact .inl h);·refine .inr ?_;rw[e];exact fun c=>hR.ne h (fun e=>pN e.symm) c.symm
 ·rcases hR.row with h|⟨g,a,b,e,_,h⟩;(·exact .inl h);·exact .inr ⟨g,a,_,b,e,tU _,h,o9⟩
theorem qQ{w:L}{v1 v2:N}{st:Int}{R:List Rd}{V:List Q6}{rb:Nat}{t:Tx}(e:t=⟨st,R,V⟩)(h1:ZS rb 0 w v1 R)(h2:Q4 rb 0 w v2 V):zD w (.agg #[tE tH st,v1,v2]) t:=by
 subst e;exact⟨_,_,rfl,h1.down 0 (tU _),h2.down 0 (tU _)⟩
theorem Vj{v:N}{a b:Int}(h:a=b):tJ (sS #[v,tE tH b])=tJ (sS #[v,tE tH a]):=by
 rw[h]
theorem If:∀(l:List Q6)(w:Q6)(m:Nat),m<l.length->(l.take m).any (fun q=>ZW q w)=tC->ZW (l.getD m Qp) w=tA->yX l w=l.set m w|[],_,_,h,_,_=>by simp at h|a::l,w,0,_,_,h=>by have b:ZW a w=tA:=h;rw[yX,if_pos b];rfl|a::l,w,m+1,h0,h1,h2=>by rw[List.take_succ_cons,List.any_cons,Bool.or_eq_false_iff]at h1;rw[yX,if_neg (by rw[h1.1];decide),List.set_cons_succ,If l w m (by simpa using h0) h1.2 (by simpa using h2)]
theorem CU:∀(l:List Q6)(w:Q6),l.any (fun q=>ZW q w)=tC->yX l w=l++[w]|[],_,_=>rfl|a::l,w,h=>by rw[List.any_cons,Bool.or_eq_false_iff]at h;rw[yX,if_neg (by rw[h.1];decide),CU l w h.2];rfl
theorem Q4.zero{rb:Nat}{w:L}{b o n cap:Nat}{l:List Q6}(h:Q4 rb 0 w (S (O ⟨b,o,M⟩) n cap) l):o=0:=by
 obtain⟨k,j,d,i⟩:=h;rcases d.2with⟨e,_⟩|⟨f,a,c,e,_⟩;·cases e
 ·simp only[tK,tF,Addr.mk.injEq]at e;exact e.1.2.1
theorem Q4.frozenT{rb:Nat}{w:L}{g n cap:Nat}{l:List Q6}(h:Q4 rb 0 w (S (O ⟨g,0,M⟩) n cap) l)(j:Nat):w.frozen? ⟨g,j,M⟩=tC:=by
 obtain⟨o,m,d,i⟩:=h;rcases d.2with⟨e,_⟩|⟨f,a,b,e,k,c,_⟩;·cases e
 ·simp only[tK,tF,Addr.mk.injEq]at e;obtain⟨⟨rfl,_⟩,_⟩:=e;simp[World.frozen?,c]
theorem NK:∀(us:List WV)(i:Nat)(x:WV),Jh (us.set i x)=((((Jh us).set (i*4) x.2.1).set (i*4+1) x.2.2.1).set (i*4+2) (tQ x.1.gone)).set (i*4+3) x.2.2.2|[],i,x=>by simp[Jh]|y::us,0,x=>by simp[Jh]|y::us,i+1,x=>by have a:=NK us i x;(have e:∀us:List WV,Jh (y::us)=y.2.1::y.2.2.1::tQ y.1.gone::y.2.2.2::Jh us:=fun us=>by simp[Jh]);rw[List.set_cons_succ,e,e,a,show(i+1)*4=i*4+4by omega];rfl
theorem Q4.setT{rb:Nat}{w:L}{g n cap:Nat}{l:List Q6}(h:Q4 rb 0 w (S (O ⟨g,0,M⟩) n cap) l)(i:Nat)(vn vk vv:N)(p:Q6)(h1:Qh 0 w vn p.name)(h2:Qh 0 w vk p.key)(h3:Qh 0 w vv p.value):Q4 rb 0 ((((tI w ⟨g,i*4,M⟩ vn).setCell ⟨g,i*4+1,M⟩ vk).setCell ⟨g,i*4+2,M⟩ (tQ p.gone)).setCell ⟨g,i*4+3,M⟩ vv) (S (O ⟨g,0,M⟩) n cap) (l.set i p):=by
 obtain⟨r,d,y,k⟩:=h;have b:Y w ((((tI w ⟨g,i*4,M⟩ vn).setCell ⟨g,i*4+1,M⟩ vk).setCell ⟨g,i*4+2,M⟩ (tQ p.gone)).setCell ⟨g,i*4+3,M⟩ vv) (O g):=Qg (Qg (Qg (Qg (Qb _ _) _ _) _ _) _ _) _ _;rcases y.2with⟨e,_⟩|⟨j,o,c,e,s,q,v,u,z,A⟩;·cases e
 ·simp only[tK,tF,Addr.mk.injEq]at e;obtain⟨⟨rfl,_⟩,rfl,rfl⟩:=e;have a:(O g:Option Nat)=M∨∃j c t fz,(O g:Option Nat)=O j∧0<=j∧w.heap[j]?=O (tD c t fz)∧t≠5:=.inr ⟨g,c,_,_,rfl,tU _,q,vZ⟩;(have m:r.length=l.length:=by rw[<-d];simp);refine⟨r.set i (p,vn,vk,vv),by rw[List.map_set,d],⟨by rw[Od,List.length_set,List.length_set,m],.inr ⟨g,cap,_,by rw[List.length_set],s,Qj (Qj (Qj (Qj q))),by rw[List.length_set];exact v,u,by simpa using z,?_⟩⟩,?_⟩;(·rw[NK,List.length_set];simp only[Array.toList_setIfInBounds];rw[List.take_set,List.take_set,List.take_set,List.take_set,A]);·intro x f;rcases List.mem_or_eq_of_mem_set f with f|rfl;(·exact⟨(k x f).1.keptT b a,(k x f).2.1.keptT b a,(k x f).2.2.keptT b a⟩);·exact⟨h1.keptT b a,h2.keptT b a,h3.keptT b a⟩
def UB(n k:List UInt8)(q:Q6):Bool:=tV (q.name=n)&&tV (q.key=k)
theorem Sh{α:Type}(p:α->Bool)(d:α):∀(l:List α)(m:Nat),m<l.length->(l.take m).any p=tC->p (l.getD m d)=tA->l.find? p=O (l.getD m d)|[],_,h,_,_=>by simp at h|a::l,0,_,_,h=>by have b:p a=tA:=h;rw[List.find?_cons_of_pos b];rfl|a::l,m+1,h0,h1,h2=>by rw[List.take_succ_cons,List.any_cons,Bool.or_eq_false_iff]at h1;rw[List.find?_cons_of_neg (by rw[h1.1];decide),Sh p d l m (by simpa using h0) h1.2 (by simpa using h2)];simp
theorem Ip{α:Type}(p:α->Bool)(l:List α)(h:l.any p=tC):l.find? p=M:=by
 rw[List.find?_eq_none];intro x b a;rw[List.any_eq_false]at h;exact h x b a
theorem oI{l:List Q6}{n k:List UInt8}{m:Nat}(h:m<l.length)(h1:(l.take m).any (UB n k)=tC)(h2:UB n k (l.getD m Qp)=tA):pB l n k=O (l.getD m Qp):=Sh (UB n k) Qp l m h h1 h2
theorem iZ{l:List Q6}{n k:List UInt8}(h:l.any (UB n k)=tC):pB l n k=M:=Ip (UB n k) l h
theorem cT{l:FL}{t:Tx}{n k:List UInt8}(h:KU l t n k≠0):Gp l t n k=tC∧VG l t n k=tC∧Vp l t n k=[]:=by
 rw[Gp,VG,Vp,if_neg h,if_neg h,if_neg h];exact⟨rfl,rfl,rfl⟩
theorem lX{l:FL}{t:Tx}{n k:List UInt8}(h:yQ l t≠0):KU l t n k=yQ l t:=by
 rw[KU,if_neg h]
theorem C3{l:FL}{t:Tx}(h:yQ l t=0):Zb l∧xA t:=by
 unfold yQ at h;by_cases a:Q7 l=0;·rw[if_pos a]at h;exact⟨(Z6 l).1 a,(kH t).1 h⟩
 ·rw[if_neg a]at h;exact absurd h a
theorem f7{l:FL}{t:Tx}{n k:List UInt8}(h:yQ l t=0){m:Nat}(hm:m<t.writes.length)(h1:(t.writes.take m).any (UB n k)=tC)(h2:UB n k (t.writes.getD m Qp)=tA):KU l t n k=0∧Gp l t n k=tA∧VG l t n k=!(t.writes.getD m Qp).gone∧Vp l t n k=(t.writes.getD m Qp).value:=by
 obtain⟨f,e⟩:=C3 h;have b:=oI hm h1 h2;have c:=dH b;have d:=(XV _).1 (e.wrs _ c.1);rw[c.2.1,c.2.2]at d;have a:=Wl f e d.1 d.2.1;refine⟨a,?_,?_,?_⟩;·rw[Gp,if_pos a,b];rfl
 ·rw[VG,if_pos a,b]
 ·rw[Vp,if_pos a,b]
theorem fX{l:FL}{t:Tx}{n k:List UInt8}(h:yQ l t=0)(h1:t.writes.any (UB n k)=tC):KU l t n k=Vr l n k∧Gp l t n k=tC∧VG l t n k=Ur l n k∧Vp l t n k=Ux l n k:=by
 obtain⟨f,g⟩:=C3 h;have d:=iZ h1;have e:=(Z6 l).2 f;have c:KU l t n k=Vr l n k:=by rw[KU,if_pos h,Vr,qT,if_pos e];by_cases b:Qs n.length=0;(·rw[if_pos b,if_pos b,Xi,if_pos ((Yi _).2 (Jn f n))]);·rw[if_neg b,if_neg b]
 refine⟨c,?_,?_,?_⟩;·rw[Gp,d];by_cases a:KU l t n k=0;(·rw[if_pos a];rfl);·rw[if_neg a]
 ·rw[VG,d];by_cases a:KU l t n k=0;(·rw[if_pos a]);·rw[if_neg a];rw[c]at a;rw[Ur];by_cases b:qT l n=0;(·rw[Vr,if_pos b]at a;rw[if_pos b,Eg];simp[a]);·rw[if_neg b]
 ·rw[Vp,d];by_cases a:KU l t n k=0;(·rw[if_pos a]);·rw[if_neg a];rw[c]at a;rw[Ux];by_cases b:qT l n=0;(·rw[Vr,if_pos b]at a;rw[if_pos b,EG,if_neg a]);·rw[if_neg b]
theorem bB{X:PL}(h:Zd X)(k:List UInt8):Zd (yN X k):=⟨tT (DJ X k) h.room,fun p hp=>h.pairs p (List.mem_filter.1 hp).1,MY X k h.rises⟩
theorem CW{X:PL}(h:Zd X)(f u:List UInt8):Zd (VQ X f u):=⟨tT (OP X f u) h.room,fun p a=>h.pairs p (List.mem_filter.1 a).1,AZ X f u h.rises⟩
theorem Iy{X:PL}(h:Zd X){p:Pr}(hp:(1<=p.1.length∧p.1.length<=16)∧p.2.length<=32)(hl:(J5 X p).length<=60):Zd (J5 X p):=⟨hl,Mv X p h.pairs hp,FB X p h.rises⟩
theorem u7(n a b:List UInt8)(w:Q6):X6 ⟨n,a,tA,b⟩ w=tA↔w.name=n∧pP a b w.key=tA:=by
 show(tV (n=w.name)&&pP a b w.key)=tA↔_;rw[Bool.and_eq_true,decide_eq_true_iff];exact⟨fun h=>⟨h.1.symm,h.2⟩,fun h=>⟨h.1.symm,h.2⟩⟩
theorem b6{n a b:List UInt8}{w:Q6}(h:X6 ⟨n,a,tA,b⟩ w=tC)(X:PL):Uk n a b X w=X:=by
 rw[Uk,if_neg];intro e;rw[(u7 n a b w).2 e]at h;cases h
theorem eV{n a b:List UInt8}{w:Q6}(h:X6 ⟨n,a,tA,b⟩ w=tA)(hg:w.gone=tA){X:PL}(hX:Zd X)(hw:QA w=0):Xi X w.key=0∧yP X w.key=Uk n a b X w∧Zd (Uk n a b X w):=by
 have d:=((XV w).1 hw).2.1;have c:=uC hX d;have e:Uk n a b X w=yN X w.key:=by rw[Uk,if_pos ((u7 n a b w).1 h),if_pos hg]
 refine⟨c,by rw[e,yP,if_pos c],by rw[e];exact bB hX _⟩
theorem fT{n a b:List UInt8}{w:Q6}(h:X6 ⟨n,a,tA,b⟩ w=tA)(hg:w.gone=tC){X:PL}(hX:Zd X)(hw:QA w=0):Uk n a b X w=J5 X (w.key,w.value)∧(60<(Uk n a b X w).length->KG X (w.key,w.value)=11)∧(¬60<(Uk n a b X w).length->KG X (w.key,w.value)=0∧VZ X (w.key,w.value)=Uk n a b X w∧Zd (Uk n a b X w)):=by
 have d:=(XV w).1 hw;have i:w.value.length<=32:=by have:=d.2.2;rw[hg,if_neg (by decide)]at this;exact this
 have e:Uk n a b X w=J5 X (w.key,w.value):=by rw[Uk,if_pos ((u7 n a b w).1 h),hg,if_neg (by decide)]
 have f:GG X (w.key,w.value)=0:=by rw[GG,if_pos ((Yi X).2 hX)];exact(Yt _).2 ⟨d.2.1,i⟩
 refine⟨e,fun c=>?_,fun c=>?_⟩;·rw[e]at c;rw[KG,if_pos f,if_pos c]
 ·rw[e]at c;(have g:KG X (w.key,w.value)=0:=by rw[KG,if_pos f,if_neg c]);refine⟨g,by rw[e,VZ,if_pos g],?_⟩;rw[e];exact Iy hX ⟨d.2.1,i⟩ (by omega)
def J0(n a b:List UInt8)(X:PL)(ws:List Q6):Int×PL:=(vU n a b X ws,if vU n a b X ws=0then Hn n a b X ws else[])
theorem Wb(n a b:List UInt8)(X:PL):J0 n a b X []=(0,X):=rfl
theorem FQ{n a b:List UInt8}{X:PL}{ws:List Q6}{m:Nat}(hm:m<ws.length)(h:¬60<(Uk n a b X (ws.getD m Qp)).length):J0 n a b X (ws.drop m)=J0 n a b (Uk n a b X (ws.getD m Qp)) (ws.drop (m+1)):=by
 rw[List.drop_eq_getElem_cons hm,show ws[m]=ws.getD m Qp by simp[hm]];rw[J0,J0,vU,if_neg h];rfl
theorem BJ{n a b:List UInt8}{X:PL}{ws:List Q6}{m:Nat}(hm:m<ws.length)(h:60<(Uk n a b X (ws.getD m Qp)).length):J0 n a b X (ws.drop m)=(11,[]):=by
 rw[List.drop_eq_getElem_cons hm,show ws[m]=ws.getD m Qp by simp[hm]];rw[J0,vU,if_pos h,if_neg (by decide)]
theorem iT{l:FL}{t:Tx}{n a b:List UInt8}(h:yQ l t≠0):KW l t n a b=yQ l t∧GF l t n a b=[]:=by
 have e:KW l t n a b=yQ l t:=by rw[KW,if_neg h]
 exact⟨e,by rw[GF,e,if_neg h]⟩
theorem Hb{l:FL}{t:Tx}{n a b:List UInt8}(h:yQ l t=0)(h1:YN l n a b≠0):KW l t n a b=YN l n a b∧GF l t n a b=[]:=by
 obtain⟨j,k⟩:=C3 h;have f:=(Z6 l).2 j;have e:KW l t n a b=YN l n a b:=by(have g:YN l n a b=if Qs n.length=0then(if Qn a.length=0then Qn b.length else Qn a.length)else Qs n.length:=by rw[YN,qT,if_pos f];by_cases c:Qs n.length=0;(·rw[if_pos c,if_pos c,YK,Xi,if_pos ((Yi _).2 (Jn j n))]);·rw[if_neg c,if_neg c]);rw[KW,if_pos h,g];by_cases c:Qs n.length=0;(·rw[if_pos c,if_pos c];by_cases d:Qn a.length=0;(·rw[if_pos d,if_pos d];by_cases i:Qn b.length=0;(·rw[g,if_pos c,if_pos d]at h1;exact absurd i h1);·rw[if_neg i]);·rw[if_neg d,if_neg d]);·rw[if_neg c,if_neg c]
 exact⟨e,by rw[GF,e,if_neg h1]⟩
theorem Ll{l:FL}{t:Tx}{n a b:List UInt8}(h:yQ l t=0)(h1:YN l n a b=0):J0 n a b (KH l n a b) t.writes=(KW l t n a b,GF l t n a b)∧Zd (KH l n a b):=by
 obtain⟨g,p⟩:=C3 h;have o:=(Z6 l).2 g;have c:qT l n=0:=by by_cases c:qT l n=0;(·exact c);·rw[YN,if_neg c]at h1;exact absurd h1 c
 have d:YK (Xw l n) a b=0:=by rw[YN,if_pos c]at h1;exact h1
 have i:=SR d;have m:Qn b.length=0:=by rw[YK,if_pos i]at d;exact d
 have k:Qn a.length=0:=(Zc _).2 (dX i);have f:Qs n.length=0:=(Zk _).2 (xO c).2;have e:KH l n a b=VQ (Xw l n) a b:=by rw[KH,if_pos c,Uf,if_pos d]
 have j:KW l t n a b=vU n a b (VQ (Xw l n) a b) t.writes:=by rw[KW,if_pos h,if_pos f,if_pos k,if_pos m]
 refine⟨?_,by rw[e];exact CW (Jn g n) a b⟩;rw[e,J0,GF,j]
def OO:Prop:=∀(w:L)(v:N)(t:Tx),zK w v t->jE t->Calls tB 90 #[v] w fun e w'=>e=tJ (tE tH (G0 t))∧Y w w' M
def bV:Prop:=∀(w:L)(v:N)(l:PL),Qo w v l->vA l->Calls tB 27 #[v] w fun e w'=>e=tJ (tE tH (QC l))∧Y w w' M
theorem Rg{w:L}{o:Oper}{a:Act}{K:Act->L->Prop}{Q:Exit->Act->L->Prop}(s x:Operand)(ho:o.op=.call {callee:=.builtin .append,args:=#[s,x],argTypes:=#[42,42]})(rb base:Nat)(hrb:base<=rb)(v:N)(l:PL)(hs:a.eval s=v)(hown:KQ rb base w v l)(vk vv:N)(p:Pr)(hk:Qh base w vk p.1)(hv:Qh base w vv p.2)(nb:Nat)(hb:w.heap[nb]?=O (tD #[vk,vv] 45))(hx:a.eval x=S (O ⟨nb,0,M⟩) 1 1)(hl:(l.length+1)*48<=140737488355328)(hbase:rb<=w.heap.size)(h:∀v' w',KQ rb base w' v' (l++[p])->Y w w' v.ownBlock->K (a.put o.dst v') w'):o.wp tB a w K Q:=by
 obtain⟨z,f,j,k,m⟩:=info_parts Ag;have b:=hown.row hrb;obtain⟨r,e,y,n⟩:=hown;refine wp_append_lies w s x 42 ho rb 45 z (.agg #[S M 0 0,S M 0 0]) 2 48 Tryz.underlying42 f j k m rfl (by decide) v l.length (flat r) hs y ⟨nb,0,M⟩ 1 1 (flat [(vk,vv)]) hx rfl (World.news_of_block (cs:=#[vk,vv]) hb) ?_ (by omega) (by unfold maxLen;omega) hl hbase _ rfl ?_;·intro u q;simp only[flat,tS,List.flatMap_nil,List.append_nil,tP,tR,or_false]at q;rcases q with rfl|rfl;(·exact ZH hk);·exact ZH hv
 ·intro g cap w' t d _ _;refine h _ w' ⟨r++[(vk,vv)],by simp[e],?_,?_⟩ d;(·rw[Kk,tG];exact t);·intro i f;rw[JA,JA,e];by_cases c:i<l.length;(·rw[if_pos c,if_pos c];exact⟨(n i c).1.kept d b,(n i c).2.kept d b⟩);·rw[if_neg c,if_neg c];(obtain rfl:i=l.length:=by simp at f;omega);rw[Nat.sub_self];exact⟨hk.kept d b,hv.kept d b⟩
theorem GY{w:L}{ops:Array Oper}{o:Oper}{a:Act}{K:Act->L->Prop}{Q:Exit->Act->L->Prop}{E:Prop}(hgd:o.guard=M)(s x:Operand)(ho:o.op=.call {callee:=.builtin .append,args:=#[s,x],argTypes:=#[42,42]})(rb base:Nat)(hrb:base<=rb)(v:N)(l:PL)(hs:a.eval s=v)(hown:KQ rb base w v l)(vk vv:N)(p:Pr)(hk:Qh base w vk p.1)(hv:Qh base w vv p.2)(nb:Nat)(hb:w.heap[nb]?=O (tD #[vk,vv] 45))(hx:a.eval x=S (O ⟨nb,0,M⟩) 1 1)(hl:(l.length+1)*48<=140737488355328)(hbase:rb<=w.heap.size)(h:∀v' w',KQ rb base w' v' (l++[p])->Y w w' v.ownBlock->K (a.put o.dst v') w'):if sP o (yielded ops a.tmps)=tA then Oper.wp tB o a w K Q else E:=by
 have b:sP o (yielded ops a.tmps)=tA:=by simp[sP,hgd]
 rw[if_pos b];exact Rg s x ho rb base hrb v l hs hown vk vv p hk hv nb hb hx hl hbase h
theorem Ng(w:L):(sizeOf (tB.elem 42)).run tB w=.ok 2 w:=by
 kernel_rfl
theorem Qo.sliced{w:L}{a:Option Addr}{cap:Nat}{l:PL}(h:Qo w (S a l.length cap) l)(i j:Nat)(hij:i<=j)(hj:j<=l.length):Qo w (Go.sliced a i j cap 2) ((l.take j).drop i):=by
 obtain⟨m,f,e,n,h⟩:=h;simp only[tK,true_and]at e;obtain⟨rfl,rfl⟩:=e;have c:((l.take j).drop i).length=j-i:=by simp;omega
 refine⟨if cap=i then a else a.map (·.add (i*2)),cap-i,by rw[c];rfl,by rw[c];omega,?_⟩;by_cases d:cap=i;·left;exact⟨tN (by rw[c];omega),fun _=>by omega⟩
 ·rw[if_neg d];rcases h with⟨rfl,h⟩|⟨b,o,rfl,h⟩;(·left;refine⟨by simp,fun e=>?_⟩;cases a with|none=>have:=h rfl;simp at hj;omega|some x=>cases e);·right;refine⟨b,o+i*2,by simp[Xc],fun k g=>?_⟩;rw[c]at g;have:=h (i+k) (by omega);(have e:((l.take j).drop i).getD k ([],[])=l.getD (i+k) ([],[]):=by simp[show i+k<j by omega]);rw[e,show o+i*2+k*2=o+(i+k)*2by omega];exact this
theorem P9(a:Option Addr)(cap:Nat)(l:PL)(n:Nat)(hn:n<=l.length)(hc:l.length<=cap):∃a1 c1,(∀W,(Instr.slice 42 (S a l.length cap) M (O (tE tH (n:Int))) M).run tB W=.ok (S a1 n c1) W)∧∀W,Qo W (S a l.length cap) l->Qo W (S a1 n c1) (l.take n):=by
 refine⟨if cap=0then a else a.map (·.add (0*2)),cap-0,fun W=>?_,fun W h=>?_⟩;·rw[run_slice_h _ _ _ _ _ (by kernel_rfl) _ _ (by omega) (by omega),Ng];simp only[Result.andThen,Go.sliced,Int.toNat_natCast,Nat.sub_zero]
 ·have:=h.sliced 0 n (by omega) hn;simpa only[Go.sliced,List.drop_zero,Nat.sub_zero]using this
theorem Fm(a:Option Addr)(cap:Nat)(l:PL)(n:Nat)(hn:n<=l.length):∃a1 c1,(∀W,(Instr.slice 42 (S a l.length cap) (O (tE tH (n:Int))) M M).run tB W=.ok (S a1 (l.length-n) c1) W)∧∀W,Qo W (S a l.length cap) l->Qo W (S a1 (l.length-n) c1) (l.drop n):=by
 refine⟨if cap=n then a else a.map (·.add (n*2)),cap-n,fun W=>?_,fun W h=>?_⟩;·rw[run_slice_l _ _ _ _ _ (by kernel_rfl) _ _ (by omega) (by omega),Ng];simp only[Result.andThen,Go.sliced,Int.toNat_natCast]
 ·have:=h.sliced n l.length hn (sK _);simpa only[Go.sliced,sN]using this
theorem Dk(a:Option Addr)(cap:Nat)(l:PL)(i j:Nat)(hij:i<=j)(hj:j<=l.length)(hc:l.length<=cap):∃a1 c1,(∀W,(Instr.slice 42 (S a l.length cap) (O (tE tH (i:Int))) (O (tE tH (j:Int))) M).run tB W=.ok (S a1 (j-i) c1) W)∧∀W,Qo W (S a l.length cap) l->Qo W (S a1 (j-i) c1) ((l.take j).drop i):=by
 refine⟨if cap=i then a else a.map (·.add (i*2)),cap-i,fun W=>?_,fun W h=>?_⟩;·rw[run_slice_lh _ _ _ _ _ (by kernel_rfl) _ _ _ _ (by omega) (by omega) (by omega),Ng];simp only[Result.andThen,Go.sliced,Int.toNat_natCast]
 ·have:=h.sliced i j hij hj;simpa only[Go.sliced]using this
theorem Qo.cap{w:L}{a:Option Addr}{n cap:Nat}{l:PL}(h:Qo w (S a n cap) l):l.length<=cap:=by
 obtain⟨d,b,e,c,_⟩:=h;simp only[tK]at e;obtain⟨_,_,rfl⟩:=e;exact c
def fR:Prop:=∀(w:L)(v:N)(l:FL),ZX w v l->G2 l->Calls tB 99 #[v] w fun e w'=>e=tJ (tE tH (Q7 l))∧Y w w' M
def C4:Prop:=∀(w:L)(v u:N)(l:FL)(ws:List Q6),ZX w v l->QP w u ws->G2 l->Pd ws->Calls tB 95 #[v,u] w fun e w'=>∃x,e=tJ (sS #[x,tE tH (QM l ws)])∧ZX w' x (ZQ l ws)∧Y w w' M
theorem ZJ.down{base:Nat}{w:L}{v:N}{l:FL}(h:ZJ base w v l)(b2:Nat)(hb:b2<=base):ZJ b2 w v l:=by
 obtain⟨i,d,c,f⟩:=h;refine⟨i,d,⟨c.1,?_⟩,f⟩;rcases c.2with h|⟨g,cap,a,e,b,rest⟩;·exact .inl h
 ·exact .inr ⟨g,cap,a,e,tT hb b,rest⟩
def j9:Prop:=∀(w:L)(v u:N)(l:FL)(ws:List Q6),ZX w v l->QP w u ws->G2 l->Pd ws->Calls tB 95 #[v,u] w fun e w'=>∃x,e=tJ (sS #[x,tE tH (QM l ws)])∧ZJ w.heap.size w' x (ZQ l ws)∧Y w w' M
theorem j9.ok(h:j9):C4:=fun w v u l i a b c d=>(h w v u l i a b c d).mono (by
 rintro e j⟨x,rfl,g,f⟩;exact⟨x,rfl,g.list,f⟩)
theorem xU(w:L)(b i:Nat)(u:N):∃W:L,Hid (W=tI w ⟨b,i,M⟩ u)∧Y w W (O b):=⟨_,rfl,YW w b i u⟩
theorem yE{w:L}{ops:Array Oper}{o:Oper}{a:Act}{K:Act->L->Prop}{Q:Exit->Act->L->Prop}{E:Prop}(hgd:o.guard=M)(s x:Operand)(ho:o.op=.call {callee:=.builtin .append,args:=#[s,x],argTypes:=#[75,75]})(rb:Nat)(v:N)(l:List Q6)(hs:a.eval s=v)(hown:Q4 rb 0 w v l)(vn vk vv:N)(p:Q6)(h1:Qh 0 w vn p.name)(h2:Qh 0 w vk p.key)(h3:Qh 0 w vv p.value)(nb:Nat)(hb:w.heap[nb]?=O (tD #[vn,vk,tQ p.gone,vv] 154))(hx:a.eval x=S (O ⟨nb,0,M⟩) 1 1)(hl:(l.length+1)*80<=140737488355328)(hbase:rb<=w.heap.size)(h:∀v' w',Q4 rb 0 w' v' (l++[p])->Y w w' v.ownBlock->K (a.put o.dst v') w'):if sP o (yielded ops a.tmps)=tA then Oper.wp tB o a w K Q else E:=by
 have C:sP o (yielded ops a.tmps)=tA:=by simp[sP,hgd]
 rw[if_pos C];obtain⟨D,A,m,n,q⟩:=info_parts gL;have b:v.ownBlock=M∨∃g d t i,v.ownBlock=O g∧0<=g∧w.heap[g]?=O (tD d t i)∧t≠5:=by rcases hown.row with h|⟨g,d,i,e,_,h⟩;(·exact .inl h);·exact .inr ⟨g,d,_,i,e,tU _,h,vZ⟩
 obtain⟨z,k,B,j⟩:=hown;refine wp_append_lies w s x 75 ho rb 154 D (.agg #[S M 0 0,S M 0 0,tQ tC,S M 0 0]) 4 80 Tryz.underlying75 A m n q rfl (by decide) v l.length (Jh z) hs B ⟨nb,0,M⟩ 1 1 (Jh [(p,vn,vk,vv)]) hx rfl (World.news_of_block (cs:=#[vn,vk,tQ p.gone,vv]) hb) ?_ (by omega) (by unfold maxLen;omega) hl hbase _ rfl ?_;·intro u r;simp only[Jh,tS,List.flatMap_nil,List.append_nil,tP,tR,or_false]at r;rcases r with rfl|rfl|rfl|rfl;(·exact ZH h1);(·exact ZH h2);(·rfl);·exact ZH h3
 ·intro g cap w' F f _ _;refine h _ w' ⟨z++[(p,vn,vk,vv)],by simp[k],?_,?_⟩ f;(·rw[Pk,tG];exact F);·intro y c;rcases sI.1 c with c|c;(·exact⟨(j y c).1.keptT f b,(j y c).2.1.keptT f b,(j y c).2.2.keptT f b⟩);·simp only[tP,tR,or_false]at c;subst c;exact⟨h1.keptT f b,h2.keptT f b,h3.keptT f b⟩
theorem jQ{w:L}{ops:Array Oper}{o:Oper}{a:Act}{K:Act->L->Prop}{Q:Exit->Act->L->Prop}{E:Prop}(hgd:o.guard=M)(s x:Operand)(ho:o.op=.call {callee:=.builtin .append,args:=#[s,x],argTypes:=#[74,74]})(rb:Nat)(v:N)(l:List Rd)(hs:a.eval s=v)(hown:ZS rb 0 w v l)(vn vk vv:N)(p:Rd)(h1:Qh 0 w vn p.name)(h2:Qh 0 w vk p.key)(h3:Qh 0 w vv p.last)(nb:Nat)(hb:w.heap[nb]?=O (tD #[vn,vk,tQ p.wide,vv] 175))(hx:a.eval x=S (O ⟨nb,0,M⟩) 1 1)(hl:(l.length+1)*80<=140737488355328)(hbase:rb<=w.heap.size)(h:∀v' w',ZS rb 0 w' v' (l++[p])->Y w w' v.ownBlock->K (a.put o.dst v') w'):if sP o (yielded ops a.tmps)=tA then Oper.wp tB o a w K Q else E:=by
 have C:sP o (yielded ops a.tmps)=tA:=by simp[sP,hgd]
 rw[if_pos C];obtain⟨D,A,m,n,q⟩:=info_parts o6;have b:v.ownBlock=M∨∃g d t i,v.ownBlock=O g∧0<=g∧w.heap[g]?=O (tD d t i)∧t≠5:=by rcases hown.row with h|⟨g,d,i,e,_,h⟩;(·exact .inl h);·exact .inr ⟨g,d,_,i,e,tU _,h,o9⟩
 obtain⟨z,k,B,j⟩:=hown;refine wp_append_lies w s x 74 ho rb 175 D (.agg #[S M 0 0,S M 0 0,tQ tC,S M 0 0]) 4 80 Tryz.underlying74 A m n q rfl (by decide) v l.length (G9 z) hs B ⟨nb,0,M⟩ 1 1 (G9 [(p,vn,vk,vv)]) hx rfl (World.news_of_block (cs:=#[vn,vk,tQ p.wide,vv]) hb) ?_ (by omega) (by unfold maxLen;omega) hl hbase _ rfl ?_;·intro u r;simp only[G9,tS,List.flatMap_nil,List.append_nil,tP,tR,or_false]at r;rcases r with rfl|rfl|rfl|rfl;(·exact ZH h1);(·exact ZH h2);(·rfl);·exact ZH h3
 ·intro g cap w' F f _ _;refine h _ w' ⟨z++[(p,vn,vk,vv)],by simp[k],?_,?_⟩ f;(·rw[Dx,tG];exact F);·intro y c;rcases sI.1 c with c|c;(·exact⟨(j y c).1.keptT f b,(j y c).2.1.keptT f b,(j y c).2.2.keptT f b⟩);·simp only[tP,tR,or_false]at c;subst c;exact⟨h1.keptT f b,h2.keptT f b,h3.keptT f b⟩
def gD:Prop:=∀(w:L)(v:N)(r:Rq),UA w->JY w v r->kG r->Calls tB 85 #[v] w fun e w'=>∃x,e=tJ (sS #[x,tE tH (UG r)])∧YE w' x (ZC r)∧Y w w' M
def Z5(K:Int)(n q l v:Nat):Nat->Bool|0=>tC|1=>!QQ K 0&&tV (0<n)|2=>(!QQ K 0&&tV (0<n))||(!QQ K 1&&tV (0<q))|3=>((!QQ K 0&&tV (0<n))||(!QQ K 1&&tV (0<q)))||(!QQ K 2&&tV (0<l))|_=>(((!QQ K 0&&tV (0<n))||(!QQ K 1&&tV (0<q)))||(!QQ K 2&&tV (0<l)))||(!QQ K 3&&tV (0<v))
def rI(K:Int)(n q l v:Nat):Int:=if(tV (Qs n≠0)&&QQ K 0)=tA then Qs n else if(tV (Qn q≠0)&&QQ K 1)=tA then Qn q else if(tV (Qn l≠0)&&QQ K 2)=tA then Qn l else if 32<v then 1 else if Z5 K n q l v 4=tA then 4 else 0
theorem o5(r:Rq)(hk:1<=r.kind∧r.kind<=8):Yp r=rI r.kind r.name.length r.key.length r.last.length r.value.length:=by
 rw[Yp,if_pos hk];have k:ND r=if Z5 r.kind r.name.length r.key.length r.last.length r.value.length 4=tA then 4 else 0:=by unfold ND;by_cases d:QS r.kind=tC∧0<r.name.length+r.key.length;(·rw[if_pos d,if_pos];by_cases a:0<r.name.length;(·simp[Z5,QQ,d.1,a]);·(have c:0<r.key.length:=by omega);simp[Z5,QQ,d.1,c]);·rw[if_neg d];by_cases a:(r.kind≠3∧0<r.last.length)∨(r.kind≠4∧0<r.value.length);(·rw[if_pos a,if_pos];rcases a with⟨a,c⟩|⟨a,c⟩;(·simp[Z5,QQ,a,c]);·simp[Z5,QQ,a,c]);·rw[if_neg a,if_neg];intro b;simp only[Z5,QQ,Bool.or_eq_true,Bool.and_eq_true,Bool.not_eq_true',decide_eq_true_iff,decide_eq_false_iff_not]at b;rcases b with((b|b)|b)|b;(·exact d ⟨b.1,by omega⟩);(·exact d ⟨b.1,by omega⟩);(·exact a (.inl b));·exact a (.inr b)
 rw[k];unfold kQ rI;generalize Z5 r.kind r.name.length r.key.length r.last.length r.value.length 4=B;show _=if(tV (Qs r.name.length≠0)&&QS r.kind)=tA then _ else if(tV (Qn r.key.length≠0)&&QS r.kind)=tA then _ else if(tV (Qn r.last.length≠0)&&tV (r.kind=3))=tA then _ else _;have c:r.kind=3->QS r.kind=tA:=fun h=>by rw[h];decide
 generalize Qs r.name.length=A at*;generalize Qn r.key.length=C at*;generalize Qn r.last.length=D at*;cases hN:QS r.kind with|false=>(have g:¬r.kind=3:=fun h=>by rw[c h]at hN;cases hN);simp[g]|true=>by_cases e:A=0;(·by_cases f:C=0;(·by_cases i:r.kind=3;(·by_cases j:D=0;(·simp[e,f,i,j]);·simp[e,f,i,j]);·simp[e,f,i]);·simp[e,f]);·simp[e]
theorem oM(r:Rq)(hk:¬(1<=r.kind∧r.kind<=8)):Yp r=5:=by
 rw[Yp,if_neg hk]
def Ix:Prop:=∀(w:L)(v u a b:N)(l:FL)(t:Tx)(n k:List UInt8),ZX w v l->G2 l->zK w u t->jE t->Qe w a n->Qe w b k->n.length<=140737488355328->k.length<=140737488355328->Calls tB 71 #[v,u,a,b] w fun e w'=>∃x,e=tJ (sS #[.agg #[tQ (VG l t n k),x],tQ (Gp l t n k),tE tH (KU l t n k)])∧Qh 0 w' x (Vp l t n k)∧Y w w' M
theorem Qe.findS{w:L}{v:N}{bs:List UInt8}(h:Qe w v bs){nb:Nat}{b:Bool}{xa:Option Addr}{xn xc:Nat}{t:tZ}(hb:w.heap[nb]?=O (tD #[tQ b,S xa xn xc] t))(u1 u2:N):Qe ((tI w ⟨nb,0,M⟩ u1).setCell ⟨nb,1,M⟩ u2) v bs:=by
 obtain⟨a,cap,rfl,g,h⟩:=h;refine⟨a,cap,rfl,g,?_⟩;rcases h with h|⟨c,o,rfl,h⟩;·exact .inl h
 ·refine .inr ⟨c,o,rfl,fun i j=>?_⟩;have d:=h i j;(have f:c≠nb:=by rintro rfl;match hj:o+i with|0=>rw[hj]at d;simp[tW,hb]at d|1=>rw[hj]at d;simp[tW,hb]at d|n+2=>rw[hj]at d;simp[tW,hb]at d);rw[World.cell?_setCell_other _ _ _ _ (fun e=>f (congrArg Addr.block e).symm),World.cell?_setCell_other _ _ _ _ (fun e=>f (congrArg Addr.block e).symm)];exact d
theorem XY{w:L}{b:Nat}{x y:N}{t:tZ}(h:w.heap[b]?=O (tD #[x,y] t)):w.cell? ⟨b,0,M⟩=O x∧w.cell? ⟨b,1,M⟩=O y∧w.frozen? ⟨b,0,M⟩=tC∧w.frozen? ⟨b,1,M⟩=tC:=by
 refine⟨?_,?_,?_,?_⟩<;>simp[tW,World.frozen?,h]
section
variable{D:List UInt8->List UInt8}{v u:Sv}
theorem Br(hD:∀x,(D x).length=4)(h:Zu D v)(hs:v.synced=v.commits.length){k:Int}(hk:0<=k):Vg D v k=GN tC v.tape v.commits v.out:=by
 obtain⟨j,c,d,b,_⟩:=UJ hD h hk;obtain rfl:j=v.commits.length:=by omega
 rw[b,sN];have a:=h.mark;rw[hs,sN]at a;have:(⟨QU D v.commits,((QU D v.commits).length:Int)⟩:GK)=v.tape:=by rw[<-a,<-h.data]
 rw[this]
end
section
variable{D:List UInt8->List UInt8}{v:Sv}
def Y0(s:Nat)(r:Rq):Ac:=⟨1,(s:Int),0,Jk r⟩
def Jr:Ac:=⟨2,0,0,[]⟩
def J9:Ac:=⟨4,0,0,[]⟩
def uF(k:Int):Rq:=⟨k,[],[],[],[]⟩
theorem Kw{s:Nat}(hs:s<=7){r:Rq}(hr:JG r):Xx (Y0 s r):=⟨⟨(by
 decide:(1:Int)<=1),(by
 decide:(1:Int)<=4)⟩,fun _=>⟨Int.natCast_nonneg _,by
 show(s:Int)<=7;omega⟩,(fun h=>by
 cases h),(by
 have:=(Pb hr).1;show(Jk r).length<=4000;omega),(fun h=>absurd rfl h),(fun _=>rfl),(fun h=>absurd rfl h)⟩
theorem zB:Xx Jr:=⟨⟨by
 decide,by
 decide⟩,(fun h=>by
 cases h),(fun h=>by
 cases h),(by
 decide),(fun _=>rfl),(fun _=>rfl),(fun _=>rfl)⟩
theorem xL:Xx J9:=⟨⟨by
 decide,by
 decide⟩,(fun h=>by
 cases h),(fun h=>by
 cases h),(by
 decide),(fun _=>rfl),(fun _=>rfl),(fun _=>rfl)⟩
theorem Rk(v:Sv)(s:Nat){r:Rq}(hr:JG r):Yo D v (Y0 s r)=if v.up=tC then Xd v (zY s 13)else V5 D v s r:=by
 show(if(1:Int)=1then V3 D v (s:Int).toNat (Jk r)else _)=_;rw[if_pos rfl,Int.toNat_natCast,V3,(Na hr).1,(Na hr).2,if_pos rfl]
theorem Ab(v:Sv):Yo D v Jr=if v.up=tA then U3 v else v:=by
 show(if(2:Int)=1then _ else if(2:Int)=2then _ else _)=_;rw[if_neg (by decide),if_pos rfl]
theorem bO(v:Sv):Yo D v J9={v with up:=tA}:=by
 show(if(4:Int)=1then _ else if(4:Int)=2then _ else if(4:Int)=3then _ else _)=_;rw[if_neg (by decide),if_neg (by decide),if_neg (by decide)]
theorem Di(v:Sv)(s:Nat){r:Rq}(hr:JG r)(hk:r.kind=8):Yo D v (Y0 s r)=if v.up=tC then Xd v (zY s 13)else TO v s r:=by
 rw[Rk v s hr,V5,if_pos hk]
theorem zW{k:Int}(h:k=1∨k=6∨k=7):JG (uF k):=by
 have a:QS k=tC:=by rcases h with h|h|h<;>subst h<;>decide
 exact⟨by rcases h with h|h|h<;>subst h<;>decide,(fun e=>by rw[show(uF k).kind=k from rfl,a]at e;cases e),(fun e=>by rw[show(uF k).kind=k from rfl,a]at e;cases e),(fun e=>by have:k=3:=e;omega),(by decide:(0:Nat)<=32),fun _=>rfl,fun _=>rfl,fun _=>rfl,fun _=>rfl⟩
theorem BS{t:Tx}{x:Rd}(h:Xm t x=0):(X5 t x).start=t.start∧(X5 t x).writes=t.writes:=by
 refine⟨xT h,?_⟩;unfold X5;rw[if_pos h];split<;>rfl
theorem Ls(h:Zu D v):([Jr,J9].foldl (Yo D) v).up=tA∧([Jr,J9].foldl (Yo D) v).queue=[]:=by
 rw[List.foldl_cons,List.foldl_cons,List.foldl_nil,Ab,bO];refine⟨rfl,?_⟩;split;·rfl
 ·exact(h.down (by simpa using(by assumption:¬v.up=tA))).1
theorem Zu.nowait(h:Zu D v)(hq:v.queue=[])(s:Nat):v.waits s=tC:=by
 cases e:v.waits s with|false=>rfl|true=>have:=(h.wait s).mp e;rw[hq]at this;cases this
end
section
structure Se where
  begun : Bool
  start : Int
  writes : List Q6
structure Md where
  ses : Nat -> Se
  states : List FL
variable{D:List UInt8->List UInt8}{v:Sv}{m:Md}
theorem qF(v:Sv)(n:Nat):Zb (Qy v n):=UR _ _ Kg
end
section
variable{D:List UInt8->List UInt8}{v:Sv}{m:Md}
theorem BA{r:Rq}(hr:JG r)(hk:r.kind=2∨r.kind=3):(1<=r.name.length∧r.name.length<=8)∧(1<=r.key.length∧r.key.length<=16):=by
 have:QS r.kind=tA:=by rcases hk with e|e<;>rw[e]<;>decide
 exact⟨hr.name this,hr.key this⟩
end
def OS:Prop:=∀(w:L)(v u:N)(t:Tx)(l:List XJ),zK w v t->jE t->Js w u l->Lf l->Calls tB 94 #[v,u] w fun e w'=>e=tJ (sS #[tQ (Ud t l),tE tH (Ec t)])∧Y w w' M
def mN:Prop:=∀(w:L)(v:N)(c:XJ),Ks w v c->M3 c->Calls tB 124 #[v] w fun e w'=>∃x,e=tJ (sS #[x,tE tH (QW c)])∧Qe w' x (Ei c)∧Y w w' M
def Iw:Prop:=∀(w:L)(v:N)(c:XJ),Ks w v c->M3 c->Calls tB 133 #[v] w fun e w'=>e=tJ (tE tH (QW c))∧Y w w' M
theorem RZ(w:L):(sizeOf (tB.elem 25)).run tB w=.ok 1 w:=by
 kernel_rfl
theorem Qe.cap{w:L}{a:Option Addr}{n cap:Nat}{bs:List UInt8}(h:Qe w (S a n cap) bs):bs.length<=cap∧n=bs.length:=by
 obtain⟨d,b,e,c,_⟩:=h;simp only[tK]at e;obtain⟨_,rfl,rfl⟩:=e;exact⟨c,rfl⟩
theorem Qe.byte{w:L}{a:Option Addr}{n cap:Nat}{bs:List UInt8}(h:Qe w (S a n cap) bs)(i:Nat)(hi:i<bs.length):∃b o,a=O ⟨b,o,M⟩∧K7 w b o bs:=by
 obtain⟨d,c,e,f,h⟩:=h;simp only[tK]at e;obtain⟨rfl,rfl,rfl⟩:=e;rcases h with⟨rfl,_⟩|⟨b,o,rfl,h⟩;·simp at hi
 ·exact⟨b,o,rfl,h⟩
theorem Qe.sliced{w:L}{a:Option Addr}{cap:Nat}{l:List UInt8}(h:Qe w (S a l.length cap) l)(i j:Nat)(hij:i<=j)(hj:j<=l.length):Qe w (Go.sliced a i j cap 1) ((l.take j).drop i):=by
 obtain⟨m,f,e,n,h⟩:=h;simp only[tK,true_and]at e;obtain⟨rfl,rfl⟩:=e;have c:((l.take j).drop i).length=j-i:=by simp;omega
 refine⟨if cap=i then a else a.map (·.add (i*1)),cap-i,by rw[c];rfl,by rw[c];omega,?_⟩;by_cases d:cap=i;·left;exact⟨tN (by rw[c];omega),fun _=>by omega⟩
 ·rw[if_neg d];rcases h with⟨rfl,h⟩|⟨b,o,rfl,h⟩;(·left;refine⟨by simp,fun e=>?_⟩;cases a with|none=>have:=h rfl;simp at hj;omega|some x=>cases e);·right;refine⟨b,o+i,by simp[Xc],fun k g=>?_⟩;rw[c]at g;have:=h (i+k) (by omega);(have e:((l.take j).drop i).getD k 0=l.getD (i+k) 0:=by simp[show i+k<j by omega]);rw[e,show o+i+k=o+(i+k)by omega];exact this
theorem yZ(a:Option Addr)(cap:Nat)(l:List UInt8)(n:Nat)(hn:n<=l.length)(hc:l.length<=cap):∃a1 c1,(∀W,(Instr.slice 25 (S a l.length cap) M (O (tE tH (n:Int))) M).run tB W=.ok (S a1 n c1) W)∧∀W,Qe W (S a l.length cap) l->Qe W (S a1 n c1) (l.take n):=by
 refine⟨if cap=0then a else a.map (·.add (0*1)),cap-0,fun W=>?_,fun W h=>?_⟩;·rw[run_slice_h _ _ _ _ _ (by kernel_rfl) _ _ (by omega) (by omega),RZ];simp only[Result.andThen,Go.sliced,Int.toNat_natCast,Nat.sub_zero]
 ·have:=h.sliced 0 n (by omega) hn;simpa only[Go.sliced,List.drop_zero,Nat.sub_zero]using this
theorem zC(a:Option Addr)(cap:Nat)(l:List UInt8)(i j:Nat)(hij:i<=j)(hj:j<=l.length)(hc:l.length<=cap):∃a1 c1,(∀W,(Instr.slice 25 (S a l.length cap) (O (tE tH (i:Int))) (O (tE tH (j:Int))) M).run tB W=.ok (S a1 (j-i) c1) W)∧∀W,Qe W (S a l.length cap) l->Qe W (S a1 (j-i) c1) ((l.take j).drop i):=by
 refine⟨if cap=i then a else a.map (·.add (i*1)),cap-i,fun W=>?_,fun W h=>?_⟩;·rw[run_slice_lh _ _ _ _ _ (by kernel_rfl) _ _ _ _ (by omega) (by omega) (by omega),RZ];simp only[Result.andThen,Go.sliced,Int.toNat_natCast]
 ·have:=h.sliced i j hij hj;simpa only[Go.sliced]using this
theorem Gx(a:Option Addr)(cap:Nat)(l:List UInt8)(n:Nat)(hn:n<=l.length):∃a1 c1,(∀W,(Instr.slice 25 (S a l.length cap) (O (tE tH (n:Int))) M M).run tB W=.ok (S a1 (l.length-n) c1) W)∧∀W,Qe W (S a l.length cap) l->Qe W (S a1 (l.length-n) c1) (l.drop n):=by
 refine⟨if cap=n then a else a.map (·.add (n*1)),cap-n,fun W=>?_,fun W h=>?_⟩;·rw[run_slice_l _ _ _ _ _ (by kernel_rfl) _ _ (by omega) (by omega),RZ];simp only[Result.andThen,Go.sliced,Int.toNat_natCast]
 ·have:=h.sliced n l.length hn (sK _);simpa only[Go.sliced,sN]using this
theorem BE{ws:List Q6}(hn:ws.length<=1000)(h:∀w∈ws,QA w=0):Pd ws:=⟨by
 omega,fun j b=>by
 have a:=h ws[j] (List.getElem_mem b);rw[show ws[j]=ws.getD j Qp by simp[b]]at a;have c:=(XV _).1 a;have d:(ws.getD j Qp).value.length<=32:=by have:=c.2.2;split at this;(·rw[this];simp);·exact this
 exact⟨by omega,by omega,by omega⟩⟩
theorem CO{c:XJ}(h:QW c=0):M3 c:=by
 obtain⟨b,d,a⟩:=(Ug c).1 h;exact⟨by omega,BE (by omega) a⟩
def aI:Prop:=∀(w:L)(v u a b c:N)(l:FL)(t:Tx)(n k m:List UInt8),ZX w v l->G2 l->zK w u t->jE t->Qe w a n->Qe w b k->Qe w c m->n.length<=140737488355328->k.length<=140737488355328->m.length<=140737488355328->Calls tB 73 #[v,u,a,b,c] w fun e w'=>∃x,e=tJ (sS #[x,tE tH (KW l t n k m)])∧QL 0 w' x (GF l t n k m)∧Y w w' M
def bN:Prop:=∀(w:L)(v u x:N)(l:PL)(f t:List UInt8),Qo w v l->Qe w u f->Qe w x t->vA l->f.length<=140737488355328->t.length<=140737488355328->Calls tB 113 #[v,u,x] w fun e w'=>∃y,e=tJ (sS #[y,tE tH (YK l f t)])∧QL 0 w' y (Uf l f t)∧Y w w' M
def aJ:Prop:=∀(w:L)(v r u t:N)(l:FL)(n k m:List UInt8),ZX w v l->Qe w r n->Qe w u k->Qe w t m->G2 l->n.length<=140737488355328->k.length<=140737488355328->m.length<=140737488355328->Calls tB 87 #[v,r,u,t] w fun e w'=>∃x,e=tJ (sS #[x,tE tH (YN l n k m)])∧QL 0 w' x (KH l n k m)∧Y w w' M
def Do:Prop:=∀(w:L)(v:N)(bs:List UInt8)(i:Int),Qe w v bs->Calls tB 45 #[v,tE tH i] w fun e w'=>e=tJ (sS #[tQ (PA bs i).1,tE tH (PA bs i).2])∧Y w w' M
theorem Do.of(hB:Do)(w:L)(v:N)(k:List UInt8)(i:Nat)(hv:Qe w v k)(hk:1<=k.length∧k.length<=16)(hi:i<145):Calls tB 45 #[v,tE tH (i:Int)] w fun e w'=>e=tJ (sS #[tQ (ZG k i),tE tH 0])∧Y w w' M:=by
 have:=hB w v k i hv;rw[lH k i hk hi]at this;exact this
def Nu:Prop:=∀(w:L)(v u:N)(a b:List UInt8),Qe w v a->Qe w u b->Calls tB 49 #[v,u] w fun e w'=>e=tJ (sS #[tE tH (Rz a b).1,tE tH (Rz a b).2])∧Y w w' M
theorem Nu.of(hP:Nu)(w:L)(v u:N)(a b:List UInt8)(hv:Qe w v a)(hu:Qe w u b)(ha:1<=a.length∧a.length<=16)(hb:1<=b.length∧b.length<=16):Calls tB 49 #[v,u] w fun e w'=>e=tJ (sS #[tE tH (Kb a b),tE tH 0])∧Y w w' M:=by
 have:=hP w v u a b hv hu;rw[eM a b ha hb]at this;exact this
def Hu:Prop:=∀(w:L)(v u:N)(t:Tx)(r:Q6),zK w v t->jE t->Xh w u r->Y1 r->Calls tB 75 #[v,u] w fun e w'=>∃x,e=tJ (sS #[x,tE tH (Z4 t r)])∧zD w' x (Ye t r)∧Y w w' M
def IH:Prop:=∀(w:L)(v:N)(r:Rq),UA w->JY w v r->kG r->Calls tB 74 #[v] w fun e w'=>∃x,e=tJ (sS #[x,tE tH (YZ r)])∧Xh w' x (QY r)∧Y w w' M
def eP:Prop:=∀(w:L)(n t:Int),-9223372036854775808<=n->n<=9223372036854775807->-9223372036854775808<=t->t<=9223372036854775807->Calls tB 70 #[tE tH n,tE tH t] w fun e w'=>e=tJ (tQ (Jg n t))∧Y w w' M
def iQ:Prop:=∀(w:L)(v:N)(b:List UInt8),UA w->Qe w v b->b.length<=140737488355328->Calls tB 52 #[v] w fun e w'=>∃x,e=tJ (sS #[x,tE tH (XO b)])∧JY w' x (Y6 b)∧Y w w' M
theorem aQ(b:List UInt8)(n:Nat)(h:n<b.length):ZD (b.drop n)=if n+1+(b.getD n 0).toNat<=b.length then O ((b.take (n+1+(b.getD n 0).toNat)).drop (n+1),b.drop (n+1+(b.getD n 0).toNat))else M:=by
 rw[List.drop_eq_getElem_cons h,ZD,show b[n]=b.getD n 0 by simp[h],List.length_drop];by_cases a:n+1+(b.getD n 0).toNat<=b.length;·rw[if_pos (by omega),if_pos a,List.drop_take,List.drop_drop,Nat.add_sub_cancel_left]
 ·rw[if_neg (by omega),if_neg a]
def Nb(ws:List Q6):Prop:=∀p∈ws,p.name.length<=255∧p.key.length<=255∧p.value.length<=255
theorem AX{ws:List Q6}{p:Q6}(h:Nb ws)(hp:p.name.length<=255∧p.key.length<=255∧p.value.length<=255):Nb (ws++[p]):=fun q a=>by
 rcases sI.1 a with a|a;·exact h q a
 ·simp only[tP,tR,or_false]at a;rw[a];exact hp
theorem OJ{b:List UInt8}(h:4000<b.length):YS b=1∧JZ b=Zq:=by
 have:YS b=1:=by rw[YS,if_pos h]
 exact⟨this,by rw[JZ,this,if_neg (by decide)]⟩
theorem Hr{b:List UInt8}(h:b.length<4):YS b=14∧JZ b=Zq:=by
 have:YS b=14:=by rw[YS,if_neg (by omega),if_pos h]
 exact⟨this,by rw[JZ,this,if_neg (by decide)]⟩
theorem IJ{b:List UInt8}(h1:¬4000<b.length)(h2:¬b.length<4)(h:zP b=M):YS b=14∧JZ b=Zq:=by
 have:YS b=14:=by rw[YS,if_neg h1,if_neg h2,h]
 exact⟨this,by rw[JZ,this,if_neg (by decide)]⟩
theorem Iu{b r:List UInt8}{ws:List Q6}(h1:¬4000<b.length)(h2:¬b.length<4)(h:zP b=O (ws,r))(hr:r.length≠0):YS b=4∧JZ b=Zq:=by
 have:YS b=4:=by rw[YS,if_neg h1,if_neg h2,h];show(if r.length=0then _ else(4:Int))=4;rw[if_neg hr]
 exact⟨this,by rw[JZ,this,if_neg (by decide)]⟩
theorem O6{b r:List UInt8}{ws:List Q6}(h1:¬4000<b.length)(h2:¬b.length<4)(h:zP b=O (ws,r))(hr:r.length=0):YS b=QW ⟨(GQ b:Int),ws⟩∧(YS b=0->JZ b=⟨(GQ b:Int),ws⟩)∧(YS b≠0->JZ b=Zq):=by
 have:YS b=QW ⟨(GQ b:Int),ws⟩:=by rw[YS,if_neg h1,if_neg h2,h];show(if r.length=0then _ else(4:Int))=_;rw[if_pos hr]
 refine⟨this,fun a=>?_,fun a=>?_⟩;·rw[JZ,if_pos a,h]
 ·rw[JZ,if_neg a]
def Xn(k:Int)(m:Nat)(p0 p1 p2 p3 r:List UInt8):Option (Rq×List UInt8):=match m with|0=>Yl k r|1=>VT k p0 r|2=>VW k p0 p1 r|3=>VU k p0 p1 p2 r|_=>O (⟨k,p0,p1,p2,p3⟩,r)
theorem Kr(r:List UInt8):Jz tA r=ZD r:=rfl
theorem kR(r:List UInt8)(h:r.length=0):ZD r=M:=by
 rw[tN h];rfl
theorem Pf(r:List UInt8)(h:0<r.length):ZD r=if 1+(r.getD 0 0).toNat<=r.length then O ((r.take (1+(r.getD 0 0).toNat)).drop 1,r.drop (1+(r.getD 0 0).toNat))else M:=by
 have:=aQ r 0 h;rw[Nat.zero_add]at this;exact this
theorem zZ(k:Int)(p0 p1 p2 p3 r:List UInt8):(QQ k 0=tC->Xn k 0 p0 p1 p2 p3 r=Xn k 1 [] p1 p2 p3 r)∧(QQ k 1=tC->Xn k 1 p0 p1 p2 p3 r=Xn k 2 p0 [] p2 p3 r)∧(QQ k 2=tC->Xn k 2 p0 p1 p2 p3 r=Xn k 3 p0 p1 [] p3 r)∧(QQ k 3=tC->Xn k 3 p0 p1 p2 p3 r=Xn k 4 p0 p1 p2 [] r):=by
 refine⟨fun h=>?_,fun h=>?_,fun h=>?_,fun h=>?_⟩;·show Yl k r=VT k [] r;rw[Yl,show QS k=tC from h];rfl
 ·show VT k p0 r=VW k p0 [] r;rw[VT,show QS k=tC from h];rfl
 ·show VW k p0 p1 r=VU k p0 p1 [] r;rw[VW,show tV (k=3)=tC from h];rfl
 ·show VU k p0 p1 p2 r=O (⟨k,p0,p1,p2,[]⟩,r);rw[VU,show tV (k=4)=tC from h];rfl
theorem GS(k:Int)(p0 p1 p2 p3 r:List UInt8)(h0:ZD r=M)(m:Nat)(hm:m<4)(h:QQ k m=tA):Xn k m p0 p1 p2 p3 r=M:=by
 match m,hm with|0,_=>show Yl k r=M;rw[Yl,show QS k=tA from h,Kr,h0]|1,_=>show VT k p0 r=M;rw[VT,show QS k=tA from h,Kr,h0]|2,_=>show VW k p0 p1 r=M;rw[VW,show tV (k=3)=tA from h,Kr,h0]|3,_=>show VU k p0 p1 p2 r=M;rw[VU,show tV (k=4)=tA from h,Kr,h0]
theorem GW(k:Int)(p0 p1 p2 p3 r p r2:List UInt8)(h0:ZD r=O (p,r2)):(QQ k 0=tA->Xn k 0 p0 p1 p2 p3 r=Xn k 1 p p1 p2 p3 r2)∧(QQ k 1=tA->Xn k 1 p0 p1 p2 p3 r=Xn k 2 p0 p p2 p3 r2)∧(QQ k 2=tA->Xn k 2 p0 p1 p2 p3 r=Xn k 3 p0 p1 p p3 r2)∧(QQ k 3=tA->Xn k 3 p0 p1 p2 p3 r=Xn k 4 p0 p1 p2 p r2):=by
 refine⟨fun h=>?_,fun h=>?_,fun h=>?_,fun h=>?_⟩;·show Yl k r=VT k p r2;rw[Yl,show QS k=tA from h,Kr,h0]
 ·show VT k p0 r=VW k p0 p r2;rw[VT,show QS k=tA from h,Kr,h0]
 ·show VW k p0 p1 r=VU k p0 p1 p r2;rw[VW,show tV (k=3)=tA from h,Kr,h0]
 ·show VU k p0 p1 p2 r=O (⟨k,p0,p1,p2,p⟩,r2);rw[VU,show tV (k=4)=tA from h,Kr,h0]
def OM(k:Int)(b:List UInt8):Int:=match Yl k b with|none=>14|O (_,x)=>if x.length=0then 0 else 4
def Ej(k:Int)(b:List UInt8):Rq:=match Yl k b with|none=>GM|O (r,x)=>if x.length=0then r else GM
theorem Rm{k:Int}{b:List UInt8}(h:Yl k b=M):OM k b=14∧Ej k b=GM:=by
 unfold OM Ej;rw[h];exact⟨rfl,rfl⟩
theorem Rs{k:Int}{b x:List UInt8}{r:Rq}(h:Yl k b=O (r,x))(hx:0<x.length):OM k b=4∧Ej k b=GM:=by
 unfold OM Ej;rw[h];exact⟨if_neg (by omega),if_neg (by omega)⟩
theorem Rl{k:Int}{b x:List UInt8}{r:Rq}(h:Yl k b=O (r,x))(hx:x.length=0):OM k b=0∧Ej k b=r:=by
 unfold OM Ej;rw[h];exact⟨if_pos hx,if_pos hx⟩
theorem lR{k:Int}{b:List UInt8}(h:OM k b=0):(Ej k b).kind=k:=by
 match hD:Yl k b with|none=>rw[(Rm hD).1]at h;cases h|O (r,x)=>by_cases a:x.length=0;(·rw[(Rl hD a).2];exact(Eh hD).2);·rw[(Rs hD (by omega)).1]at h;cases h
theorem lL{b:List UInt8}(h1:¬4000<b.length)(h2:¬b.length=0)(hk:1<=UT b∧UT b<=8):XO b=(if OM (UT b) (b.drop 1)=0then Yp (Ej (UT b) (b.drop 1))else OM (UT b) (b.drop 1))∧(XO b=0->Y6 b=Ej (UT b) (b.drop 1)):=by
 match hD:Yl (UT b) (b.drop 1)with|none=>obtain⟨a,d⟩:=Rm hD;(have:XO b=14:=by rw[XO,if_neg h1,if_neg h2,if_pos hk,hD]);rw[a,this];exact⟨rfl,fun h=>by cases h⟩|O (r,x)=>(have c:XO b=if x.length=0then Yp r else 4:=by rw[XO,if_neg h1,if_neg h2,if_pos hk,hD]);by_cases e:x.length=0;(·obtain⟨a,d⟩:=Rl hD e;rw[if_pos e]at c;rw[a,d,if_pos rfl];exact⟨c,fun h=>by rw[Y6,if_pos h,hD]⟩);·obtain⟨a,d⟩:=Rs hD (by omega);rw[if_neg e]at c;rw[a,c];exact⟨rfl,fun h=>by cases h⟩
theorem iR{k:Int}{b:List UInt8}(hb:b.length<=4000):(Ej k b).name.length<=4000∧(Ej k b).key.length<=4000∧(Ej k b).last.length<=4000∧(Ej k b).value.length<=4000:=by
 match hD:Yl k b with|none=>rw[(Rm hD).2];simp[GM]|O (r,x)=>by_cases j:x.length=0;(·rw[(Rl hD j).2];obtain⟨_,q,a,s,e,f,g,i⟩:=vW hD;(have key:∀{c:Bool}{r p a:List UInt8},Jz c r=O (p,a)->p.length<=r.length∧a.length<=r.length:=by intro c r p a h;have d:=Gu h;cases c with|false=>have:=O0 h rfl;subst this;rw[d];exact⟨tU _,by simp[Xq]⟩|true=>rw[d];simp[Xq,XS];omega);have l:=key e;have m:=key f;have n:=key g;have o:=key i;omega);·rw[(Rs hD (by omega)).2];simp[GM]
theorem D5{w:L}{o:Oper}{a:Act}{K:Act->L->Prop}{Q:Exit->Act->L->Prop}(s x:Operand)(ho:o.op=.call {callee:=.builtin .append,args:=#[s,x],argTypes:=#[29,29]})(rb:Nat)(v:N)(l:List Ac)(hs:a.eval s=v)(hown:J7 rb w v l)(vd:N)(r:Ac)(h1:Qh 0 w vd r.data)(nb:Nat)(hb:w.heap[nb]?=O (tD #[tE tH r.kind,tE tH r.sess,tE tH r.keep,vd] 32))(hx:a.eval x=S (O ⟨nb,0,M⟩) 1 1)(hl:(l.length+1)*48<=140737488355328)(hbase:rb<=w.heap.size)(h:∀v' w',J7 rb w' v' (l++[r])->Y w w' v.ownBlock->K (a.put o.dst v') w'):o.wp tB a w K Q:=by
 obtain⟨C,z,j,k,m⟩:=info_parts Nk;have b:v.ownBlock=M∨∃g c t f,v.ownBlock=O g∧0<=g∧w.heap[g]?=O (tD c t f)∧t≠5:=by rcases hown.row with h|⟨g,c,f,e,_,h⟩;(·exact .inl h);·exact .inr ⟨g,c,_,f,e,tU _,h,eS⟩
 obtain⟨q,i,B,A⟩:=hown;refine wp_append_lies w s x 29 ho rb 32 C (.agg #[tE tH 0,tE tH 0,tE tH 0,S M 0 0]) 4 48 Tryz.underlying29 z j k m rfl (by decide) v l.length (Y9 q) hs B ⟨nb,0,M⟩ 1 1 (Y9 [(r,vd)]) hx rfl (World.news_of_block (cs:=#[tE tH r.kind,tE tH r.sess,tE tH r.keep,vd]) hb) ?_ (by omega) (by unfold maxLen;omega) hl hbase _ rfl ?_;·intro u p;simp only[Y9,tS,List.flatMap_nil,List.append_nil,tP,tR,or_false]at p;rcases p with rfl|rfl|rfl|rfl;(·rfl);(·rfl);(·rfl);·exact ZH h1
 ·intro g cap w' D n _ _;refine h _ w' ⟨q++[(r,vd)],by simp[i],?_,?_⟩ n;(·rw[PY,tG];exact D);·intro y d;rcases sI.1 d with d|d;(·exact(A y d).keptT n b);·simp only[tP,tR,or_false]at d;subst d;exact h1.keptT n b
theorem Fu{w:L}{ops:Array Oper}{rest:List Oper}{o:Oper}{a:Act}{Q:Exit->Act->L->Prop}(hgd:o.guard=M)(s x:Operand)(ho:o.op=.call {callee:=.builtin .append,args:=#[s,x],argTypes:=#[29,29]})(rb:Nat)(v:N)(l:List Ac)(hs:a.eval s=v)(hown:J7 rb w v l)(vd:N)(r:Ac)(h1:Qh 0 w vd r.data)(nb:Nat)(hb:w.heap[nb]?=O (tD #[tE tH r.kind,tE tH r.sess,tE tH r.keep,vd] 32))(hx:a.eval x=S (O ⟨nb,0,M⟩) 1 1)(hl:(l.length+1)*48<=140737488355328)(hbase:rb<=w.heap.size)(h:∀v' w',J7 rb w' v' (l++[r])->Y w w' v.ownBlock->wpList tB ops Q rest (a.put o.dst v') w'):wpList tB ops Q (o::rest) a w:=wpList_plain hgd fun _ c=>D5 s x ho rb v l hs hown vd r h1 nb hb hx hl hbase fun v' w' h1 b=>c _ _ (h v' w' h1 b)
def gG:Prop:=∀(w:L)(u v:N)(k:List UInt8)(p:GU),Qe w u k->Xo w v p->kL p->Calls tB 23 #[u,v] w fun e w'=>e=tJ (tE tH (Yg k p))∧Y w w' M
section
variable{D:List UInt8->List UInt8}{v:Sv}
theorem WI(hD:∀x,(D x).length=4):∀(cs:List XJ),(∀c∈cs,QW c=0)->(QU D cs).length<=600*cs.length|[],_=>by simp[QU]|c::cs,h=>by have b:=(kE hD (h c List.mem_cons_self)).2;have d:=WI hD cs (fun x a=>h x (sQ _ a));(have e:QU D (c::cs)=ZK D c++QU D cs:=by simp[QU]);rw[e,tG,sM];omega
theorem Zu.each(h:Zu D v):∀c∈v.commits,QW c=0:=fun c b=>by
 obtain⟨i,a,e⟩:=List.getElem_of_mem b;have:=(h.goes.at i a).1;rw[List.getD_eq_getElem?_getD,List.getElem?_eq_getElem a,e]at this;exact this
theorem gX(hD:∀x,(D x).length=4)(h:Zu D v){s:Nat}(hb:v.begun s=tA)(hw:¬(v.txns s).writes.length=0):VC D v.tape (Yk v s)=0:=by
 have c:=h.many;have a:QW (Yk v s)=0:=TN (h.tx s hb).1 hw v.commits.length c;have d:=(kE hD a).2;have e:=WI hD v.commits h.each;have b:=h.data;rw[VC,if_pos h.may,if_pos a,if_neg (by rw[b];omega)]
end
def X8(r:Rq):Nat->List UInt8|0=>[UInt8.ofNat r.kind.toNat]|1=>[UInt8.ofNat r.kind.toNat]++Xq (QQ r.kind 0) r.name|2=>[UInt8.ofNat r.kind.toNat]++Xq (QQ r.kind 0) r.name++Xq (QQ r.kind 1) r.key|3=>[UInt8.ofNat r.kind.toNat]++Xq (QQ r.kind 0) r.name++Xq (QQ r.kind 1) r.key++Xq (QQ r.kind 2) r.last|_=>[UInt8.ofNat r.kind.toNat]++Xq (QQ r.kind 0) r.name++Xq (QQ r.kind 1) r.key++Xq (QQ r.kind 2) r.last++Xq (QQ r.kind 3) r.value
theorem OE(r:Rq):X8 r 4=Jk r:=by
 show[UInt8.ofNat r.kind.toNat]++Xq (QS r.kind) r.name++Xq (QS r.kind) r.key++Xq (tV (r.kind=3)) r.last++Xq (tV (r.kind=4)) r.value=_;rw[Jk,zL];simp[List.append_assoc]
theorem IS{r:Rq}(h:JG r)(m:Nat):(X8 r m).length<=200:=by
 have a:r.name.length<=8:=by by_cases e:QS r.kind=tA;(·exact(h.name e).2);·rw[h.noName (by simpa using e)];simp
 have b:r.key.length<=16:=by by_cases e:QS r.kind=tA;(·exact(h.key e).2);·rw[h.noKey (by simpa using e)];simp
 have c:r.last.length<=16:=by by_cases e:r.kind=3;(·exact(h.last e).2);·rw[h.noLast e];simp
 have d:=h.value;have f:=Um (QQ r.kind 0) r.name;have g:=Um (QQ r.kind 1) r.key;have i:=Um (QQ r.kind 2) r.last;have j:=Um (QQ r.kind 3) r.value;match m with|0=>simp[X8]|1=>simp only[X8,tG,sJ];omega|2=>simp only[X8,tG,sJ];omega|3=>simp only[X8,tG,sJ];omega|m+4=>simp only[X8,tG,sJ];omega
structure V2 where
  rest : List UInt8
  short : Bool
def T7(r:V2)(n:Nat):List UInt8:=if r.short=tA∨r.rest.length<n then[]else r.rest.take n
def SD(r:V2)(n:Nat):V2:=if r.short=tA∨r.rest.length<n then⟨r.rest,tA⟩else⟨r.rest.drop n,tC⟩
theorem Ry{r:V2}{n:Nat}(h:r.short=tA∨r.rest.length<n):T7 r n=[]∧SD r n=⟨r.rest,tA⟩:=⟨if_pos h,if_pos h⟩
theorem P7{r:V2}{n:Nat}(h:¬(r.short=tA∨r.rest.length<n)):T7 r n=r.rest.take n∧SD r n=⟨r.rest.drop n,tC⟩:=⟨if_neg h,if_neg h⟩
theorem iI(r:V2)(n:Nat):(T7 r n).length<=n:=by
 unfold T7;split;·simp
 ·rw[List.length_take];omega
def Xl(r:V2):V2:=SD r 1
def J4(r:V2):Nat:=if(Xl r).short=tA then 0 else((T7 r 1).getD 0 0).toNat
theorem Yv(r:V2):J4 r<256:=by
 unfold J4;split;·omega
 ·exact((T7 r 1).getD 0 0).toNat_lt
theorem Ja(x:UInt8)(l:List UInt8):Xl ⟨x::l,tC⟩=⟨l,tC⟩∧J4 ⟨x::l,tC⟩=x.toNat:=by
 have h:¬((⟨x::l,tC⟩:V2).short=tA∨(⟨x::l,tC⟩:V2).rest.length<1):=by simp
 obtain⟨b,c⟩:=P7 h;have a:Xl ⟨x::l,tC⟩=⟨l,tC⟩:=c;refine⟨a,?_⟩;rw[J4,a,b,if_neg (by simp)];rfl
theorem Fy{r:V2}(h:r.short=tA)(n:Nat):(SD r n).short=tA:=by
 rw[(Ry (.inl h)).2]
theorem KF{r:V2}(h:r.short=tA):(Xl r).short=tA:=Fy h 1
theorem kK:(Xl ⟨[],tC⟩).short=tA:=rfl
def Wy(r:V2):List UInt8:=T7 (Xl r) (J4 r)
def K6(r:V2):V2:=SD (Xl r) (J4 r)
theorem Gj{r:V2}(h:r.short=tA):(K6 r).short=tA:=Fy (KF h) _
theorem Fj{l p l2:List UInt8}(h:ZD l=O (p,l2)):Wy ⟨l,tC⟩=p∧K6 ⟨l,tC⟩=⟨l2,tC⟩:=by
 cases l with|nil=>cases h|cons x l=>rw[ZD]at h;obtain⟨b,c⟩:=Ja x l;unfold Wy K6;rw[b,c];by_cases a:x.toNat<=l.length;(·rw[if_pos a]at h;simp only[tF,Prod.mk.injEq]at h;obtain⟨rfl,rfl⟩:=h;exact P7 (by simp;omega));·rw[if_neg a]at h;cases h
theorem Rn{l:List UInt8}(h:ZD l=M):(K6 ⟨l,tC⟩).short=tA:=by
 cases l with|nil=>exact Fy kK _|cons x l=>rw[ZD]at h;obtain⟨a,b⟩:=Ja x l;unfold K6;rw[a,b];by_cases c:x.toNat<=l.length;(·rw[if_pos c]at h;cases h);·rw[(Ry (.inr (by show l.length<x.toNat;omega))).2]
theorem E5(r:V2):(Wy r).length<=255:=tT (iI _ _) (Nat.le_of_lt_succ (Yv r))
def RG(r:V2):Q6:=if J4 (K6 (K6 r))=255then⟨Wy r,Wy (K6 r),[],tA⟩else⟨Wy r,Wy (K6 r),Wy (K6 (K6 r)),tC⟩
def Sr(r:V2):V2:=if J4 (K6 (K6 r))=255then Xl (K6 (K6 r))else K6 (K6 (K6 r))
theorem Ae{r:V2}(h:r.short=tA):(Sr r).short=tA:=by
 unfold Sr;split;·exact KF (Gj (Gj h))
 ·exact Gj (Gj (Gj h))
theorem EP{r:V2}(h:(K6 (K6 r)).short=tA):(Sr r).short=tA:=by
 unfold Sr;split;·exact KF h
 ·exact Gj h
theorem lN{l l2:List UInt8}{p:Q6}(h:Jt l=O (p,l2)):RG ⟨l,tC⟩=p∧Sr ⟨l,tC⟩=⟨l2,tC⟩:=by
 unfold Jt at h;cases h1:ZD l with|none=>rw[h1]at h;cases h|some q=>obtain⟨n,f⟩:=q;rw[h1]at h;have h:Cf n f=O (p,l2):=h;unfold Cf at h;obtain⟨g,i⟩:=Fj h1;cases h2:ZD f with|none=>rw[h2]at h;cases h|some q=>obtain⟨k,a⟩:=q;rw[h2]at h;have h:Pw n k a=O (p,l2):=h;unfold Pw at h;obtain⟨j,m⟩:=Fj h2;unfold RG Sr;rw[g,i,j,m];cases a with|nil=>cases h|cons x a=>obtain⟨o,d⟩:=Ja x a;by_cases c:(x::a).head?=O 255;(·rw[if_pos c]at h;simp only[tF,Prod.mk.injEq]at h;obtain⟨rfl,rfl⟩:=h;have:x=255:=Option.some.inj c;subst this;rw[d,o,if_pos (by rfl),if_pos (by rfl)];exact⟨rfl,rfl⟩);·rw[if_neg c]at h;have b:¬x.toNat=255:=fun e=>c (by rw[show x=255from UInt8.toNat_inj.1 e];rfl);rw[d,if_neg b,if_neg b];cases h3:ZD (x::a)with|none=>rw[h3]at h;cases h|some q=>obtain⟨v,t⟩:=q;rw[h3]at h;simp only[tF,Prod.mk.injEq]at h;obtain⟨rfl,rfl⟩:=h;obtain⟨r,s⟩:=Fj h3;rw[r,s];exact⟨rfl,rfl⟩
theorem iX{l:List UInt8}(h:Jt l=M):(Sr ⟨l,tC⟩).short=tA:=by
 unfold Jt at h;cases h1:ZD l with|none=>exact EP (Gj (Rn h1))|some q=>obtain⟨n,f⟩:=q;rw[h1]at h;have h:Cf n f=M:=h;unfold Cf at h;obtain⟨j,d⟩:=Fj h1;cases h2:ZD f with|none=>exact EP (by rw[d];exact Rn h2)|some q=>obtain⟨k,a⟩:=q;rw[h2]at h;have h:Pw n k a=M:=h;unfold Pw at h;obtain⟨m,g⟩:=Fj h2;unfold Sr;rw[d,g];cases a with|nil=>split;(·exact kK);·exact Rn rfl|cons x a=>obtain⟨o,i⟩:=Ja x a;by_cases c:(x::a).head?=O 255;(·rw[if_pos c]at h;cases h);·rw[if_neg c]at h;have b:¬x.toNat=255:=fun e=>c (by rw[show x=255from UInt8.toNat_inj.1 e];rfl);rw[i,if_neg b];cases h3:ZD (x::a)with|none=>exact Rn h3|some q=>obtain⟨v,p⟩:=q;rw[h3]at h;cases h
theorem dG(r:V2):(RG r).name.length<=255∧(RG r).key.length<=255∧(RG r).value.length<=255:=by
 unfold RG;split;·exact⟨E5 _,E5 _,by simp⟩
 ·exact⟨E5 _,E5 _,E5 _⟩
def U9:Nat->V2->V2|0,r=>r|n+1,r=>Sr (U9 n r)
def U2:Nat->V2->List Q6|0,_=>[]|n+1,r=>U2 n r++[RG (U9 n r)]
theorem Co:∀(n:Nat)(r:V2),(U2 n r).length=n|0,_=>rfl|n+1,r=>by rw[U2,tG,Co n r];rfl
theorem MI:∀(n:Nat)(r:V2),Nb (U2 n r)|0,_=>fun p a=>by simp[U2]at a|n+1,r=>AX (MI n r) (dG _)
theorem MD:∀(n:Nat){r:V2},r.short=tA->(U9 n r).short=tA|0,_,h=>h|n+1,_,h=>Ae (MD n h)
theorem P6:∀(n:Nat){l l2:List UInt8}{ws:List Q6},ZY n l=O (ws,l2)->U2 n ⟨l,tC⟩=ws∧U9 n ⟨l,tC⟩=⟨l2,tC⟩|0,l,l2,ws,h=>by rw[ZY]at h;simp only[tF,Prod.mk.injEq]at h;obtain⟨rfl,rfl⟩:=h;exact⟨rfl,rfl⟩|n+1,l,l2,ws,h=>by rw[jA]at h;cases h1:ZY n l with|none=>rw[h1]at h;cases h|some q=>obtain⟨a,b⟩:=q;rw[h1]at h;have h:(match Jt b with|O (w,r2)=>O (a++[w],r2)|none=>M)=O (ws,l2):=h;obtain⟨e,f⟩:=P6 n h1;cases h2:Jt b with|none=>rw[h2]at h;cases h|some q=>obtain⟨p,g⟩:=q;rw[h2]at h;simp only[tF,Prod.mk.injEq]at h;obtain⟨rfl,rfl⟩:=h;obtain⟨c,d⟩:=lN h2;rw[U2,U9,e,f,c,d];exact⟨rfl,rfl⟩
theorem BM:∀(n:Nat){l:List UInt8},ZY n l=M->(U9 n ⟨l,tC⟩).short=tA|0,l,h=>by rw[ZY]at h;cases h|n+1,l,h=>by rw[jA]at h;cases h1:ZY n l with|none=>exact Ae (BM n h1)|some q=>obtain⟨a,b⟩:=q;rw[h1]at h;have h:(match Jt b with|O (w,r2)=>O (a++[w],r2)|none=>M)=M:=h;obtain⟨d,c⟩:=P6 n h1;cases h2:Jt b with|none=>rw[U9,c];exact iX h2|some q=>obtain⟨p,e⟩:=q;rw[h2]at h;cases h
def Mf(r:V2):V2:=U9 (J4 (Xl (Xl (Xl r)))) (Xl (Xl (Xl (Xl r))))
def Mn(r:V2):XJ:=⟨((65536*J4 r+256*J4 (Xl r)+J4 (Xl (Xl r)):Nat):Int),U2 (J4 (Xl (Xl (Xl r)))) (Xl (Xl (Xl (Xl r))))⟩
theorem Bg(r:V2):Nb (Mn r).writes∧(Mn r).writes.length<=255:=⟨MI _ _,by
 show(U2 _ _).length<=255;rw[Co];exact Nat.le_of_lt_succ (Yv _)⟩
theorem Ik(b:List UInt8)(h:¬b.length<4):J4 ⟨b,tC⟩=(b.getD 0 0).toNat∧J4 (Xl ⟨b,tC⟩)=(b.getD 1 0).toNat∧J4 (Xl (Xl ⟨b,tC⟩))=(b.getD 2 0).toNat∧J4 (Xl (Xl (Xl ⟨b,tC⟩)))=(b.getD 3 0).toNat∧Xl (Xl (Xl (Xl ⟨b,tC⟩)))=⟨b.drop 4,tC⟩:=by
 match b,h with|[],h=>exact absurd (by simp) h|[_],h=>exact absurd (by simp) h|[_,_],h=>exact absurd (by simp) h|[_,_,_],h=>exact absurd (by simp) h|x0::x1::x2::x3::b,_=>obtain⟨a,c⟩:=Ja x0 (x1::x2::x3::b);obtain⟨d,e⟩:=Ja x1 (x2::x3::b);obtain⟨f,g⟩:=Ja x2 (x3::b);obtain⟨i,j⟩:=Ja x3 b;rw[a,d,f,i];exact⟨c,e,g,j,rfl⟩
theorem oW(b:List UInt8)(h:b.length<4):(Mf ⟨b,tC⟩).short=tA:=by
 unfold Mf;refine MD _ ?_;match b,h with|[],_=>exact KF (KF (KF kK))|[x],_=>rw[(Ja x []).1];exact KF (KF kK)|[x,y],_=>rw[(Ja x [y]).1,(Ja y []).1];exact KF kK|[x,y,z],_=>rw[(Ja x [y,z]).1,(Ja y [z]).1,(Ja z []).1];exact kK|_::_::_::_::_,h=>exact absurd h (by simp only[sM];omega)
theorem cZ{b:List UInt8}(h0:¬4000<b.length)(h:(Mf ⟨b,tC⟩).short=tA):YS b=14∧JZ b=Zq:=by
 by_cases a:b.length<4;·exact Hr a
 ·obtain⟨_,_,_,c,d⟩:=Ik b a;cases hb:zP b with|none=>exact IJ h0 a hb|some q=>obtain⟨f,l⟩:=q;obtain⟨_,e⟩:=P6 _ hb;unfold Mf at h;rw[c,d,e]at h;cases h
theorem C5{b:List UInt8}(h:(Mf ⟨b,tC⟩).short=tC):¬b.length<4∧zP b=O ((Mn ⟨b,tC⟩).writes,(Mf ⟨b,tC⟩).rest)∧(GQ b:Int)=(Mn ⟨b,tC⟩).turn:=by
 by_cases a:b.length<4;·rw[oW b a]at h;cases h
 ·obtain⟨e,f,g,c,d⟩:=Ik b a;refine⟨a,?_,?_⟩;(·cases hb:zP b with|none=>have:=BM _ hb;unfold Mf at h;rw[c,d,this]at h;cases h|some q=>obtain⟨k,l⟩:=q;obtain⟨i,j⟩:=P6 _ hb;unfold Mf Mn;rw[c,d,i,j]);·unfold Mn;rw[e,f,g];rfl
theorem mU{b:List UInt8}(h0:¬4000<b.length)(h:(Mf ⟨b,tC⟩).short=tC)(hr:(Mf ⟨b,tC⟩).rest.length≠0):YS b=4∧JZ b=Zq:=by
 obtain⟨a,c,_⟩:=C5 h;exact Iu h0 a c hr
theorem mH{b:List UInt8}(h0:¬4000<b.length)(h:(Mf ⟨b,tC⟩).short=tC)(hr:(Mf ⟨b,tC⟩).rest.length=0):YS b=QW (Mn ⟨b,tC⟩)∧(YS b=0->JZ b=Mn ⟨b,tC⟩)∧(YS b≠0->JZ b=Zq):=by
 obtain⟨a,c,d⟩:=C5 h;have:=O6 h0 a c hr;rw[d]at this;exact this
theorem ZM(w:L)(o:Obj):∃W:L,Hid (W=w.alloc o)∧Y w W M∧Hid (W.heap[w.heap.size]?=O o):=⟨w.alloc o,rfl,sZ _ _ _,heap_alloc_new w o⟩
theorem vD(w:L)(b i:Nat)(u:N):∃W:L,Hid (W=tI w ⟨b,i,M⟩ u)∧Y w W (O b):=⟨_,rfl,YW w b i u⟩
theorem rK:(225:Nat)≠5:=by
 decide
theorem nG:(225:Nat)≠154:=by
 decide
theorem Qe.rdr{w w':L}{b:Nat}{a0:Option Addr}{n0 c0:Nat}{s:Bool}{t:tZ}{v:N}{bs:List UInt8}(h:Qe w v bs)(hb:w.heap[b]?=O (tD #[S a0 n0 c0,tQ s] t))(hg:Y w w' (O b)):Qe w' v bs:=by
 obtain⟨a,cap,rfl,f,h⟩:=h;refine⟨a,cap,rfl,f,?_⟩;rcases h with h|⟨g,o,rfl,h⟩;·exact .inl h
 ·by_cases d:bs=[];(·exact .inl ⟨d,fun e=>by cases e⟩);·refine .inr ⟨g,o,rfl,h.grown hg ?_⟩;intro e;cases e;have c:=h 0 (List.length_pos_iff.2 d);simp only[tW,hb,Nat.add_zero]at c;match o,c with|0,c=>simp at c|1,c=>simp at c|o+2,c=>simp at c
structure Zh (w0 w : L) (b : Nat) (r : V2) : Prop where
  at_ : ∃ a cap, w.heap[b]? = O (tD #[S a r.rest.length cap, tQ r.short] 225) ∧ Qe w0 (S a r.rest.length cap) r.rest
  old : ∃ a n c s, w0.heap[b]? = O (tD #[S a n c, tQ s] 225)
  grown : Y w0 w (O b)
theorem Zh.lt{w0 w:L}{b:Nat}{r:V2}(h:Zh w0 w b r):b<w.heap.size:=by
 obtain⟨a,cap,h,_⟩:=h.at_;exact(tM.1 h).1
theorem Zh.now{w0 w:L}{b:Nat}{r:V2}(h:Zh w0 w b r){v:N}{bs:List UInt8}(hv:Qe w0 v bs):Qe w v bs:=by
 obtain⟨a,n,c,s,d⟩:=h.old;exact hv.rdr d h.grown
theorem Zh.row{w0 w:L}{b:Nat}{r:V2}(h:Zh w0 w b r):O b=M∨∃g cur t fz,O b=O g∧0<=g∧w.heap[g]?=O (tD cur t fz)∧t≠5:=by
 obtain⟨a,cap,h,_⟩:=h.at_;exact .inr ⟨b,_,_,_,rfl,tU _,h,rK⟩
theorem Qh.rdr{w0 w w':L}{b:Nat}{r:V2}{v:N}{bs:List UInt8}(h:Qh 0 w v bs)(hb:Zh w0 w b r)(hg:Y w w' (O b)):Qh 0 w' v bs:=h.keptT hg hb.row
theorem Xz{w w':L}(hg:Y w w' M)(r:Option Nat):Y w w' r:=⟨hg.os,hg.tape,hg.output,hg.size,fun i hi _=>hg.block i hi (by
 simp)⟩
theorem Zh.kept{w0 w w':L}{b:Nat}{r:V2}(h:Zh w0 w b r)(hg:Y w w' M):Zh w0 w' b r:=by
 have d:=h.lt;obtain⟨a,cap,c,e⟩:=h.at_;exact⟨⟨a,cap,by rw[hg.block b d (by simp)];exact c,e⟩,h.old,Qa h.grown (Xz hg _)⟩
theorem Xj{w w':L}{b:Nat}(hg:Y w w' (O b)){c:Nat}{o:Obj}(hc:w.heap[c]?=O o)(hne:c≠b):w'.heap[c]?=O o:=by
 rw[hg.block c (tM.1 hc).1 (by simpa using hne)];exact hc
theorem Zh.apart{w0 w w':L}{b:Nat}{r:V2}(h:Zh w0 w b r){c:Nat}(hne:b≠c)(hc:w0.heap.size<=c)(hg:Y w w' (O c)):Zh w0 w' b r:=by
 have e:=h.lt;obtain⟨a,cap,d,f⟩:=h.at_;exact⟨⟨a,cap,by rw[hg.block b e (by simpa using hne)];exact d,f⟩,h.old,JU h.grown hc hg⟩
theorem Q4.rdr{rb:Nat}{w0 w w':L}{b:Nat}{r:V2}{v:N}{l:List Q6}(h:Q4 rb 0 w v l)(hb:Zh w0 w b r)(hg:Y w w' (O b)):Q4 rb 0 w' v l:=by
 obtain⟨a,cap,c,_⟩:=hb.at_;exact h.kept hg (.inr (h.ne c nG)) hb.row
theorem Zh.ownV{rb:Nat}{w0 w w':L}{b:Nat}{r:V2}{v:N}{l:List Q6}(h:Zh w0 w b r)(ho:Q4 rb 0 w v l)(hb:w0.heap.size<=rb)(hg:Y w w' v.ownBlock):Zh w0 w' b r:=by
 obtain⟨a,cap,f,i⟩:=h.at_;have d:=ho.ne f nG;cases hv:v.ownBlock with|none=>rw[hv]at hg;exact h.kept hg|some g=>rw[hv]at hg d;exact h.apart (c:=g) (fun e=>d (by rw[e])) (tT hb (ho.lt g hv).1) hg
section
open Go.ChangeShapes Go.WideShapes Go.ChangeAt Go.RowKit
theorem own:ownKnob tB.godebug=M:=by
 kernel_rfl
theorem Ws:laidOutB tB=tA:=by
 kernel_rfl
theorem Jf{n:Int}(h:(Lit.int tH n).wf=tA):-9223372036854775808<=n∧n<=9223372036854775807:=bounds_i64 h
theorem eK{w w':L}(h:Y w w' M):Below w.heap.size w w':=⟨h.os,h.tape,h.output,h.size,fun k hk=>h.block k hk (by
 simp)⟩
end
structure yV(g:Gr):Prop where kind:-9223372036854775808<=g.kind∧g.kind<=9223372036854775807sess:-9223372036854775808<=g.sess∧g.sess<=9223372036854775807name:-9223372036854775808<=g.name∧g.name<=9223372036854775807key:-9223372036854775808<=g.key∧g.key<=9223372036854775807value:-9223372036854775808<=g.value∧g.value<=9223372036854775807
def iA(w:L)(b o:Nat)(g:Gr):Prop:=w.cell? ⟨b,o,M⟩=O (tE tH g.kind)∧w.cell? ⟨b,o+1,M⟩=O (tE tH g.sess)∧w.cell? ⟨b,o+2,M⟩=O (tE tH g.name)∧w.cell? ⟨b,o+3,M⟩=O (tE tH g.key)∧w.cell? ⟨b,o+4,M⟩=O (tE tH g.value)
theorem iA.grown{w w':L}{b o:Nat}{g:Gr}(h:iA w b o g)(hg:Y w w' M):iA w' b o g:=⟨hg.cell h.1 (by
 simp),hg.cell h.2.1 (by
 simp),hg.cell h.2.2.1 (by
 simp),hg.cell h.2.2.2.1 (by
 simp),hg.cell h.2.2.2.2 (by
 simp)⟩
def UV(w:L)(v:N)(l:List Gr):Prop:=∃a cap,v=S a l.length cap∧l.length<=cap∧(l=[]∨∃b o,a=O ⟨b,o,M⟩∧∀i,i<l.length->iA w b (o+i*5) (l.getD i vP))
theorem UV.shape{w:L}{v:N}{l:List Gr}(h:UV w v l):∃a cap,v=S a l.length cap:=by
 obtain⟨a,cap,rfl,_⟩:=h;exact⟨a,cap,rfl⟩
theorem UV.grown{w w':L}{v:N}{l:List Gr}(h:UV w v l)(hg:Y w w' M):UV w' v l:=by
 obtain⟨a,cap,rfl,c,h⟩:=h;refine⟨a,cap,rfl,c,?_⟩;rcases h with h|⟨b,o,rfl,h⟩;·exact .inl h
 ·exact .inr ⟨b,o,rfl,fun i d=>(h i d).grown hg⟩
theorem UV.at{w:L}{a:Option Addr}{n cap:Nat}{l:List Gr}(h:UV w (S a n cap) l)(i:Nat)(hi:i<l.length):∃b o,a=O ⟨b,o,M⟩∧iA w b (o+i*5) (l.getD i vP):=by
 obtain⟨d,c,e,_,h⟩:=h;simp only[tK]at e;obtain⟨rfl,_,_⟩:=e;rcases h with rfl|⟨b,o,rfl,h⟩;·simp at hi
 ·exact⟨b,o,rfl,h i hi⟩
def Sa(l:List Gr):Prop:=∀g∈l,yV g
theorem Cl{l:List Gr}{m:Nat}(h:m<l.length):Yq l (m+1)=Yq l m++[Rb (l.getD m vP)]:=by
 unfold Yq;rw[List.take_add_one,List.map_append];simp[h]
theorem A9(l:List Gr)(m:Nat):(Yq l m).length=min m l.length:=by
 simp[Yq]
def aZ:Prop:=∀(w:L)(v:N)(t:GK),Uj w v t->jU t->Calls tB 43 #[v] w fun e w'=>∃x,e=tJ (sS #[x,tE tH (E9 t)])∧YH w' x (KN t)∧Y w w' M
def Lp:Prop:=∀(w:L)(v:N)(t:GK)(keep:Int),Uj w v t->jU t->-9223372036854775808<=keep->keep<=9223372036854775807->Calls tB 62 #[v,tE tH keep] w fun e w'=>∃x,e=tJ (sS #[x,tE tH (UQ t keep)])∧YH w' x (XA t keep)∧Y w w' M
theorem Mm:(71:Nat)≠5:=by
 decide
theorem WZ:(71:Nat)≠154:=by
 decide
theorem Mh:(71:Nat)≠165:=by
 decide
def aU:Prop:=∀(w:L)(v:N)(a:Ac),Oa w v a->LW a->Calls tB 20 #[v] w fun e w'=>e=tJ (tE tH (Jd a))∧Y w w' M
theorem dA(s q:Int)(d:List UInt8):Jd ⟨1,s,q,d⟩=if 0<=s∧s<=7then(if 4000<d.length then 1 else if q=0then 0 else 4)else 2:=by
 unfold Jd;rw[if_pos (by show(1:Int)<=1∧(1:Int)<=4;omega)];by_cases a:0<=s∧s<=7;·rw[if_pos a,if_neg (by rintro(⟨_,h⟩|⟨h,_⟩);exact h a;cases h)];by_cases b:4000<d.length;(·rw[if_pos b,if_pos b]);·rw[if_neg b,if_neg b];by_cases c:q=0;(·rw[if_pos c,if_neg];rintro(⟨h,_⟩|⟨_,h⟩|⟨h,_⟩);(·exact h rfl);(·exact h c);·exact h rfl);·rw[if_neg c,if_pos (.inr (.inl ⟨by show(1:Int)≠3;decide,c⟩))]
 ·rw[if_neg a,if_pos (.inl ⟨rfl,a⟩)]
theorem Hk(s q:Int)(d:List UInt8):Jd ⟨3,s,q,d⟩=if 0<=q∧q<=200000then(if 4000<d.length then 1 else if s=0then(if 0<d.length then 4 else 0)else 4)else 2:=by
 unfold Jd;rw[if_pos (by show(1:Int)<=3∧(3:Int)<=4;omega)];by_cases a:0<=q∧q<=200000;·rw[if_pos a,if_neg (by rintro(⟨h,_⟩|⟨_,h⟩);cases h;exact h a)];by_cases b:4000<d.length;(·rw[if_pos b,if_pos b]);·rw[if_neg b,if_neg b];by_cases c:s=0;(·rw[if_pos c];by_cases e:0<d.length;(·rw[if_pos e,if_pos (.inr (.inr ⟨by show(3:Int)≠1;decide,e⟩))]);·rw[if_neg e,if_neg];rintro(⟨_,h⟩|⟨h,_⟩|⟨_,h⟩);(·exact h c);(·exact h rfl);·exact e h);·rw[if_neg c,if_pos (.inl ⟨by show(3:Int)≠1;decide,c⟩)]
 ·rw[if_neg a,if_pos (.inr ⟨rfl,a⟩)]
theorem Si(k s q:Int)(d:List UInt8)(hk:k=2∨k=4):Jd ⟨k,s,q,d⟩=if 4000<d.length then 1 else if s=0then(if q=0then(if 0<d.length then 4 else 0)else 4)else 4:=by
 unfold Jd;have f:¬k=1:=by omega
 have g:¬k=3:=by omega
 rw[if_pos (by show 1<=k∧k<=4;omega),if_neg (by rintro(⟨h,_⟩|⟨h,_⟩);exact f h;exact g h)];by_cases a:4000<d.length;·rw[if_pos a,if_pos a]
 ·rw[if_neg a,if_neg a];by_cases b:s=0;(·rw[if_pos b];by_cases e:q=0;(·rw[if_pos e];by_cases c:0<d.length;(·rw[if_pos c,if_pos (.inr (.inr ⟨f,c⟩))]);·rw[if_neg c,if_neg];rintro(⟨_,h⟩|⟨_,h⟩|⟨_,h⟩);(·exact h b);(·exact h e);·exact c h);·rw[if_neg e,if_pos (.inr (.inl ⟨g,e⟩))]);·rw[if_neg b,if_pos (.inl ⟨f,b⟩)]
end Go.Proofs.YtcieibjgedmdlaaGreatDoor
