/-
  Texts of this proof, joined, with few blanks: Base, LineF, SlM, PartM, Keys, PlaceM, Trees, TreeF, FitsF, ForestF, RdF, WrM0, TapeF, TapeG, KTree, KPure, ForestK, ForestE, ForestR, WireF, WireG, LineG, RqMem, RqBox, RqEn, RdM0, ProofM, Sides, ForkF, Bits, Lanes, Cols, Move, Round, IdxF, EqB, ApplyOne, CheckC, CheckP, PosF, FPosF, FCName, RqCk.
-/
import Derived.WalkKit
import Derived.WalkSpells
import Derived.WalkLawsBesides
import Derived.BigRegion
import Derived.Deep.QuietTactic
import Derived.BigQuiet
import Derived.Deep.RegionHeld3
import Derived.Deep.DeepCutAuto
import Derived.Lib.Strings
import Derived.Test.YtiahomhpaejnhaaGreatDoorChecked
set_option maxRecDepth 100000
set_option maxHeartbeats 8000000
open Array renaming getElem?_eq_some_iff->tS,getElem?_modify->tX
open BitVec renaming ofInt->sI,ofInt_natCast->pR
open Bool renaming true->tC,false->tH,or_eq_false_iff->rX,and_eq_true->oY,or_eq_true->o7
open Classical renaming byContradiction->sU
open Decidable renaming decide->tN
open Go renaming World->tA,Value->tE,TypeId->rF,heap_alloc_new->rS,Calls->pD,Addr->pK
open Go.Ending renaming returned->sW
open Go.IntKind renaming i64->rI,u64->rM,u8->rN,wrap_u64->pB
open Go.Obj renaming cells->tQ
open Go.Op renaming bytesLess->sN
open Go.Proofs.Tryz renaming prog->tI,underlying32->sR,ntmps31->pM,func31->pU
open Go.Value renaming slice->tP,int->tR,bool->pT,agg->oV,tuple->oW,ownBlock->o6
open Go.Value.slice renaming injEq->rK
open Go.World renaming grownBy->tB,setCell->tM,cell?->sF,frozen?->rD,grownBy_alloc->rY
open Int renaming toNat_natCast->rP
open List renaming mem_iff_getElem->tD,length_append->tF,eq_nil_of_length_eq_zero->tG,append_assoc->tJ,take_append_drop->tL,takeWhile_cons_of_pos->tT,filter_eq_self->tU,mem_cons->tV,append_nil->sA,drop_eq_nil_of_le->sB,getD_cons_zero->sC,pairwise_cons->sD,mem_cons_of_mem->sE,getElem_mem->sH,drop_eq_getElem_cons->sK,getElem_take->sL,take_succ_cons->sM,filter_append->sO,filter_eq_nil_iff->sP,getElem_drop->sS,pairwise_singleton->sX,filter_cons_of_neg->sY,getElem?_map->rB,length_filter_le->rG,flatMap_cons->rO,getElem?_eq_getElem->rT,mem_filter->rU,take_left'->rV,drop_left'->rW,any_cons->r7,mem_cons_self->pA,set_eq_take_append_cons_drop->pC,length_cons->pE,take_append_of_le_length->pF,drop_append_of_le_length->pG,nil_append->pH,getElem?_eq_some_iff->pI,pairwise_iff_getElem->pJ,filter_cons_of_pos->pL,take_of_length_le->pN,find?_cons_of_pos->pP,find?_cons_of_neg->pQ,drop_succ_cons->pW,takeWhile_cons->pY,getElem?_take->pZ,length_drop->o5,map_cons->o9
open List.Pairwise renaming cons->tZ,filter->sZ,nil->rH
open Nat renaming lt_of_lt_of_le->tY,le_refl->sG,le_trans->rA,testBit_lt_two_pow->rC,pow_le_pow_right->rJ,testBit_div_two_pow->pO,div_div_eq_div_mul->pS,eq_of_testBit_eq->pV,min_eq_left->o8
open Option renaming some->T,none->V,map_some->sV
open Option.some renaming injEq->tW,inj->r8
open Prod.mk renaming injEq->sJ
open UInt8 renaming ofNat->tK,lt_iff_toNat_lt->sQ,toNat_ofNat'->pX,toNat_inj->oX
namespace Go.Proofs.YtiahomhpaejnhaaGreatDoor
open Go.RowKit
section
theorem Qb(w:tA)(r:Option Nat):tB w w r:=⟨rfl,rfl,rfl,sG _,fun _ _ _=>rfl⟩
theorem Qa{w w1 w2:tA}{r:Option Nat}(h:tB w w1 r)(k:tB w1 w2 r):tB w w2 r:=⟨k.os.trans h.os,k.tape.trans h.tape,k.output.trans h.output,rA h.size k.size,fun i a b=>(k.block i (tY a h.size) b).trans (h.block i a b)⟩
theorem Ql{w w1:tA}{r:Option Nat}(h:tB w w1 r):tB w w1.drew r:=⟨h.os,h.tape,h.output,h.size,h.block⟩
theorem Qr{w w1:tA}{r:Option Nat}(h:tB w w1 r)(n:Nat):tB w (w1.drewN n) r:=⟨h.os,h.tape,h.output,h.size,h.block⟩
theorem Qh{w w1:tA}{b:Nat}(h:tB w w1 (T b))(i:Nat)(v:tE):tB w (tM w1 ⟨b,i,V⟩ v) (T b):=Qa h ⟨rfl,rfl,rfl,by
 simp[tM],fun k _ a=>Below.heap_setCell _ _ _ _ (by
 intro e;exact a (by rw[e]))⟩
theorem Qv{w w1:tA}{r:Option Nat}(h:tB w w1 r)(o:Obj):tB w (w1.alloc o) r:=Qa h (rY _ _ _)
theorem JQ{w w1 w2:tA}{r:Option Nat}{c:Nat}(h:tB w w1 r)(hc:w.heap.size<=c)(k:tB w1 w2 (T c)):tB w w2 r:=⟨k.os.trans h.os,k.tape.trans h.tape,k.output.trans h.output,rA h.size k.size,fun i a b=>(k.block i (tY a h.size) (by
 simp;omega)).trans (h.block i a b)⟩
theorem Qc{w w1:tA}{r:Option Nat}(h:tB w w1 r)(c:Nat)(hc:w.heap.size<=c)(i:Nat)(v:tE):tB w (tM w1 ⟨c,i,V⟩ v) r:=JQ h hc (Qh (Qb _ _) i v)
theorem ZS(b o n:Nat):(⟨b,o,V⟩:pK).add n=⟨b,o+n,V⟩:=by
 unfold Addr.add;split;·simp_all
 ·rfl
theorem eF(w:tA):(sizeOf (tI.elem 32)).run tI w=.ok 1 w:=by
 kernel_rfl
theorem eY(W:tA)(pb o len cap:Nat)(l:Int)(n:Nat)(hn:l=(n:Int))(h1:n<=len)(hc:n<cap):(Instr.slice 32 (tP (T ⟨pb,o,V⟩) len cap) (T (tR rI l)) V V).run tI W=.ok (tP (T ⟨pb,o+n,V⟩) (len-n) (cap-n)) W:=by
 subst hn;rw[run_slice_l _ _ _ _ _ (by kernel_rfl) _ _ (by omega) (by omega),eF];simp only[Result.andThen,sliced,rP,sV,Nat.mul_one,ZS];rw[if_neg (by omega)]
theorem Hg(W:tA)(pb o len cap:Nat)(l:Int)(n:Nat)(hn:l=(n:Int))(hc:n<=cap)(h0:0<cap):(Instr.slice 32 (tP (T ⟨pb,o,V⟩) len cap) V (T (tR rI l)) V).run tI W=.ok (tP (T ⟨pb,o,V⟩) n cap) W:=by
 subst hn;rw[run_slice_h _ _ _ _ _ (by kernel_rfl) _ _ (by omega) (by omega),eF];simp only[Result.andThen,sliced,rP,sV,Nat.mul_one,ZS];rw[if_neg (by omega)];simp
def Ub(w:tA)(pb o:Nat)(bs:List UInt8):Prop:=∀i,i<bs.length->w.cell? ⟨pb,o+i,V⟩=T (tR rN ((bs.getD i 0).toNat:Int))
theorem Ub.drew{w:tA}{pb o:Nat}{bs:List UInt8}(h:Ub w pb o bs):Ub w.drew pb o bs:=h
theorem Ub.grown{w w':tA}{pb o:Nat}{bs:List UInt8}{r:Option Nat}(h:Ub w pb o bs)(hg:tB w w' r)(hr:T pb≠r):Ub w' pb o bs:=fun i a=>hg.cell (h i a) hr
def ZX(bs:List UInt8):Array tE:=(bs.map fun c=>tR rN (c.toNat:Int)).toArray
def ZN(w:tA)(b:Nat)(bs:List UInt8):Prop:=∃t,w.heap[b]?=T (tQ (ZX bs) t (0,0))
section
variable{w:tA}{b:Nat}{bs:List UInt8}
theorem ZN.cell(h:ZN w b bs)(i:Nat)(hi:i<bs.length):w.cell? ⟨b,i,V⟩=T (tR rN ((bs.getD i 0).toNat:Int)):=by
 obtain⟨t,a⟩:=h;simp[sF,a,ZX,rB,rT hi]
theorem ZN.frozen(h:ZN w b bs)(i:Nat):w.frozen? ⟨b,i,V⟩=tH:=by
 obtain⟨t,a⟩:=h;simp[rD,a]
theorem ZN.lt(h:ZN w b bs):b<w.heap.size:=by
 obtain⟨t,a⟩:=h;exact(tS.1 a).1
theorem AL(bs:List UInt8)(i:Nat)(x:UInt8):(ZX bs).setIfInBounds i (tR rN (x.toNat:Int))=ZX (bs.set i x):=by
 simp[ZX]
theorem ZN.set(h:ZN w b bs)(i:Nat)(x:UInt8):ZN (tM w ⟨b,i,V⟩ (tR rN (x.toNat:Int))) b (bs.set i x):=by
 obtain⟨t,a⟩:=h;refine⟨t,?_⟩;simp only[tM,tX,if_true,a,sV];simp[AL]
theorem ZN.drewN(h:ZN w b bs)(k:Nat):ZN (w.drewN k) b bs:=h
theorem ZN.drew(h:ZN w b bs):ZN w.drew b bs:=h
theorem ZN.alloc(h:ZN w b bs)(o:Obj):ZN (w.alloc o) b bs:=by
 have c:=h.lt;obtain⟨t,a⟩:=h;exact⟨t,by rw[Below.heap_alloc _ _ _ c];exact a⟩
theorem ZN.grown(h:ZN w b bs){w':tA}{r:Option Nat}(hg:tB w w' r)(hr:T b≠r):ZN w' b bs:=by
 have c:=h.lt;obtain⟨t,a⟩:=h;exact⟨t,by rw[hg.block b c hr];exact a⟩
theorem ZN.new(w:tA)(t:rF)(bs:List UInt8):ZN (w.alloc (tQ (ZX bs) t)) w.heap.size bs:=⟨t,rS w _⟩
theorem ZN.at(h:ZN w b bs)(o:Nat)(cs:List UInt8)(hc:∀i,i<cs.length->o+i<bs.length∧bs.getD (o+i) 0=cs.getD i 0):Ub w b o cs:=by
 intro i a;rw[h.cell (o+i) (hc i a).1,(hc i a).2]
end
def Qe(w:tA)(v:tE)(bs:List UInt8):Prop:=∃a cap,v=tP a bs.length cap∧bs.length<=cap∧((bs=[]∧(a=V->cap=0))∨∃b o,a=T ⟨b,o,V⟩∧Ub w b o bs)
theorem Qe.grown{w w':tA}{v:tE}{bs:List UInt8}(h:Qe w v bs)(hg:tB w w' V):Qe w' v bs:=by
 obtain⟨a,cap,rfl,c,h⟩:=h;refine⟨a,cap,rfl,c,?_⟩;rcases h with h|⟨b,o,rfl,h⟩;·exact .inl h
 ·exact .inr ⟨b,o,rfl,h.grown hg (by simp)⟩
theorem Qe.alloc{w:tA}{v:tE}{bs:List UInt8}(h:Qe w v bs)(o:Obj):Qe (w.alloc o) v bs:=h.grown (rY _ _ _)
theorem Qe.drew{w:tA}{v:tE}{bs:List UInt8}(h:Qe w v bs):Qe w.drew v bs:=h
theorem Qe.drewN{w:tA}{v:tE}{bs:List UInt8}(h:Qe w v bs)(n:Nat):Qe (w.drewN n) v bs:=h
theorem ZN.slice{w:tA}{b:Nat}{bs:List UInt8}(h:ZN w b bs)(cap:Nat)(hc:bs.length<=cap):Qe w (tP (T ⟨b,0,V⟩) bs.length cap) bs:=⟨_,cap,rfl,hc,.inr ⟨b,0,rfl,h.at 0 bs fun i a=>by
 simpa using a⟩⟩
theorem QE(w:tA):Qe w (tP V 0 0) []:=⟨V,0,rfl,sG _,.inl ⟨rfl,fun _=>rfl⟩⟩
def UF(n:Nat):List UInt8:=List.replicate n 0
theorem Mh(n:Nat):(UF n).length=n:=by
 simp[UF]
theorem Ly(n:Nat):madeCells (tR rN 0).cells (n*1)=ZX (UF n):=by
 apply Array.ext;·simp[size_madeCells,ZX,UF]
 ·intro i a b;simp[madeCells,ZX,UF,Value.cells,Nat.mod_one]
theorem lM:(tI.info? 5).map (fun i=>(i.zero,i.size,i.bytes))=T (T (tR rN 0),1,1):=by
 kernel_rfl
theorem lJ:(tI.info? 5).map (·.size)=T 1:=by
 kernel_rfl
theorem Lo(W:tA)(c:Int)(n:Nat)(hc:c=(n:Int))(hn:n<=1000000):(Instr.makeSlice 32 (tR rI c) (tR rI c)).run tI W=.ok (tP (T ⟨W.heap.size,0,V⟩) n n) (W.alloc (tQ (ZX (UF n)) 5)):=by
 subst hc;obtain⟨f,e,a,b,d⟩:=info_parts lM;have h:=run_make (P:=tI) W 32 5 f (tR rN 0) sR e a rI rI (n:Int) (n:Int) (by omega) (Int.le_refl _) (by rw[d];omega) (by omega);rw[h,b,rP,Ly]
theorem uL(bs:List UInt8):∀v∈(bs.map fun c=>tR rN (c.toNat:Int)),v.oneCell'=tC:=by
 intro v a;obtain⟨c,_,rfl⟩:=List.mem_map.1 a;rfl
theorem M5(w:tA)(X Y:Array tE)(t:rF):(w.alloc (tQ X t)).setRow w.heap.size Y=w.alloc (tQ Y t):=by
 simp only[World.setRow,World.alloc];congr 1;apply Array.ext;·simp
 ·intro i b a;simp only[Array.getElem_modify,Array.getElem_push];(have c:i<w.heap.size+1:=by simpa using a);split<;>split<;>first|rfl|omega|(exfalso;omega)|simp_all
theorem LY(w:tA)(a:Option pK)(bs:List UInt8)(cap n m ty:Nat)(hn:bs.length<=n)(hs:Qe w (tP a bs.length cap) bs):(Builtin.copy_ #[32,32] ty #[tP (T ⟨w.heap.size,0,V⟩) n m,tP a bs.length cap]).run tI (w.alloc (tQ (ZX (UF n)) 5))=.ok (tR rI (bs.length:Int)) (w.alloc (tQ (ZX (bs++UF (n-bs.length))) 5)):=by
 obtain⟨k,g,e,l,h⟩:=hs.alloc (tQ (ZX (UF n)) 5);simp only[rK,true_and]at e;obtain⟨rfl,rfl⟩:=e;by_cases i:bs=[];·subst i;have:=run_copy_none (P:=tI) (w.alloc (tQ (ZX (UF n)) 5)) 32 32 ty 5 (T ⟨w.heap.size,0,V⟩) a n m 0 cap sR lJ (by simp);simpa[goInt]using this
 ·rcases h with h|⟨b,o,rfl,h⟩;(·exact absurd h.1 i);·have:=run_copy_row (P:=tI) (w.alloc (tQ (ZX (UF n)) 5)) 32 32 ty 5 w.heap.size 0 n m ⟨b,o,V⟩ bs.length cap (ZX (UF n)) 5 (bs.map fun c=>tR rN (c.toNat:Int)) sR lJ (rS w _) (by simp only[List.length_map];exact(o8 hn).symm) (by intro j v d;rw[rB]at d;cases hb:bs[j]?with|none=>rw[hb]at d;simp at d|some c=>rw[hb]at d;simp at d;subst d;rw[ZS];have f:j<bs.length:=(pI.1 hb).1;rw[h j f];simp[hb]) (by simp[ZX,UF];exact hn) (uL bs);rw[this,M5];simp[goInt,ZX,UF]
def Gg(bs:List UInt8):List tE:=bs.map fun c=>tR rN (c.toNat:Int)
theorem dH(bs:List UInt8):(Gg bs).length=bs.length:=by
 simp[Gg]
theorem D9(a b:List UInt8):Gg (a++b)=Gg a++Gg b:=by
 simp[Gg]
theorem Au(bs:List UInt8)(j:Nat)(u:tE)(h:(Gg bs)[j]?=T u):j<bs.length∧u=tR rN ((bs.getD j 0).toNat:Int):=by
 rw[Gg,rB]at h;cases hb:bs[j]?with|none=>rw[hb]at h;simp at h|some c=>rw[hb]at h;simp at h;exact⟨(pI.1 hb).1,by simp[hb,<-h]⟩
def Za(base:Nat)(w:tA)(v:tE)(bs:List UInt8):Prop:=w.ownsRow base 5 1 v bs.length (Gg bs)
theorem QL(base:Nat)(w:tA):Za base w (tP V 0 0) []:=World.ownsRow_nil _ _ _ _
theorem Za.grown{base:Nat}{w w':tA}{v:tE}{bs:List UInt8}(h:Za base w v bs){row:Option Nat}(hg:tB w w' row)(hne:v.ownBlock=V∨v.ownBlock≠row):Za base w' v bs:=World.ownsRow.kept h hg hne
theorem Za.grownNone{base:Nat}{w w':tA}{v:tE}{bs:List UInt8}(h:Za base w v bs)(hg:tB w w' V):Za base w' v bs:=by
 refine h.grown hg ?_;cases hv:v.ownBlock with|none=>exact .inl rfl|some k=>exact .inr (by simp)
theorem Za.alloc{base:Nat}{w:tA}{v:tE}{bs:List UInt8}(h:Za base w v bs)(o:Obj):Za base (w.alloc o) v bs:=World.ownsRow.alloc h o
theorem Za.slice{base:Nat}{w:tA}{v:tE}{bs:List UInt8}(h:Za base w v bs):Qe w v bs:=by
 obtain⟨m,d⟩:=h;rcases d with⟨rfl,c⟩|⟨g,cap,a,rfl,n,j,k,o,p,l⟩;·obtain rfl:=tG c;exact QE w
 ·refine⟨_,cap,rfl,k,.inr ⟨g,0,rfl,?_⟩⟩;intro i b;(have f:a.toList[i]?=T (tR rN ((bs.getD i 0).toNat:Int)):=by(have e:(a.toList.take (bs.length*1))[i]?=(Gg bs)[i]?:=by rw[l]);rw[pZ,if_pos (by omega)]at e;rw[e,Gg,rB,rT b];simp[b]);simp[sF,j];simpa using f
theorem Za.lt{base:Nat}{w:tA}{v:tE}{bs:List UInt8}(h:Za base w v bs):∀k,v.ownBlock=T k->base<=k∧k<w.heap.size:=World.ownsRow.lt h
theorem Za.shape{base:Nat}{w:tA}{v:tE}{bs:List UInt8}(h:Za base w v bs):∃a cap,v=tP a bs.length cap:=by
 obtain⟨a,cap,e,_⟩:=h.slice;exact⟨a,cap,e⟩
theorem TP(base:Nat)(w:tA)(bs:List UInt8)(hb:base<=w.heap.size)(hm:bs.length<=maxLen):Za base (w.alloc (tQ (ZX bs) 5)) (tP (T ⟨w.heap.size,0,V⟩) bs.length bs.length) bs:=⟨by
 simp[Gg],.inr ⟨w.heap.size,bs.length,ZX bs,rfl,hb,rS w _,sG _,hm,by
 simp[ZX],by
 simp[ZX,Gg,pN]⟩⟩
theorem Xr{w W w1:tA}{v:tE}{bs:List UInt8}(h:tB w W V)(ho:Za w.heap.size W v bs)(hg:tB W w1 v.ownBlock):tB w w1 V:=⟨hg.os.trans h.os,hg.tape.trans h.tape,hg.output.trans h.output,rA h.size hg.size,fun i a b=>(hg.block i (tY a h.size) (fun e=>by
 have:=(ho.lt i e.symm).1;omega)).trans (h.block i a b)⟩
theorem Dd(w:tA)(base ty:Nat)(v:tE)(bs:List UInt8)(hown:Za base w v bs)(a:Option pK)(m cap:Nat)(cs:List UInt8)(hs:Qe w (tP a m cap) cs)(hbytes:bs.length+m<=140737488355328)(hbase:base<=w.heap.size):∃v' w',(Builtin.append_ #[32,32] ty #[v,tP a m cap]).run tI w=.ok v' w'∧Za base w' v' (bs++cs)∧tB w w' v.ownBlock:=by
 obtain⟨q,p,i,k,l⟩:=info_parts lM;obtain⟨z,n,e,A,h⟩:=hs;simp only[rK]at e;obtain⟨rfl,rfl,rfl⟩:=e;have f:bs.length+cs.length<=maxLen:=by unfold maxLen;omega
 have key:∀d:pK,(∀j u,(Gg cs)[j]?=T u->w.cell? (d.add j)=T u)->∃v' w',(Builtin.append_ #[32,32] ty #[v,tP (T d) cs.length cap]).run tI w=.ok v' w'∧Za base w' v' (bs++cs)∧tB w w' v.ownBlock:=by intro d c;obtain⟨v',w',x,t,r,_⟩:=run_append_own (P:=tI) w base 32 ty 5 q (tR rN 0) 1 1 sR p i k l rfl (by decide) v bs.length (Gg bs) hown d cs.length cap (Gg cs) (by simp[Gg]) c (uL cs) f (by omega) hbase;refine⟨v',w',x,?_,r⟩;unfold Za;rw[D9,tF];exact t
 rcases h with⟨rfl,y⟩|⟨b,o,rfl,h⟩;·cases a with|none=>obtain rfl:=y rfl;refine⟨v,w,run_append_owned_none (P:=tI) (w:=w) base 32 ty 5 q 1 sR p v bs.length (Gg bs) hown,?_,Qb _ _⟩;rw[sA];exact hown|some d=>exact key d (by simp[Gg])
 ·refine key ⟨b,o,V⟩ fun j u s=>?_;obtain⟨g,rfl⟩:=Au cs j u s;rw[ZS];exact h j g
theorem QI{w:tA}{ops:Array Oper}{rest:List Oper}{o:Oper}{a:Act}{Q:Exit->Act->tA->Prop}(hgd:o.guard=V)(s x:Operand)(ho:o.op=.call {callee:=.builtin .append,args:=#[s,x],argTypes:=#[32,32]})(base:Nat)(v:tE)(bs:List UInt8)(hs:a.eval s=v)(hown:Za base w v bs)(xa:Option pK)(m cap:Nat)(cs:List UInt8)(hx:a.eval x=tP xa m cap)(hsl:Qe w (tP xa m cap) cs)(hbytes:bs.length+m<=140737488355328)(hbase:base<=w.heap.size)(h:∀v' w',Za base w' v' (bs++cs)->tB w w' v.ownBlock->wpList tI ops Q rest (a.put o.dst v') w'):wpList tI ops Q (o::rest) a w:=by
 refine wpList_plain hgd fun K d=>?_;obtain⟨v',w',b,c,e⟩:=Dd w base o.type v bs hown xa m cap cs hsl hbytes hbase;unfold Oper.wp;simp[execOp,ho,resolve,invoke,builtin,hs,hx,b,Result.andThen];exact d _ _ (h v' w' c e)
theorem Qe.take{w:tA}{a:Option pK}{m cap:Nat}{bs:List UInt8}(h:Qe w (tP a m cap) bs)(k:Nat)(hk:k<=m):Qe w (tP a k cap) (bs.take k):=by
 obtain⟨j,c,e,l,h⟩:=h;simp only[rK]at e;obtain⟨rfl,rfl,rfl⟩:=e;have f:(bs.take k).length=k:=by simp;omega
 refine⟨a,cap,by rw[f],by omega,?_⟩;rcases h with⟨rfl,g⟩|⟨b,o,rfl,h⟩;·exact .inl ⟨by simp,g⟩
 ·refine .inr ⟨b,o,rfl,fun i d=>?_⟩;rw[h i (by omega)];rw[f]at d;simp[d]
theorem IM(bs:List UInt8)(s:ByteArray):((bs.map fun c=>((c.toNat:Nat):Int)).foldl (fun r n=>r.push (tK n.toNat)) s)=⟨s.data++bs.toArray⟩:=by
 induction bs generalizing s with|nil=>simp|cons c bs ih=>simp only[o9,List.foldl_cons];rw[ih];congr 1;simp[ByteArray.push]
def Vc(bs:List UInt8):ByteArray:=⟨bs.toArray⟩
theorem FS(bs:List UInt8):(Vc bs).toList=bs:=by
 rw[Lib.toList_data];rfl
theorem Kc(W:tA)(v:tE)(bs:List UInt8)(hs:Qe W v bs):(convert 32 9 v).run tI W=.ok (.string (Vc bs)) W:=by
 obtain⟨a,cap,rfl,k,h⟩:=hs;rw[run_convert_bytes_string W 32 9 5 a bs.length cap sR Tryz.underlying5 Tryz.underlying9];have key:∀e:pK,(∀j u,(Gg bs)[j]?=T u->W.cell? (e.add j)=T u)->(Conv.bytesToString (tP (T e) bs.length cap)).run tI W=.ok (.string (Vc bs)) W:=by intro e d;have g:=run_loadCells_list (P:=tI) W e (Gg bs) d;rw[dH]at g;have:=run_bytesToString (P:=tI) W e bs.length cap (bs.map fun c=>((c.toNat:Nat):Int)) (by rw[g];simp[Gg]);rw[this,IM];simp[Vc]
 rcases h with⟨rfl,l⟩|⟨b,o,rfl,h⟩;·cases a with|none=>simp[Conv.bytesToString,Vc];rfl|some e=>exact key e (by simp[Gg])
 ·refine key ⟨b,o,V⟩ fun j u i=>?_;obtain⟨f,rfl⟩:=Au bs j u i;rw[ZS];exact h j f
theorem ZN.slice32{w:tA}{b:Nat}{bs:List UInt8}(h:ZN w b bs)(hl:bs.length=32):Qe w (tP (T ⟨b,0,V⟩) 32 32) bs:=by
 have:=h.slice 32 (by omega);rw[hl]at this;exact this
theorem Ve(w:tA)(x:UInt8)(t:rF):Qe (w.alloc (tQ #[tR rN (x.toNat:Int)] t)) (tP (T ⟨w.heap.size,0,V⟩) 1 1) [x]:=(ZN.new w t [x]).slice 1 (by
 simp)
theorem Mv(w:tA)(x y:UInt8)(t:rF):Qe (w.alloc (tQ #[tR rN (x.toNat:Int),tR rN (y.toNat:Int)] t)) (tP (T ⟨w.heap.size,0,V⟩) 2 2) [x,y]:=(ZN.new w t [x,y]).slice 2 (by
 simp)
theorem KU{base base':Nat}{w:tA}{v:tE}{bs:List UInt8}(h:Za base w v bs)(hb:base'<=base):Za base' w v bs:=by
 refine⟨h.1,?_⟩;rcases h.2with b|⟨g,cap,a,c,b,d⟩;·exact .inl b
 ·exact .inr ⟨g,cap,a,c,rA hb b,d⟩
end
structure Ac where
  kind : Int
  sess : Int
  keep : Int
  data : List UInt8
def YM:Ac:=⟨0,0,0,[]⟩
def Jf(a:Ac):Int:=if 1<=a.kind∧a.kind<=4then(if(a.kind=1∧¬(0<=a.sess∧a.sess<=7))∨(a.kind=3∧¬(0<=a.keep∧a.keep<=200000))then 2 else if 4000<a.data.length then 1 else if(a.kind≠1∧a.sess≠0)∨(a.kind≠3∧a.keep≠0)∨(a.kind≠1∧0<a.data.length)then 4 else 0)else 5
structure Z6(a:Ac):Prop where kind:1<=a.kind∧a.kind<=4sess:a.kind=1->0<=a.sess∧a.sess<=7keep:a.kind=3->0<=a.keep∧a.keep<=200000data:a.data.length<=4000noSess:a.kind≠1->a.sess=0noKeep:a.kind≠3->a.keep=0noData:a.kind≠1->a.data=[]
theorem vP(a:Ac):Jf a=0↔Z6 a:=by
 unfold Jf;by_cases g:1<=a.kind∧a.kind<=4;·rw[if_pos g];by_cases c:(a.kind=1∧¬(0<=a.sess∧a.sess<=7))∨(a.kind=3∧¬(0<=a.keep∧a.keep<=200000));(·rw[if_pos c];refine⟨fun e=>(by cases e),fun h=>?_⟩;rcases c with⟨c,d⟩|⟨c,d⟩;(·exact absurd (h.sess c) d);·exact absurd (h.keep c) d);·rw[if_neg c];by_cases d:4000<a.data.length;(·rw[if_pos d];exact⟨fun e=>(by cases e),fun h=>by have:=h.data;omega⟩);·rw[if_neg d];by_cases b:(a.kind≠1∧a.sess≠0)∨(a.kind≠3∧a.keep≠0)∨(a.kind≠1∧0<a.data.length);(·rw[if_pos b];refine⟨fun e=>(by cases e),fun h=>?_⟩;rcases b with⟨b,f⟩|⟨b,f⟩|⟨b,f⟩;(·exact absurd (h.noSess b) f);(·exact absurd (h.noKeep b) f);·rw[h.noData b]at f;simp at f);·rw[if_neg b];refine⟨fun _=>⟨g,fun h=>?_,fun h=>?_,by omega,fun h=>?_,fun h=>?_,fun h=>?_⟩,fun _=>rfl⟩;(·exact sU fun e=>c (.inl ⟨h,e⟩));(·exact sU fun e=>c (.inr ⟨h,e⟩));(·exact sU fun e=>b (.inl ⟨h,e⟩));(·exact sU fun e=>b (.inr (.inl ⟨h,e⟩)));·refine tG ?_;have:¬0<a.data.length:=fun e=>b (.inr (.inr ⟨h,e⟩));omega
 ·rw[if_neg g];exact⟨fun e=>(by cases e),fun h=>absurd h.kind g⟩
def nS(n:Nat):UInt8:=tK (48+n)
def l6(n:Nat):List UInt8:=if n<10then[nS n]else l6 (n/10)++[nS (n%10)]termination_by n decreasing_by
 omega
def nJ(n:Nat):UInt8:=if n<10then tK (48+n)else tK (87+n)
def oJ(bs:List UInt8):List UInt8:=bs.flatMap fun c=>[nJ (c.toNat/16),nJ (c.toNat%16)]
def oK:List UInt8:=[97,115,107]
def mX:List UInt8:=[115,121,110,99]
def mG:List UInt8:=[99,114,97,115,104]
def lS:List UInt8:=[115,116,97,114,116]
def nZ(a:Ac):List UInt8:=if a.kind=1then oK++32::(l6 a.sess.toNat++32::oJ a.data)else if a.kind=2then mX else if a.kind=3then mG++32::l6 a.keep.toNat else if a.kind=4then lS else[]
theorem Zt(w:tA)(o:Obj):∃W:tA,Hid (W=w.alloc o)∧tB w W V∧Hid (W.heap[w.heap.size]?=T o):=⟨w.alloc o,rfl,rY _ _ _,rS w o⟩
theorem Qe.shape{w:tA}{v:tE}{bs:List UInt8}(h:Qe w v bs):∃a cap,v=tP a bs.length cap:=by
 obtain⟨a,cap,rfl,_⟩:=h;exact⟨a,cap,rfl⟩
theorem QP{W w:tA}{b:Nat}{x y:tE}{t:rF}(hg:tB W w V)(h:W.heap[b]?=T (tQ #[x,y] t)):w.cell? ⟨b,0,V⟩=T x∧w.cell? ⟨b,1,V⟩=T y∧w.frozen? ⟨b,0,V⟩=tH∧w.frozen? ⟨b,1,V⟩=tH:=by
 have a:w.heap[b]?=T (tQ #[x,y] t):=by rw[hg.block b (tS.1 h).1 (by simp)];exact h
 refine⟨by simp[sF,a],by simp[sF,a],by simp[rD,a],by simp[rD,a]⟩
theorem yE{W w:tA}{b:Nat}{x y:tE}{t:rF}(hg:tB W w V)(h:W.heap[b]?=T (tQ #[x,y] t)){G:Prop}(k:w.heap[b]?=T (tQ #[x,y] t)->w.cell? ⟨b,0,V⟩=T x->w.cell? ⟨b,1,V⟩=T y->w.frozen? ⟨b,0,V⟩=tH->w.frozen? ⟨b,1,V⟩=tH->G):G:=by
 obtain⟨a,c,d,e⟩:=QP hg h;exact k (by rw[hg.block b (tS.1 h).1 (by simp)];exact h) a c d e
theorem Qd{W w:tA}{b:Nat}{o:Obj}(hg:tB W w V)(h:W.heap[b]?=T o):w.heap[b]?=T o:=by
 rw[hg.block b (tS.1 h).1 (by simp)];exact h
def Qf(base:Nat)(w:tA)(v:tE)(bs:List UInt8):Prop:=Qe w v bs∧(bs=[]∨∃b,v.ownBlock=T b∧b<w.heap.size∧(b<base∨∃cur fz,w.heap[b]?=T (tQ cur 5 fz)))
theorem Qf.slice{base:Nat}{w:tA}{v:tE}{bs:List UInt8}(h:Qf base w v bs):Qe w v bs:=h.1
theorem Za.part{base base':Nat}{w:tA}{v:tE}{bs:List UInt8}(h:Za base' w v bs):Qf base w v bs:=by
 refine⟨h.slice,?_⟩;rcases h.2with⟨rfl,c⟩|⟨g,cap,a,rfl,d,b,_⟩;·exact .inl (tG c)
 ·exact .inr ⟨g,rfl,(tS.1 b).1,.inr ⟨a,_,b⟩⟩
theorem Ga{w:tA}{b o:Nat}{v:tE}(h:w.cell? ⟨b,o,V⟩=T v):b<w.heap.size:=by
 by_cases a:b<w.heap.size;·exact a
 ·simp[sF,Array.getElem?_eq_none (Nat.le_of_not_lt a)]at h
theorem Qe.part{w w':tA}{v:tE}{bs:List UInt8}(h:Qe w v bs)(hg:tB w w' V)(base:Nat)(hb:w.heap.size<=base):Qf base w' v bs:=by
 refine⟨h.grown hg,?_⟩;obtain⟨a,cap,rfl,e,h⟩:=h;rcases h with⟨rfl,_⟩|⟨b,o,rfl,h⟩;·exact .inl rfl
 ·by_cases c:bs=[];(·exact .inl c);·have d:0<bs.length:=List.length_pos_iff.2 c;have:=Ga (h 0 d);exact .inr ⟨b,rfl,tY this hg.size,.inl (by omega)⟩
theorem Qf.mono{base base':Nat}{w:tA}{v:tE}{bs:List UInt8}(h:Qf base w v bs)(hb:base<=base'):Qf base' w v bs:=by
 refine⟨h.1,?_⟩;rcases h.2with h|⟨b,c,d,a⟩;·exact .inl h
 ·refine .inr ⟨b,c,d,?_⟩;rcases a with a|a;(·exact .inl (by omega));·exact .inr a
theorem Q7{base:Nat}{w:tA}{v:tE}{bs:List UInt8}(h:Qf base w v bs):v.oneCell'=tC:=by
 obtain⟨⟨a,cap,rfl,_⟩,_⟩:=h;rfl
theorem Qf.keptT{base:Nat}{w w':tA}{v:tE}{bs:List UInt8}(h:Qf base w v bs){row:Option Nat}(hg:tB w w' row)(hrow:row=V∨∃g cur t fz,row=T g∧base<=g∧w.heap[g]?=T (tQ cur t fz)∧t≠5):Qf base w' v bs:=by
 obtain⟨q,x⟩:=h;rcases x with rfl|⟨b,l,j,c⟩;·obtain⟨a,cap,rfl,c,h⟩:=q;refine⟨⟨a,cap,rfl,c,?_⟩,.inl rfl⟩;rcases h with h|⟨b,o,rfl,h⟩;(·exact .inl h);·exact .inr ⟨b,o,rfl,fun i n=>by simp at n⟩
 ·(have k:T b≠row:=by intro e;rcases hrow with rfl|⟨g,cur,t,fz,rfl,u,d,y⟩;(·cases e);·cases e;rcases c with c|⟨p,s,c⟩;(·omega);·rw[c]at d;simp only[tW,Obj.cells.injEq]at d;exact y d.2.1.symm);have f:=hg.block b j k;refine⟨?_,.inr ⟨b,l,tY j hg.size,?_⟩⟩;(·obtain⟨a,cap,rfl,m,h⟩:=q;refine⟨a,cap,rfl,m,?_⟩;rcases h with h|⟨r,o,rfl,h⟩;(·exact .inl h);·refine .inr ⟨r,o,rfl,fun i n=>?_⟩;simp[o6]at l;subst l;exact hg.cell (h i n) (by simpa using k));·rcases c with c|⟨cur,fz,c⟩;(·exact .inl c);·exact .inr ⟨cur,fz,by rw[f];exact c⟩
def ZU(k:List UInt8)(i:Nat):Bool:=if i/9<k.length then(if i%9=0then tC else(k.getD (i/9) 0).toNat.testBit (8-i%9))else tH
theorem Ut(k:List UInt8)(p:Nat):ZU k (9*p)=tN (p<k.length):=by
 unfold ZU;rw[show 9*p/9=p by omega,show 9*p%9=0 by omega];by_cases h:p<k.length<;>simp[h]
theorem Uw(k:List UInt8)(p r:Nat)(hp:p<k.length)(hr:1<=r)(hr8:r<=8):ZU k (9*p+r)=(k.getD p 0).toNat.testBit (8-r):=by
 unfold ZU;rw[show(9*p+r)/9=p by omega,show(9*p+r)%9=r by omega,if_pos hp,if_neg (by omega)]
theorem Mn(k:List UInt8)(i:Nat)(h:k.length<=i/9):ZU k i=tH:=by
 unfold ZU;rw[if_neg (by omega)]
theorem Ad(x y:UInt8)(h:∀j,j<8->x.toNat.testBit j=y.toNat.testBit j):x=y:=by
 apply oX.1;apply pV;intro j;by_cases a:j<8;·exact h j a
 ·rw[rC (tY x.toNat_lt (rJ (by decide) (by omega:8<=j))),rC (tY y.toNat_lt (rJ (by decide) (by omega:8<=j)))]
theorem Ox(a b:List UInt8)(ha:a.length<=16)(hb:b.length<=16)(h:∀i,i<145->ZU a i=ZU b i):a=b:=by
 have f:a.length=b.length:=by have c:=h (9*a.length) (by omega);have d:=h (9*b.length) (by omega);rw[Ut,Ut]at c d;simp at c d;omega
 apply List.ext_getElem f;intro p c d;have e:a.getD p 0=b.getD p 0:=by apply Ad;intro j g;have:=h (9*p+(8-j)) (by omega);rw[Uw a p _ c (by omega) (by omega),Uw b p _ d (by omega) (by omega),show 8-(8-j)=j by omega]at this;exact this
 simpa[c,d]using e
def jJ(a b:List UInt8):Nat->Nat->Int|0,_=>-1|n+1,i=>if ZU a i=ZU b i then jJ a b n (i+1)else(i:Int)
def J6(a b:List UInt8):Int:=jJ a b 145 0
theorem E9(a b:List UInt8)(n i:Nat):(jJ a b n i=-1∧∀j,i<=j->j<i+n->ZU a j=ZU b j)∨∃m:Nat,jJ a b n i=(m:Int)∧i<=m∧m<i+n∧(∀j,i<=j->j<m->ZU a j=ZU b j)∧ZU a m≠ZU b m:=by
 induction n generalizing i with|zero=>exact .inl ⟨rfl,fun j _ h=>by omega⟩|succ n ih=>unfold jJ;by_cases d:ZU a i=ZU b i;(·rw[if_pos d];rcases ih (i+1)with⟨f,g⟩|⟨m,f,g,p,k,l⟩;(·refine .inl ⟨f,fun j o e=>?_⟩;by_cases c:j=i;(·subst c;exact d);·exact g j (by omega) (by omega));·refine .inr ⟨m,f,by omega,by omega,fun j o e=>?_,l⟩;by_cases c:j=i;(·subst c;exact d);·exact k j (by omega) e);·rw[if_neg d];exact .inr ⟨i,rfl,sG _,by omega,fun j f g=>by omega,d⟩
theorem Kg(a b:List UInt8):(J6 a b=-1∧∀j,j<145->ZU a j=ZU b j)∨∃m:Nat,J6 a b=(m:Int)∧m<145∧(∀j,j<m->ZU a j=ZU b j)∧ZU a m≠ZU b m:=by
 rcases E9 a b 145 0with⟨c,e⟩|⟨m,c,_,h,f,g⟩;·exact .inl ⟨c,fun j d=>e j (by omega) (by omega)⟩
 ·exact .inr ⟨m,c,by omega,fun j d=>f j (by omega) d,g⟩
theorem CQ(a b:List UInt8)(m:Nat)(hm:m<145)(h:∀j,j<m->ZU a j=ZU b j)(hd:ZU a m≠ZU b m):J6 a b=(m:Int):=by
 rcases Kg a b with⟨_,f⟩|⟨e,g,f,i,k⟩;·exact absurd (f m hm) hd
 ·by_cases d:e<m;(·exact absurd (h e d) k);·by_cases c:m<e;(·exact absurd (i m c) hd);·rw[g];omega
theorem RK(a b:List UInt8)(h:∀j,j<145->ZU a j=ZU b j):J6 a b=-1:=by
 rcases Kg a b with⟨c,_⟩|⟨f,_,d,_,e⟩;·exact c
 ·exact absurd (h f d) e
theorem F1(a b:List UInt8):-1<=J6 a b∧J6 a b<=144:=by
 rcases Kg a b with⟨h,_⟩|⟨m,h,c,_⟩<;>omega
theorem SJ(a b:List UInt8)(ha:a.length<=16)(hb:b.length<=16):J6 a b<0↔a=b:=by
 constructor;·intro h;rcases Kg a b with⟨_,c⟩|⟨m,d,_⟩;(·exact Ox a b ha hb c);·omega
 ·rintro rfl;rw[RK a a fun _ _=>rfl];decide
theorem Fn(x y:UInt8)(a b:List UInt8):sN (x::a) (y::b)=(tN (x<y)||(x==y&&sN a b)):=by
 simp[sN]
theorem MC:∀(p:Nat)(a b:List UInt8),(∀i,i<p->i<a.length∧i<b.length∧a.getD i 0=b.getD i 0)->sN a b=sN (a.drop p) (b.drop p)|0,a,b,_=>by simp|p+1,[],b,h=>by have:=(h 0 (by omega)).1;simp at this|p+1,x::a,[],h=>by have:=(h 0 (by omega)).2.1;simp at this|p+1,x::a,y::b,h=>by have c:=(h 0 (by omega)).2.2;simp at c;subst c;rw[Fn,pW,pW,<-MC p a b fun i d=>by have:=h (i+1) (by omega);simp at this;simpa using this];simp
theorem Bm(a:List UInt8):sN a []=tH:=by
 cases a<;>rfl
theorem FP(a:List UInt8)(p:Nat)(h:p<a.length):a.drop p=a.getD p 0::a.drop (p+1):=by
 rw[sK h];simp[h]
theorem NS(x y j:Nat)(hx:x.testBit j=tH)(hy:y.testBit j=tC)(h:∀i,j<i->x.testBit i=y.testBit i):x<y:=by
 have a:x/2^(j+1)=y/2^(j+1):=by apply pV;intro i;rw[pO,pO];exact h _ (by omega)
 rw[Nat.testBit_eq_decide_div_mod_eq]at hx hy;simp at hx hy;rw[Nat.pow_succ,<-pS,<-pS]at a;exact Nat.lt_of_div_lt_div (c:=2^j) (by omega)
theorem O6(x y:UInt8)(j:Nat)(hd:x.toNat.testBit j≠y.toNat.testBit j)(h:∀i,j<i->x.toNat.testBit i=y.toNat.testBit i):(tN (x<y)||(x==y&&tH))=y.toNat.testBit j:=by
 cases hy:y.toNat.testBit j with|true=>(have a:x.toNat.testBit j=tH:=by cases a:x.toNat.testBit j with|true=>exact absurd (a.trans hy.symm) hd|false=>rfl);have:=NS _ _ j a hy h;simp[sQ,this]|false=>(have a:x.toNat.testBit j=tC:=by cases a:x.toNat.testBit j with|true=>rfl|false=>exact absurd (a.trans hy.symm) hd);have:=NS _ _ j hy a (fun i b=>(h i b).symm);simp[sQ];omega
theorem E0(a b:List UInt8)(m:Nat)(h:∀j,j<m->ZU a j=ZU b j)(hd:ZU a m≠ZU b m):ZU b m=sN a b:=by
 have q:m/9<a.length∨m/9<b.length:=by by_cases r:m/9<a.length;(·exact .inl r);·by_cases s:m/9<b.length;(·exact .inr s);·rw[Mn a m (by omega),Mn b m (by omega)]at hd;exact absurd rfl hd
 have n:∀i,i<m/9->i<a.length∧i<b.length∧a.getD i 0=b.getD i 0:=by intro i t;have k:=h (9*i) (by omega);rw[Ut,Ut]at k;(have c:i<a.length∧i<b.length:=by simp at k;omega);refine⟨c.1,c.2,Ad _ _ fun j v=>?_⟩;have:=h (9*i+(8-j)) (by omega);rw[Uw a i _ c.1 (by omega) (by omega),Uw b i _ c.2 (by omega) (by omega),show 8-(8-j)=j by omega]at this;exact this
 rw[MC (m/9) a b n];by_cases w:m%9=0;·(have o:m=9*(m/9):=by omega);have g:=Ut a (m/9);have f:=Ut b (m/9);rw[<-o]at g f;by_cases d:m/9<b.length;(·have l:¬m/9<a.length:=fun l=>hd (by rw[g,f];simp[l,d]);rw[f,sB (by omega),FP b _ d];simp[d,sN]);·rw[f,sB (show b.length<=m/9by omega),Bm];simp[d]
 ·have k:=h (9*(m/9)) (by omega);rw[Ut,Ut]at k;(have c:m/9<a.length∧m/9<b.length:=by simp at k;omega);(have o:m=9*(m/9)+m%9:=by omega);have g:=Uw a (m/9) (m%9) c.1 (by omega) (by omega);have f:=Uw b (m/9) (m%9) c.2 (by omega) (by omega);rw[<-o]at g f;rw[FP a _ c.1,FP b _ c.2,Fn,f];rw[g,f]at hd;(have p:(a.getD (m/9) 0==b.getD (m/9) 0)=tH:=by rw[beq_eq_false_iff_ne];intro e;rw[e]at hd;exact hd rfl);rw[p,Bool.false_and];have:=O6 (a.getD (m/9) 0) (b.getD (m/9) 0) (8-m%9) hd (fun i t=>by by_cases u:i<8;(·have:=h (9*(m/9)+(8-i)) (by omega);rw[Uw a _ _ c.1 (by omega) (by omega),Uw b _ _ c.2 (by omega) (by omega),show 8-(8-i)=i by omega]at this;exact this);·rw[rC (tY (a.getD (m/9) 0).toNat_lt (rJ (by decide) (by omega:8<=i))),rC (tY (b.getD (m/9) 0).toNat_lt (rJ (by decide) (by omega:8<=i)))]);rw[Bool.and_false]at this;exact this.symm
def Qn(n:Nat):Int:=if 1<=n∧n<=16then 0 else 1
def SI(k:List UInt8)(i:Int):Bool×Int:=if 1<=k.length∧k.length<=16then(if 0<=i∧i<=144then(ZU k i.toNat,0)else(tH,2))else(tH,1)
def TY(a b:List UInt8):Int×Int:=if 1<=a.length∧a.length<=16then(if 1<=b.length∧b.length<=16then(J6 a b,0)else(0,1))else(0,1)
theorem gF(k:List UInt8)(i:Nat)(hk:1<=k.length∧k.length<=16)(hi:i<145):SI k (i:Int)=(ZU k i,0):=by
 rw[SI,if_pos hk,if_pos (by omega)];rfl
theorem cR(a b:List UInt8)(ha:1<=a.length∧a.length<=16)(hb:1<=b.length∧b.length<=16):TY a b=(J6 a b,0):=by
 rw[TY,if_pos ha,if_pos hb]
structure Q9 where
  name : List UInt8
  key : List UInt8
  value : List UInt8
  gone : Bool
def Y5(p:Q9):Prop:=p.name.length<=140737488355328∧p.key.length<=140737488355328∧p.value.length<=140737488355328
def Qp:Q9:=⟨[],[],[],tH⟩
theorem Qi{W w:tA}{b:Nat}{x y z u:tE}{t:rF}(hg:tB W w V)(h:W.heap[b]?=T (tQ #[x,y,z,u] t)):(w.cell? ⟨b,0,V⟩=T x∧w.cell? ⟨b,1,V⟩=T y∧w.cell? ⟨b,2,V⟩=T z∧w.cell? ⟨b,3,V⟩=T u)∧w.frozen? ⟨b,0,V⟩=tH∧w.frozen? ⟨b,1,V⟩=tH∧w.frozen? ⟨b,2,V⟩=tH∧w.frozen? ⟨b,3,V⟩=tH∧w.heap[b]?=T (tQ #[x,y,z,u] t):=by
 have a:w.heap[b]?=T (tQ #[x,y,z,u] t):=by rw[hg.block b (tS.1 h).1 (by simp)];exact h
 refine⟨⟨?_,?_,?_,?_⟩,?_,?_,?_,?_,a⟩;all_goals simp[sF,rD,a]
theorem JH{w:tA}{b:Nat}{x y z u:tE}{t:rF}(h:w.heap[b]?=T (tQ #[x,y,z,u] t))(x' y' z' u':tE):((((tM w ⟨b,0,V⟩ x').setCell ⟨b,1,V⟩ y').setCell ⟨b,2,V⟩ z').setCell ⟨b,3,V⟩ u').heap[b]?=T (tQ #[x',y',z',u'] t)∧(tM w ⟨b,0,V⟩ x').cell? ⟨b,0,V⟩=T x'∧((tM w ⟨b,0,V⟩ x').setCell ⟨b,1,V⟩ y').cell? ⟨b,1,V⟩=T y'∧(((tM w ⟨b,0,V⟩ x').setCell ⟨b,1,V⟩ y').setCell ⟨b,2,V⟩ z').cell? ⟨b,2,V⟩=T z'∧((((tM w ⟨b,0,V⟩ x').setCell ⟨b,1,V⟩ y').setCell ⟨b,2,V⟩ z').setCell ⟨b,3,V⟩ u').cell? ⟨b,3,V⟩=T u':=by
 have a:(tM w ⟨b,0,V⟩ x').heap[b]?=T (tQ #[x',y,z,u] t):=by simp only[tM,tX,if_true,h,sV];first|rfl|simp
 have c:((tM w ⟨b,0,V⟩ x').setCell ⟨b,1,V⟩ y').heap[b]?=T (tQ #[x',y',z,u] t):=by rw[tM,tX,if_pos rfl,a];first|rfl|simp
 have d:(((tM w ⟨b,0,V⟩ x').setCell ⟨b,1,V⟩ y').setCell ⟨b,2,V⟩ z').heap[b]?=T (tQ #[x',y',z',u] t):=by rw[tM,tX,if_pos rfl,c];first|rfl|simp
 have e:((((tM w ⟨b,0,V⟩ x').setCell ⟨b,1,V⟩ y').setCell ⟨b,2,V⟩ z').setCell ⟨b,3,V⟩ u').heap[b]?=T (tQ #[x',y',z',u'] t):=by rw[tM,tX,if_pos rfl,d];first|rfl|simp
 exact⟨e,by simp[sF,a],by simp[sF,c],by simp[sF,d],by simp[sF,e]⟩
theorem Za.setBlk{base:Nat}{w:tA}{v:tE}{bs:List UInt8}(h:Za base w v bs){b:Nat}{cur:Array tE}{t:rF}{fz:Nat×Nat}(hb:w.heap[b]?=T (tQ cur t fz))(ht:t≠5)(i:Nat)(u:tE):Za base (tM w ⟨b,i,V⟩ u) v bs:=by
 refine h.grown (row:=T b) (Qh (Qb _ _) i u) ?_;rcases h.2with⟨rfl,_⟩|⟨g,cap,a,rfl,_,c,_⟩;·exact .inl rfl
 ·right;intro e;simp[o6]at e;subst e;rw[c]at hb;simp at hb;exact ht hb.2.1.symm
theorem JC{w w1:tA}(h:tB w w1 V)(b:Nat)(hb:w.heap.size<=b)(x y z u:tE):tB w ((((tM w1 ⟨b,0,V⟩ x).setCell ⟨b,1,V⟩ y).setCell ⟨b,2,V⟩ z).setCell ⟨b,3,V⟩ u) V:=Qc (Qc (Qc (Qc h _ hb _ _) _ hb _ _) _ hb _ _) _ hb _ _
abbrev Pr:=List UInt8×List UInt8
abbrev PL:=List Pr
abbrev YN(a b:List UInt8):Bool:=sN a b
theorem TI(a:List UInt8):YN a []=tH:=Bm a
theorem PJ(x y:UInt8)(a b:List UInt8):YN (x::a) (y::b)=(tN (x<y)||(x==y&&YN a b)):=Fn x y a b
theorem XY:∀a:List UInt8,YN a a=tH|[]=>rfl|x::a=>by rw[PJ,XY a];simp
theorem Jp:∀a b c:List UInt8,YN a b=tC->YN b c=tC->YN a c=tC|_,[],_,h,_=>by rw[TI]at h;cases h|_,_::_,[],_,h=>by rw[TI]at h;cases h|[],_::_,_::_,_,_=>rfl|x::a,y::b,z::c,e,d=>by rw[PJ]at e d⊢;simp only[o7,decide_eq_true_eq,oY,beq_iff_eq,sQ]at e d⊢;rcases e with e|⟨rfl,e⟩;(·rcases d with d|⟨rfl,d⟩;(·left;omega);·left;exact e);·rcases d with d|⟨rfl,d⟩;(·left;exact d);·right;exact⟨rfl,Jp a b c e d⟩
theorem Uo:∀a b:List UInt8,YN a b=tH->a≠b->YN b a=tC|[],[],_,h=>absurd rfl h|[],_::_,h,_=>by cases h|_::_,[],_,_=>rfl|x::a,y::b,h1,h2=>by rw[PJ]at h1⊢;simp only[rX,decide_eq_false_iff_not,Bool.and_eq_false_iff,beq_eq_false_iff_ne,sQ]at h1;simp only[o7,decide_eq_true_eq,oY,beq_iff_eq,sQ];by_cases e:y=x;(·subst e;right;refine⟨rfl,Uo a b ?_ (fun e=>h2 (by rw[e]))⟩;rcases h1.2with h|h;(·exact absurd rfl h);·exact h);·left;have:x.toNat≠y.toNat:=fun h=>e (oX.1 h.symm);omega
theorem If(a b:List UInt8)(h:YN a b=tC):YN b a=tH:=by
 cases hb:YN b a with|false=>rfl|true=>have:=Jp a b a h hb;rw[XY]at this;cases this
theorem AR{a b:List UInt8}(h:YN a b=tC):a≠b:=by
 rintro rfl;rw[XY]at h;cases h
def QU(p:Pr):Int:=if 32<p.2.length then 1 else Qn p.1.length
def XV(l:PL)(i:Nat):Int:=if QU (l.getD i ([],[]))=0then(if 0<i∧YN (l.getD (i-1) ([],[])).1 (l.getD i ([],[])).1=tH then 3 else 0)else QU (l.getD i ([],[]))
def Kw(l:PL):Nat->Nat->Int|0,_=>0|n+1,i=>if XV l i=0then Kw l n (i+1)else XV l i
def QC(l:PL):Int:=if 60<l.length then 1 else Kw l l.length 0
theorem xT(l:PL)(n i:Nat)(hi:i<=n)(h:∀j,j<i->XV l j=0):Kw l n 0=Kw l (n-i) i:=by
 induction i with|zero=>rfl|succ i ih=>rw[ih (by omega) (fun j a=>h j (by omega)),show n-i=(n-(i+1))+1by omega,Kw,if_pos (h i (by omega))]
theorem uJ(l:PL)(i:Nat)(hi:i<l.length)(hl:l.length<=60)(h:∀j,j<i->XV l j=0)(hf:XV l i≠0):QC l=XV l i:=by
 rw[QC,if_neg (by omega),xT l _ i (by omega) h,show l.length-i=(l.length-(i+1))+1by omega,Kw,if_neg hf]
theorem xS(l:PL)(hl:l.length<=60)(h:∀j,j<l.length->XV l j=0):QC l=0:=by
 rw[QC,if_neg (by omega),xT l _ l.length (sG _) h,Nat.sub_self,Kw]
theorem xO(l:PL)(hl:60<l.length):QC l=1:=by
 rw[QC,if_pos hl]
theorem yU(l:PL):∀(n i:Nat),Kw l n i=0->∀j,i<=j->j<i+n->XV l j=0|0,i,_,j,h1,h2=>by omega|n+1,i,h,j,h1,h2=>by rw[Kw]at h;by_cases e:XV l i=0;(·rw[if_pos e]at h;by_cases a:j=i;(·subst a;exact e);·exact yU l n (i+1) h j (by omega) (by omega));·rw[if_neg e]at h;exact absurd h e
def J7(l:PL):Prop:=l.Pairwise fun p q=>YN p.1 q.1=tC
structure ZG(l:PL):Prop where room:l.length<=60pairs:∀p∈l,(1<=p.1.length∧p.1.length<=16)∧p.2.length<=32rises:J7 l
theorem JS(p:Pr):QU p=0↔(1<=p.1.length∧p.1.length<=16)∧p.2.length<=32:=by
 unfold QU Qn;by_cases h:32<p.2.length;·rw[if_pos h];constructor;(·intro h;cases h);·intro h;omega
 ·rw[if_neg h];by_cases a:1<=p.1.length∧p.1.length<=16;(·rw[if_pos a];exact⟨fun _=>⟨a,by omega⟩,fun _=>rfl⟩);·rw[if_neg a];constructor;(·intro h;cases h);·intro h;exact absurd h.1 a
theorem F7(l:PL)(i:Nat):XV l i=0↔QU (l.getD i ([],[]))=0∧(0<i->YN (l.getD (i-1) ([],[])).1 (l.getD i ([],[])).1=tC):=by
 unfold XV;by_cases h:QU (l.getD i ([],[]))=0;·rw[if_pos h];by_cases a:0<i∧YN (l.getD (i-1) ([],[])).1 (l.getD i ([],[])).1=tH;(·rw[if_pos a];constructor;(·intro h;cases h);·intro b;have:=b.2 a.1;rw[a.2]at this;cases this);·rw[if_neg a];refine⟨fun _=>⟨h,fun c=>?_⟩,fun _=>rfl⟩;cases hk:YN (l.getD (i-1) ([],[])).1 (l.getD i ([],[])).1with|true=>rfl|false=>exact absurd ⟨c,hk⟩ a
 ·rw[if_neg h];constructor;(·intro a;exact absurd a h);·intro a;exact absurd a.1 h
theorem yP:∀l:PL,(∀i,0<i->i<l.length->YN (l.getD (i-1) ([],[])).1 (l.getD i ([],[])).1=tC)->J7 l|[],_=>rH|[_],_=>sX _ _|p::q::r,h=>by(have c:J7 (q::r):=yP (q::r) fun i e d=>by have:=h (i+1) (by omega) (by simp at d⊢;omega);rw[show i+1-1=(i-1)+1by omega]at this;simpa using this);(have a:YN p.1 q.1=tC:=by have:=h 1 (by omega) (by simp);simpa using this);refine tZ (fun x b=>?_) c;rcases tV.1 b with rfl|b;(·exact a);·exact Jp _ _ _ a ((sD.1 c).1 x b)
theorem Vd(l:PL)(h:J7 l)(i j:Nat)(hij:i<j)(hj:j<l.length):YN (l.getD i ([],[])).1 (l.getD j ([],[])).1=tC:=by
 have:=pJ.1 h i j (by omega) hj hij;simpa[hj,show i<l.length by omega]using this
theorem Y1(l:PL):QC l=0↔ZG l:=by
 constructor;·intro h;(have c:l.length<=60:=by by_cases c:60<l.length;(·rw[xO l c]at h;cases h);·omega);rw[QC,if_neg (by omega)]at h;have e:=fun j(b:j<l.length)=>(F7 l j).1 (yU l l.length 0 h j (by omega) (by omega));refine⟨c,fun p f=>?_,yP l fun i d a=>(e i a).2 d⟩;obtain⟨i,a,rfl⟩:=tD.1 f;have:=(JS _).1 (e i a).1;simpa[a]using this
 ·intro h;refine xS l h.room fun j b=>(F7 l j).2 ⟨(JS _).2 ?_,fun d=>Vd l h.rises _ _ (by omega) b⟩;have:=h.pairs l[j] (sH b);simpa[b]using this
theorem dA:ZG []:=⟨by
 simp,by
 simp,rH⟩
def JG(l:PL)(k:List UInt8):Option (List UInt8):=(l.find? fun p=>p.1==k).map (·.2)
theorem Z5(p:Pr)(l:PL)(k:List UInt8):JG (p::l) k=if p.1=k then T p.2 else JG l k:=by
 unfold JG;by_cases h:p.1=k;·rw[pP (by simpa using h),if_pos h];rfl
 ·rw[pQ (by simpa using h),if_neg h]
theorem bO:∀(l:PL)(k:List UInt8)(i:Nat),i<l.length->(∀j,j<i->(l.getD j ([],[])).1≠k)->(l.getD i ([],[])).1=k->JG l k=T (l.getD i ([],[])).2|[],_,_,h,_,_=>by simp at h|p::l,k,0,_,_,h2=>by rw[Z5,if_pos (by simpa using h2)];simp|p::l,k,i+1,h,h1,h2=>by rw[Z5,if_neg (by simpa using h1 0 (by omega))];have:=bO l k i (by simpa using h) (fun j a=>by simpa using h1 (j+1) (by omega)) (by simpa using h2);simpa using this
theorem Rz:∀(l:PL)(k:List UInt8),(∀j,j<l.length->(l.getD j ([],[])).1≠k)->JG l k=V|[],_,_=>rfl|p::l,k,h=>by rw[Z5,if_neg (by simpa using h 0 (by simp))];exact Rz l k fun j a=>by simpa using h (j+1) (by simpa using a)
def JD:PL->Pr->PL|[],p=>[p]|q::r,p=>if YN q.1 p.1=tC then q::JD r p else if q.1=p.1then p::r else p::q::r
def qJ(l:PL)(k:List UInt8):PL:=l.filter fun q=>!(q.1==k)
def Z4(l:PL)(a b:List UInt8):PL:=l.filter fun q=>!YN q.1 a&&!YN b q.1
theorem Dl(l:PL)(p x:Pr):x∈JD l p->x=p∨x∈l:=by
 induction l with|nil=>intro h;simp[JD]at h;exact .inl h|cons q r ih=>intro h;rw[JD]at h;by_cases a:YN q.1 p.1=tC;(·rw[if_pos a]at h;rcases tV.1 h with rfl|h;(·exact .inr (by simp));·rcases ih h with h|h;(·exact .inl h);·exact .inr (sE _ h));·rw[if_neg a]at h;by_cases b:q.1=p.1;(·rw[if_pos b]at h;rcases tV.1 h with h|h;(·exact .inl h);·exact .inr (sE _ h));·rw[if_neg b]at h;rcases tV.1 h with h|h;(·exact .inl h);·exact .inr h
theorem qI(l:PL)(p:Pr)(h:J7 l):J7 (JD l p):=by
 induction l with|nil=>exact sX _ _|cons q r ih=>have c:=sD.1 h;rw[JD];by_cases d:YN q.1 p.1=tC;(·rw[if_pos d];refine tZ (fun x a=>?_) (ih c.2);rcases Dl r p x a with rfl|a;(·exact d);·exact c.1 x a);·rw[if_neg d];by_cases e:q.1=p.1;(·rw[if_pos e];exact tZ (fun x a=>by rw[<-e];exact c.1 x a) c.2);·rw[if_neg e];have b:=Uo _ _ (by simpa using d) e;refine tZ (fun x a=>?_) h;rcases tV.1 a with rfl|a;(·exact b);·exact Jp _ _ _ b (c.1 x a)
theorem DO(l:PL)(p:Pr)(k:List UInt8)(h:J7 l):JG (JD l p) k=if p.1=k then T p.2 else JG l k:=by
 induction l with|nil=>rw[JD,Z5]|cons q r ih=>have d:=sD.1 h;rw[JD];by_cases a:YN q.1 p.1=tC;(·rw[if_pos a,Z5,Z5,ih d.2];by_cases e:p.1=k;(·rw[if_pos e,if_pos e,if_neg (fun c=>AR a (c.trans e.symm))]);·rw[if_neg e,if_neg e]);·rw[if_neg a];by_cases b:q.1=p.1;(·rw[if_pos b,Z5,Z5];by_cases e:p.1=k;(·rw[if_pos e,if_pos e]);·rw[if_neg e,if_neg e,if_neg (by rw[b];exact e)]);·rw[if_neg b,Z5]
theorem Dv(l:PL)(k x:List UInt8):JG (qJ l k) x=if k=x then V else JG l x:=by
 induction l with|nil=>simp[qJ,JG]|cons q r ih=>unfold qJ at ih⊢;by_cases e:q.1=k;(·rw[sY (by simp[e]),ih,Z5];by_cases a:k=x;(·rw[if_pos a,if_pos a]);·rw[if_neg a,if_neg a,if_neg (by rw[e];exact a)]);·rw[pL (by simp[e]),Z5,ih,Z5];by_cases a:k=x;(·rw[if_pos a,if_pos a,if_neg (by rw[<-a];exact e)]);·rw[if_neg a,if_neg a]
theorem kN(l:PL)(k:List UInt8)(h:J7 l):J7 (qJ l k):=sZ _ h
theorem Uv(l:PL)(a b:List UInt8)(h:J7 l):J7 (Z4 l a b):=sZ _ h
theorem Vk(l:PL)(k:List UInt8)(h:∀p∈l,YN k p.1=tC):JG l k=V:=Rz l k fun j a e=>by
 have:=h l[j] (sH a);rw[show l[j]=l.getD j ([],[])by simp[a],e,XY]at this;cases this
theorem Ft:∀(l m:PL),J7 l->J7 m->(∀k,JG l k=JG m k)->l=m|[],[],_,_,_=>rfl|[],q::r,_,_,h=>by have:=h q.1;rw[Z5,if_pos rfl]at this;cases this|p::l,[],_,_,h=>by have:=h p.1;rw[Z5,if_pos rfl]at this;cases this|p::l,q::r,hl,hr,h=>by have b:=sD.1 hl;have c:=sD.1 hr;(have g:p.1=q.1:=by cases e:YN p.1 q.1with|true=>have:=h p.1;rw[Z5,if_pos rfl,Vk (q::r) p.1 fun x a=>by rcases tV.1 a with rfl|a;(·exact e);·exact Jp _ _ _ e (c.1 x a)]at this;cases this|false=>by_cases d:p.1=q.1;(·exact d);·have f:=Uo _ _ e d;have:=h q.1;rw[Z5 (p:=q),if_pos rfl,Vk (p::l) q.1 fun x a=>by rcases tV.1 a with rfl|a;(·exact f);·exact Jp _ _ _ f (b.1 x a)]at this;cases this);(have j:p.2=q.2:=by have:=h p.1;rw[Z5,if_pos rfl,Z5,if_pos g.symm]at this;exact r8 this);have i:p=q:=Prod.ext g j;subst i;congr 1;refine Ft l r b.2 c.2 fun k=>?_;by_cases e:p.1=k;(·subst e;rw[Vk l p.1 b.1,Vk r p.1 c.1]);·have:=h k;rw[Z5,Z5,if_neg e,if_neg e]at this;exact this
def Xh(l:PL)(k:List UInt8):Int:=if QC l=0then Qn k.length else QC l
theorem kR{l:PL}{k:List UInt8}(h:Xh l k=0):ZG l:=by
 unfold Xh at h;by_cases a:QC l=0;·exact(Y1 l).1 a
 ·rw[if_neg a]at h;exact absurd h a
theorem Zf(n:Nat):Qn n=0↔1<=n∧n<=16:=by
 unfold Qn;by_cases h:1<=n∧n<=16;·rw[if_pos h];exact⟨fun _=>h,fun _=>rfl⟩
 ·rw[if_neg h];constructor;(·intro a;cases a);·intro a;exact absurd a h
theorem bX{l:PL}{k:List UInt8}(h:Xh l k=0):1<=k.length∧k.length<=16:=by
 have a:=(Y1 l).2 (kR h);unfold Xh at h;rw[if_pos a]at h;exact(Zf _).1 h
theorem xC{l:PL}{k:List UInt8}(h:ZG l)(hk:1<=k.length∧k.length<=16):Xh l k=0:=by
 unfold Xh;rw[if_pos ((Y1 l).2 h)];exact(Zf _).2 hk
def Rm(l:PL)(k:List UInt8):Bool:=Xh l k==0&&(JG l k).isSome
def Ec(l:PL)(k:List UInt8):List UInt8:=if Xh l k=0then(JG l k).getD []else[]
def yA(l:PL)(k:List UInt8):PL:=if Xh l k=0then qJ l k else[]
theorem Hk(l:PL)(k:List UInt8):(qJ l k).length<=l.length:=rG _ _
def Ya(l:PL)(f t:List UInt8):Int:=if Xh l f=0then Qn t.length else Xh l f
theorem Sb{l:PL}{f t:List UInt8}(h:Ya l f t=0):Xh l f=0:=by
 unfold Ya at h;by_cases a:Xh l f=0;·exact a
 ·rw[if_neg a]at h;exact absurd h a
def Kf(l:PL)(f t:List UInt8):PL:=if Ya l f t=0then Z4 l f t else[]
theorem kP(l:PL)(f t:List UInt8):(Z4 l f t).length<=l.length:=rG _ _
def Gw(l:PL)(p:Pr):Int:=if QC l=0then QU p else QC l
def KG(l:PL)(p:Pr):Int:=if Gw l p=0then(if 60<(JD l p).length then 11 else 0)else Gw l p
def VW(l:PL)(p:Pr):PL:=if KG l p=0then JD l p else[]
theorem gS(l:PL)(p:Pr):(JD l p).length<=l.length+1:=by
 induction l with|nil=>simp[JD]|cons q r ih=>rw[JD];by_cases a:YN q.1 p.1=tC;(·rw[if_pos a];simp;omega);·rw[if_neg a];by_cases b:q.1=p.1;(·rw[if_pos b];simp);·rw[if_neg b];simp
structure vO (l : PL) : Prop where
  many : l.length * 48 <= 140737488355328
  each : ∀ i, i < l.length -> (l.getD i ([], [])).1.length <= 140737488355328 ∧ (l.getD i ([], [])).2.length <= 140737488355328
theorem vO.len{l:PL}(h:vO l):l.length<=140737488355328:=by
 have:=h.many;omega
theorem ZG.fits{l:PL}(h:ZG l):vO l:=by
 refine⟨by have:=h.room;omega,fun i a=>?_⟩;have:=h.pairs l[i] (sH a);rw[show l[i]=l.getD i ([],[])by simp[a]]at this;omega
abbrev Tn:=List UInt8×PL
abbrev FL:=List Tn
def Ye(l:FL):Prop:=l.Pairwise fun p q=>YN p.1 q.1=tC
def U9(l:FL)(k:List UInt8):Option PL:=(l.find? fun p=>p.1==k).map (·.2)
theorem Yh(p:Tn)(l:FL)(k:List UInt8):U9 (p::l) k=if p.1=k then T p.2 else U9 l k:=by
 unfold U9;by_cases h:p.1=k;·rw[pP (by simpa using h),if_pos h];rfl
 ·rw[pQ (by simpa using h),if_neg h]
theorem Ai:∀(l:FL)(k:List UInt8)(i:Nat),i<l.length->(∀j,j<i->(l.getD j ([],[])).1≠k)->(l.getD i ([],[])).1=k->U9 l k=T (l.getD i ([],[])).2|[],_,_,h,_,_=>by simp at h|p::l,k,0,_,_,h2=>by rw[Yh,if_pos (by simpa using h2)];simp|p::l,k,i+1,h,h1,h2=>by rw[Yh,if_neg (by simpa using h1 0 (by omega))];have:=Ai l k i (by simpa using h) (fun j a=>by simpa using h1 (j+1) (by omega)) (by simpa using h2);simpa using this
theorem Ed:∀(l:FL)(k:List UInt8),(∀j,j<l.length->(l.getD j ([],[])).1≠k)->U9 l k=V|[],_,_=>rfl|p::l,k,h=>by rw[Yh,if_neg (by simpa using h 0 (by simp))];exact Ed l k fun j a=>by simpa using h (j+1) (by simpa using a)
def YV:FL->Tn->FL|[],p=>[p]|q::r,p=>if YN q.1 p.1=tC then q::YV r p else if q.1=p.1then p::r else p::q::r
def G5(l:FL)(k:List UInt8):FL:=l.filter fun q=>!(q.1==k)
theorem NK(l:FL)(p x:Tn):x∈YV l p->x=p∨x∈l:=by
 induction l with|nil=>intro h;simp[YV]at h;exact .inl h|cons q r ih=>intro h;rw[YV]at h;by_cases a:YN q.1 p.1=tC;(·rw[if_pos a]at h;rcases tV.1 h with rfl|h;(·exact .inr (by simp));·rcases ih h with h|h;(·exact .inl h);·exact .inr (sE _ h));·rw[if_neg a]at h;by_cases b:q.1=p.1;(·rw[if_pos b]at h;rcases tV.1 h with h|h;(·exact .inl h);·exact .inr (sE _ h));·rw[if_neg b]at h;rcases tV.1 h with h|h;(·exact .inl h);·exact .inr h
theorem D8(l:FL)(p:Tn)(h:Ye l):Ye (YV l p):=by
 induction l with|nil=>exact sX _ _|cons q r ih=>have c:=sD.1 h;rw[YV];by_cases d:YN q.1 p.1=tC;(·rw[if_pos d];refine tZ (fun x a=>?_) (ih c.2);rcases NK r p x a with rfl|a;(·exact d);·exact c.1 x a);·rw[if_neg d];by_cases e:q.1=p.1;(·rw[if_pos e];exact tZ (fun x a=>by rw[<-e];exact c.1 x a) c.2);·rw[if_neg e];have b:=Uo _ _ (by simpa using d) e;refine tZ (fun x a=>?_) h;rcases tV.1 a with rfl|a;(·exact b);·exact Jp _ _ _ b (c.1 x a)
theorem aE(l:FL)(p:Tn)(k:List UInt8)(h:Ye l):U9 (YV l p) k=if p.1=k then T p.2 else U9 l k:=by
 induction l with|nil=>rw[YV,Yh]|cons q r ih=>have d:=sD.1 h;rw[YV];by_cases a:YN q.1 p.1=tC;(·rw[if_pos a,Yh,Yh,ih d.2];by_cases e:p.1=k;(·rw[if_pos e,if_pos e,if_neg (fun c=>AR a (c.trans e.symm))]);·rw[if_neg e,if_neg e]);·rw[if_neg a];by_cases b:q.1=p.1;(·rw[if_pos b,Yh,Yh];by_cases e:p.1=k;(·rw[if_pos e,if_pos e]);·rw[if_neg e,if_neg e,if_neg (by rw[b];exact e)]);·rw[if_neg b,Yh]
theorem WC(l:FL)(k x:List UInt8):U9 (G5 l k) x=if k=x then V else U9 l x:=by
 induction l with|nil=>simp[G5,U9]|cons q r ih=>unfold G5 at ih⊢;by_cases e:q.1=k;(·rw[sY (by simp[e]),ih,Yh];by_cases a:k=x;(·rw[if_pos a,if_pos a]);·rw[if_neg a,if_neg a,if_neg (by rw[e];exact a)]);·rw[pL (by simp[e]),Yh,ih,Yh];by_cases a:k=x;(·rw[if_pos a,if_pos a,if_neg (by rw[<-a];exact e)]);·rw[if_neg a,if_neg a]
theorem Aj(l:FL)(k:List UInt8)(h:Ye l):Ye (G5 l k):=sZ _ h
theorem I6(l:FL)(p:Tn):(YV l p).length<=l.length+1:=by
 induction l with|nil=>simp[YV]|cons q r ih=>rw[YV];by_cases a:YN q.1 p.1=tC;(·rw[if_pos a];simp;omega);·rw[if_neg a];by_cases b:q.1=p.1;(·rw[if_pos b];simp);·rw[if_neg b];simp
theorem MD(l:FL)(k:List UInt8):(G5 l k).length<=l.length:=rG _ _
def Qt(n:Nat):Int:=if 1<=n∧n<=8then 0 else 1
theorem Zm(n:Nat):Qt n=0↔1<=n∧n<=8:=by
 unfold Qt;by_cases h:1<=n∧n<=8;·rw[if_pos h];exact⟨fun _=>h,fun _=>rfl⟩
 ·rw[if_neg h];constructor;(·intro a;cases a);·intro a;exact absurd a h
def XP(t:Tn):Int:=if Qt t.1.length=0then(if t.2.length=0then 4 else QC t.2)else Qt t.1.length
theorem PU(t:Tn):XP t=0↔(1<=t.1.length∧t.1.length<=8)∧t.2≠[]∧ZG t.2:=by
 unfold XP;by_cases h:Qt t.1.length=0;·rw[if_pos h];by_cases a:t.2.length=0;(·rw[if_pos a];constructor;(·intro b;cases b);·intro b;exact absurd (tG a) b.2.1);·rw[if_neg a,Y1];exact⟨fun b=>⟨(Zm _).1 h,fun e=>a (by rw[e];rfl),b⟩,fun b=>b.2.2⟩
 ·rw[if_neg h];constructor;(·intro a;exact absurd a h);·intro a;exact absurd ((Zm _).2 a.1) h
def KJ(l:FL)(i:Nat):Int:=if XP (l.getD i ([],[]))=0then(if 0<i∧YN (l.getD (i-1) ([],[])).1 (l.getD i ([],[])).1=tH then 3 else 0)else XP (l.getD i ([],[]))
def V5(l:FL):Nat->Nat->Int|0,_=>0|n+1,i=>if KJ l i=0then V5 l n (i+1)else KJ l i
def Q5(l:FL):Int:=if 8<l.length then 1 else V5 l l.length 0
theorem uD(l:FL)(n i:Nat)(hi:i<=n)(h:∀j,j<i->KJ l j=0):V5 l n 0=V5 l (n-i) i:=by
 induction i with|zero=>rfl|succ i ih=>rw[ih (by omega) (fun j a=>h j (by omega)),show n-i=(n-(i+1))+1by omega,V5,if_pos (h i (by omega))]
theorem EO(l:FL)(i:Nat)(hi:i<l.length)(hl:l.length<=8)(h:∀j,j<i->KJ l j=0)(hf:KJ l i≠0):Q5 l=KJ l i:=by
 rw[Q5,if_neg (by omega),uD l _ i (by omega) h,show l.length-i=(l.length-(i+1))+1by omega,V5,if_neg hf]
theorem Pb(l:FL)(hl:l.length<=8)(h:∀j,j<l.length->KJ l j=0):Q5 l=0:=by
 rw[Q5,if_neg (by omega),uD l _ l.length (sG _) h,Nat.sub_self,V5]
theorem PH(l:FL)(hl:8<l.length):Q5 l=1:=by
 rw[Q5,if_pos hl]
theorem PA(l:FL):∀(n i:Nat),V5 l n i=0->∀j,i<=j->j<i+n->KJ l j=0|0,i,_,j,h1,h2=>by omega|n+1,i,h,j,h1,h2=>by rw[V5]at h;by_cases e:KJ l i=0;(·rw[if_pos e]at h;by_cases a:j=i;(·subst a;exact e);·exact PA l n (i+1) h j (by omega) (by omega));·rw[if_neg e]at h;exact absurd h e
theorem Nw(l:FL)(i:Nat):KJ l i=0↔XP (l.getD i ([],[]))=0∧(0<i->YN (l.getD (i-1) ([],[])).1 (l.getD i ([],[])).1=tC):=by
 unfold KJ;by_cases h:XP (l.getD i ([],[]))=0;·rw[if_pos h];by_cases a:0<i∧YN (l.getD (i-1) ([],[])).1 (l.getD i ([],[])).1=tH;(·rw[if_pos a];constructor;(·intro h;cases h);·intro b;have:=b.2 a.1;rw[a.2]at this;cases this);·rw[if_neg a];refine⟨fun _=>⟨h,fun c=>?_⟩,fun _=>rfl⟩;cases hk:YN (l.getD (i-1) ([],[])).1 (l.getD i ([],[])).1with|true=>rfl|false=>exact absurd ⟨c,hk⟩ a
 ·rw[if_neg h];constructor;(·intro a;exact absurd a h);·intro a;exact absurd a.1 h
theorem qY:∀l:FL,(∀i,0<i->i<l.length->YN (l.getD (i-1) ([],[])).1 (l.getD i ([],[])).1=tC)->Ye l|[],_=>rH|[_],_=>sX _ _|p::q::r,h=>by(have c:Ye (q::r):=qY (q::r) fun i e d=>by have:=h (i+1) (by omega) (by simp at d⊢;omega);rw[show i+1-1=(i-1)+1by omega]at this;simpa using this);(have a:YN p.1 q.1=tC:=by have:=h 1 (by omega) (by simp);simpa using this);refine tZ (fun x b=>?_) c;rcases tV.1 b with rfl|b;(·exact a);·exact Jp _ _ _ a ((sD.1 c).1 x b)
theorem zX(l:FL)(h:Ye l)(i j:Nat)(hij:i<j)(hj:j<l.length):YN (l.getD i ([],[])).1 (l.getD j ([],[])).1=tC:=by
 have:=pJ.1 h i j (by omega) hj hij;simpa[hj,show i<l.length by omega]using this
structure Zk(l:FL):Prop where room:l.length<=8tens:∀t∈l,(1<=t.1.length∧t.1.length<=8)∧t.2≠[]∧ZG t.2rises:Ye l
theorem Xc(l:FL):Q5 l=0↔Zk l:=by
 constructor;·intro h;(have c:l.length<=8:=by by_cases c:8<l.length;(·rw[PH l c]at h;cases h);·omega);rw[Q5,if_neg (by omega)]at h;have e:=fun j(b:j<l.length)=>(Nw l j).1 (PA l l.length 0 h j (by omega) (by omega));refine⟨c,fun p f=>?_,qY l fun i d a=>(e i a).2 d⟩;obtain⟨i,a,rfl⟩:=tD.1 f;have:=(PU _).1 (e i a).1;simpa[a]using this
 ·intro h;refine Pb l h.room fun j b=>(Nw l j).2 ⟨(PU _).2 ?_,fun d=>zX l h.rises _ _ (by omega) b⟩;have:=h.tens l[j] (sH b);simpa[b]using this
theorem JA:Zk []:=⟨by
 simp,by
 simp,rH⟩
def XT(l:FL)(n:List UInt8):PL:=(U9 l n).getD []
theorem lQ(n:List UInt8):XT [] n=[]:=rfl
theorem Y0{l:FL}(h:Zk l)(n:List UInt8):ZG (XT l n):=by
 unfold XT U9;cases hf:l.find? (fun p=>p.1==n)with|none=>exact dA|some t=>exact(h.tens t (List.mem_of_find?_eq_some hf)).2.2
def Qz(w:Q9):Int:=if Qt w.name.length=0then(if w.gone=tC then(if Qn w.key.length=0then(if 0<w.value.length then 4 else 0)else Qn w.key.length)else QU (w.key,w.value))else Qt w.name.length
def X6(l:FL)(w:Q9):PL:=if w.gone=tC then qJ (XT l w.name) w.key else JD (XT l w.name) (w.key,w.value)
def zD(l:FL)(w:Q9):Int:=if w.gone=tC then Xh (XT l w.name) w.key else KG (XT l w.name) (w.key,w.value)
def QS(l:FL)(w:Q9):FL:=if(X6 l w).length=0then G5 l w.name else YV l (w.name,X6 l w)
def Xq(l:FL)(w:Q9):Int:=if zD l w=0then(if 8<(QS l w).length then 11 else 0)else zD l w
def Zr:FL->List Q9->Int|_,[]=>0|l,w::ws=>if Qz w=0then(if Xq l w=0then Zr (QS l w) ws else Xq l w)else Qz w
def Xl:FL->List Q9->FL|l,[]=>l|l,w::ws=>Xl (QS l w) ws
def QR(l:FL)(ws:List Q9):Int:=if Q5 l=0then(if 10<ws.length then 1 else Zr l ws)else Q5 l
def Xk(l:FL)(ws:List Q9):FL:=if QR l ws=0then Xl l ws else[]
theorem XD(w:Q9):Qz w=0↔(1<=w.name.length∧w.name.length<=8)∧(1<=w.key.length∧w.key.length<=16)∧(if w.gone=tC then w.value=[]else w.value.length<=32):=by
 unfold Qz;by_cases b:Qt w.name.length=0;·rw[if_pos b];have c:=(Zm _).1 b;by_cases d:w.gone=tC;(·rw[if_pos d,if_pos d];by_cases a:Qn w.key.length=0;(·rw[if_pos a];have f:=(Zf _).1 a;by_cases e:0<w.value.length;(·rw[if_pos e];constructor;(·intro h;cases h);·intro h;rw[h.2.2]at e;simp at e);·rw[if_neg e];exact⟨fun _=>⟨c,f,tG (by omega)⟩,fun _=>rfl⟩);·rw[if_neg a];constructor;(·intro h;exact absurd h a);·intro h;exact absurd ((Zf _).2 h.2.1) a);·rw[if_neg d,if_neg d,JS];exact⟨fun h=>⟨c,h.1,h.2⟩,fun h=>⟨h.2.1,h.2.2⟩⟩
 ·rw[if_neg b];constructor;(·intro h;exact absurd h b);·intro h;exact absurd ((Zm _).2 h.1) b
theorem O9{l:FL}(h:Zk l){w:Q9}(hw:Qz w=0)(he:zD l w=0):ZG (X6 l w):=by
 obtain⟨_,g,f⟩:=(XD w).1 hw;have b:=Y0 h w.name;unfold X6;unfold zD at he;by_cases e:w.gone=tC;·rw[if_pos e];exact⟨rA (Hk _ _) b.room,fun p i=>b.pairs p (rU.1 i).1,kN _ _ b.rises⟩
 ·rw[if_neg e]at he f⊢;(have a:¬60<(JD (XT l w.name) (w.key,w.value)).length:=by intro a;unfold KG at he;by_cases c:Gw (XT l w.name) (w.key,w.value)=0;(·rw[if_pos c,if_pos a]at he;cases he);·rw[if_neg c]at he;exact c he);refine⟨by omega,fun q d=>?_,qI _ _ b.rises⟩;rcases Dl _ _ q d with rfl|d;(·exact⟨g,f⟩);·exact b.pairs q d
theorem Na{l:FL}(h:Ye l)(w:Q9):Ye (QS l w):=by
 unfold QS;by_cases a:(X6 l w).length=0;·rw[if_pos a];exact Aj _ _ h
 ·rw[if_neg a];exact D8 _ _ h
theorem EJ{l:FL}(h:Ye l)(w:Q9)(n:List UInt8):XT (QS l w) n=if w.name=n then X6 l w else XT l n:=by
 unfold QS;by_cases a:(X6 l w).length=0;·rw[if_pos a];have b:X6 l w=[]:=tG a;rw[b];unfold XT;rw[WC];by_cases e:w.name=n;(·rw[if_pos e,if_pos e];rfl);·rw[if_neg e,if_neg e]
 ·rw[if_neg a];unfold XT;rw[aE _ _ _ h];by_cases e:w.name=n;(·rw[if_pos e,if_pos e];rfl);·rw[if_neg e,if_neg e]
theorem Jq{l:FL}(h:Zk l){w:Q9}(hw:Qz w=0)(he:Xq l w=0):Zk (QS l w):=by
 have c:zD l w=0:=by by_cases a:zD l w=0;(·exact a);·unfold Xq at he;rw[if_neg a]at he;exact absurd he a
 have f:(QS l w).length<=8:=by unfold Xq at he;rw[if_pos c]at he;by_cases d:8<(QS l w).length;(·rw[if_pos d]at he;cases he);·omega
 obtain⟨g,_,_⟩:=(XD w).1 hw;refine⟨f,fun t b=>?_,Na h.rises w⟩;unfold QS at b;by_cases a:(X6 l w).length=0;·rw[if_pos a]at b;exact h.tens t (rU.1 b).1
 ·rw[if_neg a]at b;rcases NK _ _ t b with rfl|b;(·exact⟨g,fun e=>a (by rw[show X6 l w=[]from e];rfl),O9 h hw c⟩);·exact h.tens t b
structure Rd where
  name : List UInt8
  key : List UInt8
  wide : Bool
  last : List UInt8
def Zj:Rd:=⟨[],[],tH,[]⟩
def XQ(r:Rd):Int:=if Qt r.name.length=0then(if Qn r.key.length=0then(if r.wide=tC then Qn r.last.length else(if 0<r.last.length then 4 else 0))else Qn r.key.length)else Qt r.name.length
theorem Nv(r:Rd):XQ r=0↔(1<=r.name.length∧r.name.length<=8)∧(1<=r.key.length∧r.key.length<=16)∧(if r.wide=tC then 1<=r.last.length∧r.last.length<=16 else r.last=[]):=by
 unfold XQ;by_cases c:Qt r.name.length=0;·rw[if_pos c];have d:=(Zm _).1 c;by_cases a:Qn r.key.length=0;(·rw[if_pos a];have b:=(Zf _).1 a;by_cases f:r.wide=tC;(·rw[if_pos f,if_pos f,Zf];exact⟨fun h=>⟨d,b,h⟩,fun h=>h.2.2⟩);·rw[if_neg f,if_neg f];by_cases e:0<r.last.length;(·rw[if_pos e];exact⟨fun h=>by omega,fun h=>by rw[h.2.2]at e;simp at e⟩);·rw[if_neg e];exact⟨fun _=>⟨d,b,tG (by omega)⟩,fun _=>rfl⟩);·rw[if_neg a];exact⟨fun h=>absurd h a,fun h=>absurd ((Zf _).2 h.2.1) a⟩
 ·rw[if_neg c];exact⟨fun h=>absurd h c,fun h=>absurd ((Zm _).2 h.1) c⟩
def Xg(w:tA)(v:tE)(p:Q9):Prop:=∃vn vk vv,v=oV #[vn,vk,pT p.gone,vv]∧Qe w vn p.name∧Qe w vk p.key∧Qe w vv p.value
theorem Xg.grown{w w':tA}{v:tE}{p:Q9}(h:Xg w v p)(hg:tB w w' V):Xg w' v p:=by
 obtain⟨e,d,f,rfl,a,b,c⟩:=h;exact⟨e,d,f,rfl,a.grown hg,b.grown hg,c.grown hg⟩
theorem Xg.aggW{w:tA}{v:tE}{p:Q9}(h:Xg w v p):∃na nc ka kc va vc,v=oV #[tP na p.name.length nc,tP ka p.key.length kc,pT p.gone,tP va p.value.length vc]:=by
 obtain⟨e,d,f,rfl,a,b,c⟩:=h;obtain⟨na,nc,rfl⟩:=a.shape;obtain⟨ka,kc,rfl⟩:=b.shape;obtain⟨va,vc,rfl⟩:=c.shape;exact⟨na,nc,ka,kc,va,vc,rfl⟩
def Ps(w:tA)(b o:Nat)(p:Q9):Prop:=∃vn vk vv,w.cell? ⟨b,o,V⟩=T vn∧w.cell? ⟨b,o+1,V⟩=T vk∧w.cell? ⟨b,o+2,V⟩=T (pT p.gone)∧w.cell? ⟨b,o+3,V⟩=T vv∧Qe w vn p.name∧Qe w vk p.key∧Qe w vv p.value
theorem Ps.grown{w w':tA}{b o:Nat}{p:Q9}(h:Ps w b o p)(hg:tB w w' V):Ps w' b o p:=by
 obtain⟨k,j,l,a,c,d,e,f,g,i⟩:=h;exact⟨k,j,l,hg.cell a (by simp),hg.cell c (by simp),hg.cell d (by simp),hg.cell e (by simp),f.grown hg,g.grown hg,i.grown hg⟩
def QO(w:tA)(v:tE)(l:List Q9):Prop:=∃a cap,v=tP a l.length cap∧l.length<=cap∧((l=[]∧(a=V->cap=0))∨∃b o,a=T ⟨b,o,V⟩∧∀i,i<l.length->Ps w b (o+i*4) (l.getD i Qp))
theorem QO.shape{w:tA}{v:tE}{l:List Q9}(h:QO w v l):∃a cap,v=tP a l.length cap:=by
 obtain⟨a,cap,rfl,_⟩:=h;exact⟨a,cap,rfl⟩
theorem QO.grown{w w':tA}{v:tE}{l:List Q9}(h:QO w v l)(hg:tB w w' V):QO w' v l:=by
 obtain⟨a,cap,rfl,c,h⟩:=h;refine⟨a,cap,rfl,c,?_⟩;rcases h with h|⟨b,o,rfl,h⟩;·exact .inl h
 ·exact .inr ⟨b,o,rfl,fun i d=>(h i d).grown hg⟩
theorem QO.at{w:tA}{a:Option pK}{n cap:Nat}{l:List Q9}(h:QO w (tP a n cap) l)(i:Nat)(hi:i<l.length):∃b o,a=T ⟨b,o,V⟩∧Ps w b (o+i*4) (l.getD i Qp):=by
 obtain⟨d,c,e,f,h⟩:=h;simp only[rK]at e;obtain⟨rfl,rfl,rfl⟩:=e;rcases h with⟨rfl,_⟩|⟨b,o,rfl,h⟩;·simp at hi
 ·exact⟨b,o,rfl,h i hi⟩
structure vS (l : List Q9) : Prop where
  many : l.length * 80 <= 140737488355328
  each : ∀ i, i < l.length -> Y5 (l.getD i Qp)
theorem vS.len{l:List Q9}(h:vS l):l.length<=140737488355328:=by
 have:=h.many;omega
structure Xx where
  turn : Int
  writes : List Q9
def Zq:Xx:=⟨0,[]⟩
def Sa:Nat->List Q9->Int|_,[]=>0|i,w::ws=>if(if 10<=i then(1:Int)else Qz w)=0then Sa (i+1) ws else(if 10<=i then(1:Int)else Qz w)
def Zb(c:Xx):Int:=if 1<=c.turn∧c.turn<=1048576then(if c.writes.length=0then 1 else Sa 0 c.writes)else 2
theorem Wg:∀(ws:List Q9)(i:Nat),Sa i ws=0↔(ws=[]∨i+ws.length<=10)∧∀w∈ws,Qz w=0|[],i=>by simp[Sa]|w::ws,i=>by have f:=Wg ws (i+1);rw[Sa];by_cases b:10<=i;(·rw[if_pos b,if_neg (by omega)];constructor;(·intro h;omega);·rintro⟨h|h,_⟩;(·cases h);·simp at h;omega);·rw[if_neg b];by_cases d:Qz w=0;(·rw[if_pos d,f];constructor;(·rintro⟨a,c⟩;refine⟨.inr ?_,?_⟩;(·rcases a with rfl|a;(·simp;omega);·simp;omega);·intro x e;rcases tV.1 e with rfl|e;(·exact d);·exact c x e);·rintro⟨a,c⟩;refine⟨.inr ?_,fun x e=>c x (sE _ e)⟩;rcases a with a|a;(·cases a);·simp at a;omega);·rw[if_neg d];constructor;(·intro h;exact absurd h d);·rintro⟨_,c⟩;exact absurd (c w (pA ..)) d
theorem Uf(c:Xx):Zb c=0↔(1<=c.turn∧c.turn<=1048576)∧(1<=c.writes.length∧c.writes.length<=10)∧∀w∈c.writes,Qz w=0:=by
 unfold Zb;by_cases a:1<=c.turn∧c.turn<=1048576;·rw[if_pos a];by_cases b:c.writes.length=0;(·rw[if_pos b];constructor;(·intro h;omega);·rintro⟨_,h,_⟩;omega);·rw[if_neg b,Wg];constructor;(·rintro⟨d|d,e⟩;(·rw[d]at b;simp at b);·exact⟨a,⟨by omega,by omega⟩,e⟩);·rintro⟨_,d,e⟩;exact⟨.inr (by omega),e⟩
 ·rw[if_neg a];constructor;(·intro h;omega);·rintro⟨h,_⟩;exact absurd h a
theorem eT(ws:List Q9)(i:Nat)(h:i<ws.length):Sa i (ws.drop i)=if(if 10<=i then(1:Int)else Qz (ws.getD i Qp))=0then Sa (i+1) (ws.drop (i+1))else(if 10<=i then(1:Int)else Qz (ws.getD i Qp)):=by
 rw[sK h,Sa,show ws[i]=ws.getD i Qp by simp[h]]
theorem gJ(ws:List Q9):Sa ws.length (ws.drop ws.length)=0:=by
 rw[List.drop_length,Sa]
def XX(p:List UInt8):List UInt8:=tK p.length::p
theorem zJ(p:List UInt8):(XX p).length=p.length+1:=rfl
def G0(w:Q9):List UInt8:=if w.gone=tC then[255]else XX w.value
def Yp(w:Q9):List UInt8:=XX w.name++XX w.key++G0 w
def Vy(t n:Nat):List UInt8:=[tK (t/65536),tK (t/256%256),tK (t%256),tK n]
def Zo(c:Xx):List UInt8:=Vy c.turn.toNat c.writes.length++c.writes.flatMap Yp
def ZC:List UInt8->Option (List UInt8×List UInt8)|[]=>V|x::r=>if x.toNat<=r.length then T (r.take x.toNat,r.drop x.toNat)else V
def Pf(n k r:List UInt8):Option (Q9×List UInt8):=if r.head?=T 255then T (⟨n,k,[],tC⟩,r.tail)else match ZC r with|T (v,r2)=>T (⟨n,k,v,tH⟩,r2)|none=>V
def DB(n r:List UInt8):Option (Q9×List UInt8):=match ZC r with|T (k,r2)=>Pf n k r2|none=>V
def Jn(r:List UInt8):Option (Q9×List UInt8):=match ZC r with|T (n,r2)=>DB n r2|none=>V
def ZW:Nat->List UInt8->Option (List Q9×List UInt8)|0,r=>T ([],r)|n+1,r=>match Jn r with|T (w,r1)=>(match ZW n r1 with|T (ws,r2)=>T (w::ws,r2)|none=>V)|none=>V
theorem CS{p:List UInt8}(h:p.length<256):(tK p.length).toNat=p.length:=by
 simp;omega
theorem VX(p r:List UInt8)(h:p.length<256):ZC (XX p++r)=T (p,r):=by
 show ZC (tK p.length::(p++r))=_;rw[ZC,CS h,if_pos (by simp),rV,rW]<;>rfl
theorem GQ{r p r2:List UInt8}(h:ZC r=T (p,r2)):r=XX p++r2:=by
 cases r with|nil=>cases h|cons x r=>rw[ZC]at h;by_cases a:x.toNat<=r.length;(·rw[if_pos a]at h;simp only[tW,sJ]at h;obtain⟨rfl,rfl⟩:=h;(have b:(r.take x.toNat).length=x.toNat:=by simp;omega);show x::r=tK (r.take x.toNat).length::(r.take x.toNat++r.drop x.toNat);rw[b,tL];simp);·rw[if_neg a]at h;cases h
theorem Su{r p r2:List UInt8}(h:ZC r=T (p,r2))(x:List UInt8):ZC (r++x)=T (p,r2++x):=by
 cases r with|nil=>cases h|cons y r=>rw[ZC]at h;by_cases a:y.toNat<=r.length;(·rw[if_pos a]at h;simp only[tW,sJ]at h;obtain⟨rfl,rfl⟩:=h;show ZC (y::(r++x))=_;rw[ZC,if_pos (by simp;omega),pF a,pG a]);·rw[if_neg a]at h;cases h
theorem SR{w:Q9}(hw:Qz w=0)(r:List UInt8):Jn (Yp w++r)=T (w,r):=by
 obtain⟨d,f,b⟩:=(XD w).1 hw;unfold Jn Yp;rw[tJ,tJ,VX _ _ (by omega)];show DB w.name (XX w.key++(G0 w++r))=_;unfold DB;rw[VX _ _ (by omega)];show Pf w.name w.key (G0 w++r)=_;unfold Pf G0;by_cases a:w.gone=tC;·rw[if_pos a]at b⊢;rw[if_pos (by rfl)];obtain⟨n,k,v,g⟩:=w;simp only at a b;subst a b;rfl
 ·rw[if_neg a]at b⊢;rw[if_neg,VX _ _ (by omega)];(·obtain⟨n,k,v,g⟩:=w;simp only[Bool.not_eq_true]at a;subst a;rfl);·show¬(T (tK w.value.length)=T 255);intro e;have:=congrArg UInt8.toNat (r8 e);rw[CS (by omega)]at this;have c:(255:UInt8).toNat=255:=rfl;omega
theorem Th:∀(ws:List Q9)(_:∀w∈ws,Qz w=0)(r:List UInt8),ZW ws.length (ws.flatMap Yp++r)=T (ws,r)|[],_,r=>rfl|w::ws,h,r=>by show ZW (ws.length+1) ((w::ws).flatMap Yp++r)=_;rw[ZW,rO,tJ,SR (h w (pA ..))];show(match ZW ws.length (ws.flatMap Yp++r)with|T (ws',r2)=>T (w::ws',r2)|none=>V)=_;rw[Th ws (fun x a=>h x (sE _ a)) r]
theorem Cv{r r2:List UInt8}{w:Q9}(h:Jn r=T (w,r2)):r=Yp w++r2:=by
 unfold Jn at h;cases h1:ZC r with|none=>rw[h1]at h;cases h|some q=>obtain⟨n,c⟩:=q;rw[h1]at h;have h:DB n c=T (w,r2):=h;unfold DB at h;cases h2:ZC c with|none=>rw[h2]at h;cases h|some q=>obtain⟨k,a⟩:=q;rw[h2]at h;have h:Pf n k a=T (w,r2):=h;rw[GQ h1,GQ h2];unfold Pf at h;by_cases b:a.head?=T 255;(·rw[if_pos b]at h;simp only[tW,sJ]at h;obtain⟨rfl,rfl⟩:=h;cases a with|nil=>cases b|cons x a=>obtain rfl:x=255:=r8 b;show XX n++(XX k++255::a)=XX n++XX k++[255]++a;simp[tJ]);·rw[if_neg b]at h;cases h3:ZC a with|none=>rw[h3]at h;cases h|some q=>obtain⟨v,d⟩:=q;rw[h3]at h;simp only[tW,sJ]at h;obtain⟨rfl,rfl⟩:=h;rw[GQ h3];show XX n++(XX k++(XX v++d))=XX n++XX k++XX v++d;simp[tJ]
theorem PZ:∀(n:Nat){r r2:List UInt8}{ws:List Q9},ZW n r=T (ws,r2)->r=ws.flatMap Yp++r2∧ws.length=n|0,r,r2,ws,h=>by rw[ZW]at h;simp only[tW,sJ]at h;obtain⟨rfl,rfl⟩:=h;exact⟨rfl,rfl⟩|n+1,r,r2,ws,h=>by rw[ZW]at h;cases h1:Jn r with|none=>rw[h1]at h;cases h|some q=>obtain⟨w,a⟩:=q;rw[h1]at h;have h:(match ZW n a with|T (ws,r2)=>T (w::ws,r2)|none=>V)=T (ws,r2):=h;cases h2:ZW n a with|none=>rw[h2]at h;cases h|some q=>obtain⟨d,e⟩:=q;rw[h2]at h;simp only[tW,sJ]at h;obtain⟨rfl,rfl⟩:=h;obtain⟨b,c⟩:=PZ n h2;exact⟨by rw[Cv h1,b,rO,tJ],by simp[c]⟩
theorem yO : ∀ (n : Nat) (r : List UInt8), ZW (n + 1) r = match ZW n r with | T (ws, r1) => (match Jn r1 with | T (w, r2) => T (ws ++ [w], r2) | none => V) | none => V
  | 0, r => by
    rw [ZW]
    cases h : Jn r with
    | none => simp [ZW, h]
    | some q => obtain ⟨w, a⟩ := q; simp [ZW, h]
  | n + 1, r => by
    rw [ZW]
    cases h : Jn r with
    | none =>
      show V = _
      rw [ZW, h]
    | some q =>
      obtain ⟨w, a⟩ := q
      show (match ZW (n + 1) a with | T (ws, r2) => T (w :: ws, r2) | none => V) = _
      rw [yO n a, show ZW (n + 1) r = (match ZW n a with | T (ws, r2) => T (w :: ws, r2) | none => V) by rw [ZW, h]]
      cases h2 : ZW n a with
      | none => rfl
      | some q =>
        obtain ⟨ws, b⟩ := q
        show (match (match Jn b with | T (w, r2) => T (ws ++ [w], r2) | none => V) with | T (ws, r2) => T (w :: ws, r2) | none => V) = (match Jn b with | T (w', r2) => T (w :: ws ++ [w'], r2) | none => V)
        cases Jn b with
        | none => rfl
        | some q => rfl
def GD(b:List UInt8):Nat:=65536*(b.getD 0 0).toNat+256*(b.getD 1 0).toNat+(b.getD 2 0).toNat
def qV(b:List UInt8):Option (List Q9×List UInt8):=ZW (b.getD 3 0).toNat (b.drop 4)
def YU(b:List UInt8):Int:=if 4000<b.length then 1 else if b.length<4then 14 else match qV b with|none=>14|T (ws,r)=>if r.length=0then Zb ⟨(GD b:Int),ws⟩else 4
def JT(b:List UInt8):Xx:=if YU b=0then(match qV b with|T (ws,_)=>⟨(GD b:Int),ws⟩|none=>Zq)else Zq
theorem FF(t n:Nat):(Vy t n).length=4:=rfl
theorem OK(t n:Nat)(x:List UInt8)(ht:t<=1048576):GD (Vy t n++x)=t:=by
 show 65536*(tK (t/65536)).toNat+256*(tK (t/256%256)).toNat+(tK (t%256)).toNat=t;simp only[pX];omega
theorem Il(t n:Nat)(x:List UInt8)(hn:n<=10):((Vy t n++x).getD 3 0).toNat=n:=by
 show(tK n).toNat=n;simp;omega
theorem WN(t n:Nat)(x:List UInt8):(Vy t n++x).drop 4=x:=rfl
theorem Lw{w:Q9}(hw:Qz w=0):(Yp w).length=3+w.name.length+w.key.length+w.value.length∧(Yp w).length<=59:=by
 obtain⟨c,d,a⟩:=(XD w).1 hw;unfold Yp G0;by_cases b:w.gone=tC;·rw[if_pos b]at a⊢;rw[a];simp only[tF,zJ,pE,List.length_nil];omega
 ·rw[if_neg b]at a⊢;simp only[tF,zJ];omega
def Hf(ws:List Q9):Nat:=(ws.map fun w=>3+w.name.length+w.key.length+w.value.length).sum
theorem yX:∀(ws:List Q9)(_:∀w∈ws,Qz w=0),(ws.flatMap Yp).length=Hf ws∧(ws.flatMap Yp).length<=59*ws.length|[],_=>by simp[Hf]|w::ws,h=>by obtain⟨b,c⟩:=yX ws (fun x a=>h x (sE _ a));obtain⟨d,e⟩:=Lw (h w (pA ..));rw[rO,tF];unfold Hf at b⊢;rw[o9,List.sum_cons,pE];omega
theorem Vx{c:Xx}(h:Zb c=0):(Zo c).length=4+Hf c.writes∧(Zo c).length<=594:=by
 obtain⟨_,b,a⟩:=(Uf c).1 h;obtain⟨d,e⟩:=yX c.writes a;unfold Zo;rw[tF,FF];omega
theorem Cz{c:Xx}(h:Zb c=0)(x:List UInt8):qV (Zo c++x)=T (c.writes,x)∧GD (Zo c++x)=c.turn.toNat:=by
 obtain⟨d,a,b⟩:=(Uf c).1 h;unfold qV Zo;rw[tJ,Il _ _ _ a.2,WN,OK _ _ _ (by omega)];exact⟨Th _ b _,rfl⟩
theorem Ca{c:Xx}(h:Zb c=0):YU (Zo c)=0∧JT (Zo c)=c:=by
 obtain⟨f,g,i⟩:=(Uf c).1 h;obtain⟨j,k⟩:=Vx h;obtain⟨a,b⟩:=Cz h [];rw[sA]at a b;have d:(⟨(GD (Zo c):Int),c.writes⟩:Xx)=c:=by rw[b,Int.toNat_of_nonneg (by omega)]
 have e:YU (Zo c)=0:=by rw[YU,if_neg (by omega),if_neg (by omega),a];show(if([]:List UInt8).length=0then Zb ⟨(GD (Zo c):Int),c.writes⟩else 4)=0;rw[if_pos (show([]:List UInt8).length=0from rfl),d,h]
 refine⟨e,?_⟩;rw[JT,if_pos e,a];exact d
theorem Db{b:List UInt8}(h:YU b=0):Zb (JT b)=0∧Zo (JT b)=b:=by
 have c:JT b=(match qV b with|T (a,_)=>⟨(GD b:Int),a⟩|none=>Zq):=by rw[JT,if_pos h]
 rw[YU]at h;by_cases g:4000<b.length;·rw[if_pos g]at h;omega
 rw[if_neg g]at h;by_cases d:b.length<4;·rw[if_pos d]at h;omega
 rw[if_neg d]at h;cases hb:qV b with|none=>rw[hb]at h;simp at h|some q=>obtain⟨a,r⟩:=q;rw[hb]at h c;have h:(if r.length=0then Zb ⟨(GD b:Int),a⟩else 4)=0:=h;have c:JT b=⟨(GD b:Int),a⟩:=c;by_cases e:r.length=0;(·rw[if_pos e]at h;obtain rfl:r=[]:=tG e;rw[c];refine⟨h,?_⟩;obtain⟨n,o,p⟩:=(Uf _).1 h;unfold qV at hb;obtain⟨f,i⟩:=PZ _ hb;rw[sA]at f;show Vy ((GD b:Int)).toNat a.length++a.flatMap Yp=b;rw[<-f,i,rP];match b,d with|x0::x1::x2::x3::t,_=>show Vy (65536*x0.toNat+256*x1.toNat+x2.toNat) x3.toNat++t=_;have j:=x0.toNat_lt;have k:=x1.toNat_lt;have l:=x2.toNat_lt;have m:=x3.toNat_lt;unfold Vy;rw[show(65536*x0.toNat+256*x1.toNat+x2.toNat)/65536=x0.toNat by omega,show(65536*x0.toNat+256*x1.toNat+x2.toNat)/256%256=x1.toNat by omega,show(65536*x0.toNat+256*x1.toNat+x2.toNat)%256=x2.toNat by omega];simp);·rw[if_neg e]at h;omega
def Tt(b:List UInt8):List UInt8:=tK (b.length/256)::tK (b.length%256)::b
theorem yG(b:List UInt8):(Tt b).length=b.length+2:=rfl
def ZM(D:List UInt8->List UInt8)(c:Xx):List UInt8:=Tt (Zo c)++D (Tt (Zo c))
def Zn(r:List UInt8):Nat:=256*(r.getD 0 0).toNat+(r.getD 1 0).toNat
def XU(D:List UInt8->List UInt8)(r:List UInt8):Option (Xx×List UInt8):=if r.length<6then V else if r.length<Zn r+6∨4000<Zn r+2then V else if D (r.take (Zn r+2))=(r.drop (Zn r+2)).take 4then(if YU ((r.drop 2).take (Zn r))=0then T (JT ((r.drop 2).take (Zn r)),r.drop (Zn r+6))else V)else V
theorem Sj{D:List UInt8->List UInt8}{r r2:List UInt8}{c:Xx}(h:XU D r=T (c,r2)):∃m,6<=m∧m<=r.length∧r2=r.drop m∧Zb c=0:=by
 unfold XU at h;by_cases b:r.length<6;·rw[if_pos b]at h;cases h
 rw[if_neg b]at h;by_cases d:r.length<Zn r+6∨4000<Zn r+2;·rw[if_pos d]at h;cases h
 rw[if_neg d]at h;by_cases e:D (r.take (Zn r+2))=(r.drop (Zn r+2)).take 4;·rw[if_pos e]at h;by_cases a:YU ((r.drop 2).take (Zn r))=0;(·rw[if_pos a]at h;simp only[tW,sJ]at h;obtain⟨rfl,rfl⟩:=h;exact⟨Zn r+6,by omega,by omega,rfl,(Db a).1⟩);·rw[if_neg a]at h;cases h
 ·rw[if_neg e]at h;cases h
theorem N6{b:List UInt8}(h:b.length<65536)(x:List UInt8):Zn (Tt b++x)=b.length:=by
 show 256*(tK (b.length/256)).toNat+(tK (b.length%256)).toNat=b.length;simp only[pX];omega
theorem Fv{D:List UInt8->List UInt8}(hD:∀x,(D x).length=4)(c:Xx):(ZM D c).length=(Zo c).length+6:=by
 unfold ZM;rw[tF,hD,yG]
theorem Sc{D:List UInt8->List UInt8}(hD:∀x,(D x).length=4){c:Xx}(h:Zb c=0)(r:List UInt8):XU D (ZM D c++r)=T (c,r):=by
 obtain⟨l,m⟩:=Vx h;obtain⟨d,e⟩:=Ca h;have a:=Fv hD c;have k:Zn (ZM D c++r)=(Zo c).length:=by unfold ZM;rw[tJ];exact N6 (by omega) _
 have j:(ZM D c++r).take ((Zo c).length+2)=Tt (Zo c):=by unfold ZM;rw[tJ];exact rV (yG _)
 have f:(ZM D c++r).drop ((Zo c).length+2)=D (Tt (Zo c))++r:=by unfold ZM;rw[tJ];exact rW (yG _)
 have i:((ZM D c++r).drop 2).take (Zo c).length=Zo c:=by unfold ZM;rw[tJ];exact rV rfl
 have g:(ZM D c++r).drop ((Zo c).length+6)=r:=rW a;have b:(ZM D c++r).length=(Zo c).length+6+r.length:=by rw[tF,a]
 unfold XU;rw[if_neg (by omega),k,if_neg (by omega),j,f,i,g,if_pos (rV (hD _)).symm,if_pos d,e]
theorem Hd{D:List UInt8->List UInt8}(hD:∀x,(D x).length=4){c:Xx}(h:Zb c=0)(k:Nat)(hk:k<(ZM D c).length):XU D ((ZM D c).take k)=V:=by
 obtain⟨f,g⟩:=Vx h;have e:=Fv hD c;have b:((ZM D c).take k).length=k:=by simp;omega
 unfold XU;by_cases d:k<6;·rw[if_pos (by omega)]
 ·(have a:Zn ((ZM D c).take k)=(Zo c).length:=by(have a:Zn (ZM D c++[])=(Zo c).length:=by unfold ZM;rw[tJ];exact N6 (by omega) _);rw[sA]at a;rw[<-a];unfold Zn;simp only[List.getD_eq_getElem?_getD,pZ];rw[if_pos (by omega),if_pos (by omega)]);rw[if_neg (by omega),a,if_pos (by omega)]
def K4(D:List UInt8->List UInt8)(turn:Nat)(r:List UInt8):List Xx×List UInt8:=match h:XU D r with|T (c,r2)=>if c.turn=(turn:Int)then(c::(K4 D (turn+1) r2).1,(K4 D (turn+1) r2).2)else([],r)|none=>([],r)termination_by r.length decreasing_by
 all_goals obtain⟨m,h1,h2,h3,_⟩:=Sj h;rw[h3,o5];omega
theorem aV{D:List UInt8->List UInt8}{turn:Nat}{r r2:List UInt8}{c:Xx}(h:XU D r=T (c,r2))(ht:c.turn=(turn:Int)):K4 D turn r=(c::(K4 D (turn+1) r2).1,(K4 D (turn+1) r2).2):=by
 rw[K4];split;·next c' r' h'=>rw[h]at h';simp only[tW,sJ]at h';obtain⟨rfl,rfl⟩:=h';rw[if_pos ht]
 ·next h'=>rw[h]at h';cases h'
theorem Om{D:List UInt8->List UInt8}{turn:Nat}{r r2:List UInt8}{c:Xx}(h:XU D r=T (c,r2))(ht:c.turn≠(turn:Int)):K4 D turn r=([],r):=by
 rw[K4];split;·next c' r' h'=>rw[h]at h';simp only[tW,sJ]at h';obtain⟨rfl,rfl⟩:=h';rw[if_neg ht]
 ·rfl
theorem Eb{D:List UInt8->List UInt8}{turn:Nat}{r:List UInt8}(h:XU D r=V):K4 D turn r=([],r):=by
 rw[K4];split;·next c' r' h'=>rw[h]at h';cases h'
 ·rfl
theorem OO(D:List UInt8->List UInt8):XU D []=V:=by
 unfold XU;rw[if_pos (by simp)]
def zZ:Nat->List Xx->Prop|_,[]=>True|t,c::cs=>c.turn=(t:Int)∧Zb c=0∧zZ (t+1) cs
theorem zZ.take:∀{t:Nat}{cs:List Xx}(_:zZ t cs)(j:Nat),zZ t (cs.take j)|_,[],_,j=>by rw[List.take_nil];trivial|_,c::cs,_,0=>trivial|t,c::cs,h,j+1=>⟨h.1,h.2.1,zZ.take h.2.2 j⟩
def QZ(D:List UInt8->List UInt8)(cs:List Xx):List UInt8:=cs.flatMap (ZM D)
theorem Uc(D:List UInt8->List UInt8)(c:Xx)(cs:List Xx):QZ D (c::cs)=ZM D c++QZ D cs:=rO
theorem V9(D:List UInt8->List UInt8)(a b:List Xx):QZ D (a++b)=QZ D a++QZ D b:=List.flatMap_append
theorem Fm(D:List UInt8->List UInt8)(c:Xx):QZ D [c]=ZM D c:=by
 simp[QZ]
def CA(D:List UInt8->List UInt8)(r:List UInt8):Nat:=r.length-(K4 D 1 r).2.length
theorem Aq{D:List UInt8->List UInt8}(hD:∀x,(D x).length=4):∀{t:Nat}{cs:List Xx}(_:zZ t cs)(k:Nat),∃j,j<=cs.length∧K4 D t ((QZ D cs).take k)=(cs.take j,((QZ D cs).take k).drop (QZ D (cs.take j)).length)∧(QZ D (cs.take j)).length<=k∧(QZ D (cs.take j)).length<=(QZ D cs).length∧(j<cs.length->k<(QZ D (cs.take (j+1))).length)|t,[],_,k=>⟨0,by simp,by show K4 D t (([]:List UInt8).take k)=_;rw[List.take_nil,Eb (OO D)];simp[QZ],by simp[QZ],by simp[QZ],fun h=>by simp at h⟩|t,c::cs,h,k=>by by_cases a:k<(ZM D c).length;(·refine⟨0,by simp,?_,by simp[QZ],by simp[QZ],fun _=>?_⟩;(·rw[Uc,pF (by omega),Eb (Hd hD h.2.1 k a)];simp[QZ]);·show k<(QZ D [c]).length;rw[Fm];exact a);·obtain⟨j,g,b,i,l,d⟩:=Aq hD h.2.2 (k-(ZM D c).length);(have f:(QZ D (c::cs)).take k=ZM D c++(QZ D cs).take (k-(ZM D c).length):=by rw[Uc,List.take_append,pN (by omega)]);refine⟨j+1,by simp;omega,?_,?_,?_,fun e=>?_⟩;(·rw[f,aV (Sc hD h.2.1 _) h.1,b,sM,Uc];rw[tF,<-List.drop_drop,rW rfl]);(·rw[sM,Uc,tF];omega);(·rw[sM,Uc,Uc,tF,tF];omega);·have:=d (by simpa using e);rw[sM,Uc,tF];omega
theorem Vq(D:List UInt8->List UInt8)(cs:List Xx)(i j:Nat)(h:i<=j):(QZ D (cs.take i)).length<=(QZ D (cs.take j)).length:=by
 have:cs.take i=(cs.take j).take i:=by rw[List.take_take,o8 h]
 rw[this];conv=>rhs;rw[<-tL i (cs.take j),V9]
 rw[tF];omega
theorem EC{D:List UInt8->List UInt8}{cs:List Xx}{k j i:Nat}(hi:i<=cs.length)(hj:j<cs.length->k<(QZ D (cs.take (j+1))).length)(hk:(QZ D (cs.take i)).length<=k):i<=j:=by
 by_cases h:i<=j;·exact h
 ·have:=Vq D cs (j+1) i (by omega);have:=hj (by omega);omega
theorem NZ(t:PL)(p:Pr)(h:∀q∈t,(1<=q.1.length∧q.1.length<=16)∧q.2.length<=32)(hp:(1<=p.1.length∧p.1.length<=16)∧p.2.length<=32):∀q∈JD t p,(1<=q.1.length∧q.1.length<=16)∧q.2.length<=32:=by
 intro q a;rcases Dl t p q a with rfl|a;·exact hp
 ·exact h q a
theorem Wt:∀(t:PL)(p:Pr)(k:Nat),k<=t.length->(∀j,j<k->YN (t.getD j ([],[])).1 p.1=tC)->(k<t.length->YN (t.getD k ([],[])).1 p.1=tH)->JD t p=if k<t.length∧(t.getD k ([],[])).1=p.1then t.set k p else t.take k++([p]++t.drop k)|[],p,k,a,_,_=>by(obtain rfl:k=0:=by simpa using a);simp[JD]|q::r,p,0,_,_,h2=>by have h:=h2 (by simp);simp only[sC]at h;rw[JD,if_neg (by rw[h];simp)];by_cases e:q.1=p.1;(·rw[if_pos e,if_pos ⟨by simp,by simpa using e⟩];simp);·rw[if_neg e,if_neg (fun h=>e (by simpa using h.2))];simp|q::r,p,k+1,a,h1,h2=>by have h:=h1 0 (by omega);simp only[sC]at h;rw[JD,if_pos h,Wt r p k (by simpa using a) (fun j b=>by simpa using h1 (j+1) (by omega)) (fun a=>by simpa using h2 (by simpa using a))];by_cases e:k<r.length∧(r.getD k ([],[])).1=p.1;(·rw[if_pos e,if_pos ⟨by simpa using e.1,by simpa using e.2⟩];simp);·rw[if_neg e,if_neg (fun h=>e ⟨by simpa using h.1,by simpa using h.2⟩)];simp
theorem fJ(t:PL)(p:Pr)(h:ZG t)(hp:(1<=p.1.length∧p.1.length<=16)∧p.2.length<=32)(hl:t.length<60):KG t p=0∧VW t p=JD t p∧ZG (JD t p):=by
 have c:Gw t p=0:=by rw[Gw,if_pos ((Y1 t).2 h)];exact(JS p).2 hp
 have b:=gS t p;have a:KG t p=0:=by rw[KG,if_pos c,if_neg (by omega)]
 exact⟨a,by rw[VW,if_pos a],⟨by omega,NZ t p h.pairs hp,qI t p h.rises⟩⟩
theorem Io(t:PL)(f u:List UInt8)(h:ZG t)(hf:1<=f.length∧f.length<=16)(hu:1<=u.length∧u.length<=16):Ya t f u=0∧Kf t f u=Z4 t f u∧ZG (Z4 t f u):=by
 have a:Ya t f u=0:=by rw[Ya,if_pos (xC h hf)];exact(Zf _).2 hu
 refine⟨a,by rw[Kf,if_pos a],⟨rA (kP t f u) h.room,fun p b=>h.pairs p (rU.1 b).1,Uv t f u h.rises⟩⟩
def cK(m:Nat)(l:FL):Prop:=∀n,(XT l n).length<=m
theorem IS:cK 0 []:=fun n=>by
 rw[lQ];simp
theorem iO{l:FL}{m:Nat}(h:Zk l){w:Q9}(hw:Qz w=0)(hs:cK m l)(hm:m<60):zD l w=0:=by
 obtain⟨_,c,d⟩:=(XD w).1 hw;have a:=Y0 h w.name;have e:=hs w.name;unfold zD;by_cases b:w.gone=tC;·rw[if_pos b];exact xC a c
 ·rw[if_neg b]at d⊢;exact(fJ _ _ a ⟨c,d⟩ (by omega)).1
theorem T9{l:FL}{m:Nat}(h:Zk l){w:Q9}(hw:Qz w=0)(hs:cK m l)(hm:m<60):Xq l w=if 8<(QS l w).length then 11 else 0:=by
 rw[Xq,if_pos (iO h hw hs hm)]
theorem Co(l:FL)(w:Q9):(QS l w).length<=l.length+1:=by
 unfold QS;by_cases a:(X6 l w).length=0;·rw[if_pos a];have:=MD l w.name;omega
 ·rw[if_neg a];exact I6 _ _
theorem jP{l:FL}(h:Zk l)(w:Q9)(n k:List UInt8):JG (XT (QS l w) n) k=if w.name=n∧w.key=k then(if w.gone=tC then V else T w.value)else JG (XT l n) k:=by
 rw[EJ h.rises];by_cases e:w.name=n;·subst e;rw[if_pos rfl];unfold X6;by_cases b:w.gone=tC;(·rw[if_pos b,if_pos b,Dv];by_cases a:w.key=k;(·rw[if_pos a,if_pos ⟨rfl,a⟩]);·rw[if_neg a,if_neg (fun h=>a h.2)]);·rw[if_neg b,if_neg b,DO _ _ _ (Y0 h _).rises];by_cases a:w.key=k;(·rw[if_pos a,if_pos ⟨rfl,a⟩]);·rw[if_neg a,if_neg (fun h=>a h.2)]
 ·rw[if_neg e,if_neg (fun h=>e h.1)]
theorem zW:∀(ws:List Q9)(l:FL),Zk l->Zr l ws=0->Zk (Xl l ws)|[],l,h,_=>h|w::ws,l,h,he=>by rw[Zr]at he;by_cases b:Qz w=0;(·rw[if_pos b]at he;by_cases a:Xq l w=0;(·rw[if_pos a]at he;exact zW ws _ (Jq h b a) he);·rw[if_neg a]at he;exact absurd he a);·rw[if_neg b]at he;exact absurd he b
def qD(l:FL)(n:List UInt8):Int:=if Q5 l=0then Qt n.length else Q5 l
theorem bK{l:FL}{n:List UInt8}(h:Zk l)(hn:1<=n.length∧n.length<=8):qD l n=0:=by
 rw[qD,if_pos ((Xc l).2 h)];exact(Zm _).2 hn
theorem zV{l:FL}{n:List UInt8}(h:qD l n=0):Zk l∧(1<=n.length∧n.length<=8):=by
 unfold qD at h;by_cases a:Q5 l=0;·rw[if_pos a]at h;exact⟨(Xc l).1 a,(Zm _).1 h⟩
 ·rw[if_neg a]at h;exact absurd h a
def JZ(l:FL)(n k:List UInt8):Int:=if qD l n=0then Xh (XT l n) k else qD l n
def Y8(l:FL)(n k:List UInt8):Bool:=if qD l n=0then Rm (XT l n) k else tH
def Ja(l:FL)(n k:List UInt8):List UInt8:=if qD l n=0then Ec (XT l n) k else[]
theorem TL{l:FL}(h:Zk l)(n k:List UInt8)(hn:1<=n.length∧n.length<=8)(hk:1<=k.length∧k.length<=16):JZ l n k=0∧Y8 l n k=(JG (XT l n) k).isSome∧Ja l n k=(JG (XT l n) k).getD []:=by
 have a:=bK h hn;have b:=xC (Y0 h n) hk;refine⟨by rw[JZ,if_pos a,b],by rw[Y8,if_pos a,Rm,b];rfl,by rw[Ja,if_pos a,Ec,if_pos b]⟩
def Z9(l:FL)(n f t:List UInt8):Int:=if qD l n=0then Ya (XT l n) f t else qD l n
def Xo(l:FL)(n f t:List UInt8):PL:=if qD l n=0then Kf (XT l n) f t else[]
theorem kS{l:FL}(h:Zk l)(n f t:List UInt8)(hn:1<=n.length∧n.length<=8)(hf:1<=f.length∧f.length<=16)(ht:1<=t.length∧t.length<=16):Z9 l n f t=0∧Xo l n f t=Z4 (XT l n) f t:=by
 have a:=bK h hn;obtain⟨b,c,_⟩:=Io _ f t (Y0 h n) hf ht;exact⟨by rw[Z9,if_pos a,b],by rw[Xo,if_pos a,c]⟩
structure Rq where
  kind : Int
  name : List UInt8
  key : List UInt8
  last : List UInt8
  value : List UInt8
def Zc:Rq:=⟨0,[],[],[],[]⟩
def QT(k:Int):Bool:=tN (2<=k∧k<=5)||tN (k=8)
def kE(r:Rq):Int:=if QT r.kind=tC then(if Qt r.name.length=0then(if Qn r.key.length=0then(if r.kind=3then Qn r.last.length else 0)else Qn r.key.length)else Qt r.name.length)else 0
def E5(r:Rq):Int:=if QT r.kind=tH∧0<r.name.length+r.key.length then 4 else if(r.kind≠3∧0<r.last.length)∨(r.kind≠4∧0<r.value.length)then 4 else 0
def Yr(r:Rq):Int:=if 1<=r.kind∧r.kind<=8then(if kE r=0then(if 32<r.value.length then 1 else E5 r)else kE r)else 5
structure Yb(r:Rq):Prop where kind:1<=r.kind∧r.kind<=8name:QT r.kind=tC->1<=r.name.length∧r.name.length<=8key:QT r.kind=tC->1<=r.key.length∧r.key.length<=16last:r.kind=3->1<=r.last.length∧r.last.length<=16value:r.value.length<=32noName:QT r.kind=tH->r.name=[]noKey:QT r.kind=tH->r.key=[]noLast:r.kind≠3->r.last=[]noValue:r.kind≠4->r.value=[]
theorem Ti(r:Rq):kE r=0↔(QT r.kind=tC->(1<=r.name.length∧r.name.length<=8)∧(1<=r.key.length∧r.key.length<=16)∧(r.kind=3->1<=r.last.length∧r.last.length<=16)):=by
 unfold kE;by_cases h:QT r.kind=tC;·rw[if_pos h];by_cases a:Qt r.name.length=0;(·rw[if_pos a];by_cases b:Qn r.key.length=0;(·rw[if_pos b];by_cases c:r.kind=3;(·rw[if_pos c,Zf];exact⟨fun e _=>⟨(Zm _).1 a,(Zf _).1 b,fun _=>e⟩,fun e=>(e h).2.2 c⟩);·rw[if_neg c];exact⟨fun _ _=>⟨(Zm _).1 a,(Zf _).1 b,fun e=>absurd e c⟩,fun _=>rfl⟩);·rw[if_neg b];exact⟨fun e=>absurd e b,fun e=>(Zf _).2 (e h).2.1⟩);·rw[if_neg a];exact⟨fun e=>absurd e a,fun e=>(Zm _).2 (e h).1⟩
 ·rw[if_neg h];exact⟨fun _ e=>absurd e h,fun _=>rfl⟩
theorem I8{l:List UInt8}(h:¬0<l.length):l=[]:=tG (by
 omega)
theorem Ls(r:Rq):E5 r=0↔(QT r.kind=tH->r.name=[]∧r.key=[])∧(r.kind≠3->r.last=[])∧(r.kind≠4->r.value=[]):=by
 unfold E5;by_cases b:QT r.kind=tH∧0<r.name.length+r.key.length;·rw[if_pos b];refine⟨fun e=>(by cases e),fun e=>?_⟩;have:=e.1 b.1;rw[this.1,this.2]at b;simp at b
 ·rw[if_neg b];by_cases a:(r.kind≠3∧0<r.last.length)∨(r.kind≠4∧0<r.value.length);(·rw[if_pos a];refine⟨fun e=>(by cases e),fun e=>?_⟩;rcases a with a|a;(·rw[e.2.1 a.1]at a;simp at a);·rw[e.2.2 a.1]at a;simp at a);·rw[if_neg a];refine⟨fun _=>⟨fun h=>?_,fun h=>I8 fun e=>a (.inl ⟨h,e⟩),fun h=>I8 fun e=>a (.inr ⟨h,e⟩)⟩,fun _=>rfl⟩;have c:¬0<r.name.length+r.key.length:=fun e=>b ⟨h,e⟩;exact⟨I8 (by omega),I8 (by omega)⟩
theorem GK(r:Rq):Yr r=0↔Yb r:=by
 unfold Yr;by_cases a:1<=r.kind∧r.kind<=8;·rw[if_pos a];by_cases b:kE r=0;(·rw[if_pos b];have c:=(Ti r).1 b;by_cases f:32<r.value.length;(·rw[if_pos f];exact⟨fun e=>(by cases e),fun e=>by have:=e.value;omega⟩);·rw[if_neg f,Ls];refine⟨fun⟨d,g,i⟩=>⟨a,fun h=>(c h).1,fun h=>(c h).2.1,fun h=>(c (by rw[h];decide)).2.2 h,by omega,fun h=>(d h).1,fun h=>(d h).2,g,i⟩,fun e=>⟨fun h=>⟨e.noName h,e.noKey h⟩,e.noLast,e.noValue⟩⟩);·rw[if_neg b];refine⟨fun e=>absurd e b,fun e=>(Ti r).2 fun h=>⟨e.name h,e.key h,e.last⟩⟩
 ·rw[if_neg a];exact⟨fun e=>(by cases e),fun e=>absurd e.kind a⟩
def Xs(c:Bool)(p:List UInt8):List UInt8:=if c=tC then XX p else[]
def Jt(c:Bool)(r:List UInt8):Option (List UInt8×List UInt8):=if c=tC then ZC r else T ([],r)
theorem kA(c:Bool)(p r:List UInt8)(h:c=tC->p.length<256)(h0:c=tH->p=[]):Jt c (Xs c p++r)=T (p,r):=by
 cases c with|true=>exact VX p r (h rfl)|false=>rw[h0 rfl];rfl
theorem Gm{c:Bool}{r p r2:List UInt8}(h:Jt c r=T (p,r2)):r=Xs c p++r2:=by
 cases c with|true=>exact GQ h|false=>(obtain⟨rfl,rfl⟩:[]=p∧r=r2:=by simpa[Jt]using h);rfl
theorem kU{c:Bool}{r p r2:List UInt8}(h:Jt c r=T (p,r2))(x:List UInt8):Jt c (r++x)=T (p,r2++x):=by
 cases c with|true=>exact Su h x|false=>(obtain⟨rfl,rfl⟩:[]=p∧r=r2:=by simpa[Jt]using h);rfl
theorem Ok{c:Bool}{r p r2:List UInt8}(h:Jt c r=T (p,r2))(hc:c=tH):p=[]:=by
 subst hc;have:[]=p∧r=r2:=by simpa[Jt]using h
 exact this.1.symm
def xU(r:Rq):List UInt8:=Xs (QT r.kind) r.name++(Xs (QT r.kind) r.key++(Xs (tN (r.kind=3)) r.last++Xs (tN (r.kind=4)) r.value))
def Yj(r:Rq):List UInt8:=tK r.kind.toNat::xU r
def VQ(k:Int)(n q l r:List UInt8):Option (Rq×List UInt8):=match Jt (tN (k=4)) r with|T (v,r2)=>T (⟨k,n,q,l,v⟩,r2)|none=>V
def VR(k:Int)(n q r:List UInt8):Option (Rq×List UInt8):=match Jt (tN (k=3)) r with|T (l,r2)=>VQ k n q l r2|none=>V
def VO(k:Int)(n r:List UInt8):Option (Rq×List UInt8):=match Jt (QT k) r with|T (q,r2)=>VR k n q r2|none=>V
def Ym(k:Int)(r:List UInt8):Option (Rq×List UInt8):=match Jt (QT k) r with|T (n,r2)=>VO k n r2|none=>V
theorem Ma{r:Rq}(h:Yb r)(x:List UInt8):Ym r.kind (xU r++x)=T (r,x):=by
 have a:=kA (QT r.kind) r.name (Xs (QT r.kind) r.key++(Xs (tN (r.kind=3)) r.last++(Xs (tN (r.kind=4)) r.value++x))) (fun e=>by have:=h.name e;omega) h.noName;have b:=kA (QT r.kind) r.key (Xs (tN (r.kind=3)) r.last++(Xs (tN (r.kind=4)) r.value++x)) (fun e=>by have:=h.key e;omega) h.noKey;have c:=kA (tN (r.kind=3)) r.last (Xs (tN (r.kind=4)) r.value++x) (fun e=>by have:=h.last (by simpa using e);omega) (fun e=>h.noLast (by simpa using e));have d:=kA (tN (r.kind=4)) r.value x (fun _=>by have:=h.value;omega) (fun e=>h.noValue (by simpa using e));rw[xU,tJ,tJ,tJ,Ym,a];show VO _ _ _=_;rw[VO,b];show VR _ _ _ _=_;rw[VR,c];show VQ _ _ _ _ _=_;rw[VQ,d]
theorem vJ{k:Int}{b x:List UInt8}{r:Rq}(h:Ym k b=T (r,x)):r.kind=k∧∃r1 r2 r3,Jt (QT k) b=T (r.name,r1)∧Jt (QT k) r1=T (r.key,r2)∧Jt (tN (k=3)) r2=T (r.last,r3)∧Jt (tN (k=4)) r3=T (r.value,x):=by
 rw[Ym]at h;match h1:Jt (QT k) b with|none=>rw[h1]at h;cases h|T (n,r1)=>rw[h1]at h;replace h:VO k n r1=T (r,x):=h;rw[VO]at h;match h2:Jt (QT k) r1 with|none=>rw[h2]at h;cases h|T (q,r2)=>rw[h2]at h;replace h:VR k n q r2=T (r,x):=h;rw[VR]at h;match h3:Jt (tN (k=3)) r2 with|none=>rw[h3]at h;cases h|T (l,r3)=>rw[h3]at h;replace h:VQ k n q l r3=T (r,x):=h;rw[VQ]at h;match h4:Jt (tN (k=4)) r3 with|none=>rw[h4]at h;cases h|T (v,r4)=>rw[h4]at h;(obtain⟨rfl,rfl⟩:(⟨k,n,q,l,v⟩:Rq)=r∧r4=x:=by simpa using h);exact⟨rfl,r1,r2,r3,rfl,h2,h3,h4⟩
theorem fO{k:Int}{b r1 r2 r3 x n q l v:List UInt8}(h1:Jt (QT k) b=T (n,r1))(h2:Jt (QT k) r1=T (q,r2))(h3:Jt (tN (k=3)) r2=T (l,r3))(h4:Jt (tN (k=4)) r3=T (v,x)):Ym k b=T (⟨k,n,q,l,v⟩,x):=by
 rw[Ym,h1];show VO _ _ _=_;rw[VO,h2];show VR _ _ _ _=_;rw[VR,h3];show VQ _ _ _ _ _=_;rw[VQ,h4]
theorem Rn{k:Int}{b x:List UInt8}{r:Rq}(h:Ym k b=T (r,x)):b=xU r++x∧r.kind=k:=by
 obtain⟨a,g,i,j,c,d,e,f⟩:=vJ h;refine⟨?_,a⟩;rw[xU,a,Gm c,Gm d,Gm e,Gm f];simp[tJ]
theorem IF{k:Int}{b y:List UInt8}{r:Rq}(h:Ym k b=T (r,y))(x:List UInt8):Ym k (b++x)=T (r,y++x):=by
 obtain⟨f,g,i,j,a,c,d,e⟩:=vJ h;have:=fO (kU a x) (kU c x) (kU d x) (kU e x);rw[this,<-f]
def US(b:List UInt8):Int:=((b.getD 0 0).toNat:Int)
def Xz(b:List UInt8):Int:=if 4000<b.length then 1 else if b.length=0then 14 else if 1<=US b∧US b<=8then(match Ym (US b) (b.drop 1)with|none=>14|T (r,x)=>if x.length=0then Yr r else 4)else 5
def Xp(b:List UInt8):Rq:=if Xz b=0then(match Ym (US b) (b.drop 1)with|T (r,_)=>r|none=>Zc)else Zc
theorem Mp{r:Rq}(h:Yb r)(x:List UInt8):US (Yj r++x)=r.kind∧(Yj r++x).drop 1=xU r++x:=by
 have a:=h.kind;refine⟨?_,rfl⟩;show(((tK r.kind.toNat).toNat:Nat):Int)=r.kind;simp;omega
theorem Ul(c:Bool)(p:List UInt8):(Xs c p).length<=p.length+1:=by
 cases c with|true=>exact sG _|false=>exact Nat.zero_le _
theorem vQ{r:Rq}(h:Yb r):(Yj r).length<=78∧1<=(Yj r).length:=by
 have f:=Ul (QT r.kind) r.name;have g:=Ul (QT r.kind) r.key;have i:=Ul (tN (r.kind=3)) r.last;have j:=Ul (tN (r.kind=4)) r.value;have a:r.name.length<=8:=by by_cases e:QT r.kind=tC;(·exact(h.name e).2);·rw[h.noName (by simpa using e)];simp
 have b:r.key.length<=16:=by by_cases e:QT r.kind=tC;(·exact(h.key e).2);·rw[h.noKey (by simpa using e)];simp
 have c:r.last.length<=16:=by by_cases e:r.kind=3;(·exact(h.last e).2);·rw[h.noLast e];simp
 have d:=h.value;have e:(Yj r).length=1+(Xs (QT r.kind) r.name).length+(Xs (QT r.kind) r.key).length+(Xs (tN (r.kind=3)) r.last).length+(Xs (tN (r.kind=4)) r.value).length:=by rw[Yj,xU,pE,tF,tF,tF];omega
 omega
theorem qW{r:Rq}(h:Yb r):Xz (Yj r)=0∧Xp (Yj r)=r:=by
 have d:=vQ h;obtain⟨a,b⟩:=Mp h [];rw[sA]at a b;have c:=Ma h [];have e:Xz (Yj r)=0:=by rw[Xz,if_neg (by omega),if_neg (by omega),a,if_pos h.kind,b,c];show(if([]:List UInt8).length=0then Yr r else 4)=0;rw[if_pos (by simp)];exact(GK r).2 h
 refine⟨e,?_⟩;rw[Xp,if_pos e,a,b,c]
theorem mY{r:Rq}(h:Yb r)(k:Nat)(hk:k<(Yj r).length):Xz ((Yj r).take k)=14:=by
 have j:=vQ h;have e:((Yj r).take k).length=k:=by rw[List.length_take];omega
 rw[Xz,if_neg (by omega)];by_cases c:k=0;·rw[if_pos (by omega)]
 ·rw[if_neg (by omega)];have l:(Yj r).take k++(Yj r).drop k=Yj r:=tL _ _;(have a:US ((Yj r).take k)=r.kind:=by obtain⟨b,_⟩:=Mp h [];rw[sA]at b;rw[<-b];match k,c with|k+1,_=>rfl);rw[a,if_pos h.kind];match hD:Ym r.kind (((Yj r).take k).drop 1)with|none=>rfl|T (r',y)=>have f:=IF hD ((Yj r).drop k);(have g:((Yj r).take k).drop 1++(Yj r).drop k=xU r:=by match k,c with|k+1,_=>show(xU r).take k++(xU r).drop k=xU r;exact tL _ _);rw[g]at f;have d:=Ma h [];rw[sA,f]at d;(have i:y++(Yj r).drop k=[]:=by have:=congrArg (fun o=>o.map Prod.snd) d;simpa using this);have:=congrArg List.length i;rw[tF,o5]at this;simp at this;omega
theorem Mj{b:List UInt8}(h:Xz b=0):Yr (Xp b)=0∧Yj (Xp b)=b:=by
 have j:=h;rw[Xz]at h;by_cases f:4000<b.length;·rw[if_pos f]at h;cases h
 ·rw[if_neg f]at h;by_cases a:b.length=0;(·rw[if_pos a]at h;cases h);·rw[if_neg a]at h;by_cases g:1<=US b∧US b<=8;(·rw[if_pos g]at h;match hD:Ym (US b) (b.drop 1)with|none=>rw[hD]at h;cases h|T (r,x)=>rw[hD]at h;replace h:(if x.length=0then Yr r else 4)=0:=h;by_cases d:x.length=0;(·rw[if_pos d]at h;(have k:Xp b=r:=by rw[Xp,if_pos j,hD]);rw[k];refine⟨h,?_⟩;obtain⟨e,i⟩:=Rn hD;rw[tG d,sA]at e;rw[Yj,<-e,i];match b,a with|c::b,_=>show tK ((c.toNat:Nat):Int).toNat::b=c::b;simp);·rw[if_neg d]at h;cases h);·rw[if_neg g]at h;cases h
theorem kT{b:List UInt8}(h:Xz b≠0):Xp b=Zc:=by
 rw[Xp,if_neg h]
def UH(r:Rq):Int:=if Yr r=0then(if r.kind=2∨r.kind=3then 0 else 7)else Yr r
def QV(r:Rq):Rd:=if UH r=0then⟨r.name,r.key,tN (r.kind=3),r.last⟩else Zj
def Jz(r:Rq):Int:=if Yr r=0then(if r.kind=4∨r.kind=5then 0 else 7)else Yr r
def Xu(r:Rq):Q9:=if Jz r=0then⟨r.name,r.key,r.value,tN (r.kind=5)⟩else Qp
theorem dE{r:Rq}(h:UH r=0):XQ (QV r)=0:=by
 have f:=h;unfold UH at h;by_cases b:Yr r=0;·rw[if_pos b]at h;have d:=(GK r).1 b;by_cases a:r.kind=2∨r.kind=3;(·(have e:QT r.kind=tC:=by rcases a with a|a<;>rw[a]<;>decide);rw[QV,if_pos f,Nv];refine⟨d.name e,d.key e,?_⟩;show if tN (r.kind=3)=tC then _ else _;by_cases c:r.kind=3;(·rw[if_pos (by simpa using c)];exact d.last c);·rw[if_neg (by simpa using c)];exact d.noLast c);·rw[if_neg a]at h;cases h
 ·rw[if_neg b]at h;exact absurd h b
theorem NQ{r:Rq}(h:Jz r=0):Qz (Xu r)=0:=by
 have f:=h;unfold Jz at h;by_cases b:Yr r=0;·rw[if_pos b]at h;have c:=(GK r).1 b;by_cases a:r.kind=4∨r.kind=5;(·(have e:QT r.kind=tC:=by rcases a with a|a<;>rw[a]<;>decide);rw[Xu,if_pos f,XD];refine⟨c.name e,c.key e,?_⟩;show if tN (r.kind=5)=tC then _ else _;by_cases d:r.kind=5;(·rw[if_pos (by simpa using d)];exact c.noValue (by omega));·rw[if_neg (by simpa using d)];exact c.value);·rw[if_neg a]at h;cases h
 ·rw[if_neg b]at h;exact absurd h b
theorem Ru{r:Rq}(h:Yb r):UH r=(if r.kind=2∨r.kind=3then 0 else 7)∧Jz r=(if r.kind=4∨r.kind=5then 0 else 7):=by
 have:=(GK r).2 h;exact⟨by rw[UH,if_pos this],by rw[Jz,if_pos this]⟩
def bT(l:List Ac):List UInt8:=l.flatMap fun a=>nZ a++[10]
def Ux:Nat->List Ac->Option (Nat×Int)|_,[]=>V|n,a::l=>if Jf a=0then Ux (n+1) l else T (n,Jf a)
def GJ(l:List Ac):Int:=if 100000<l.length then 1 else match Ux 0 l with|none=>0|T (_,e)=>e
def F8(l:List Ac):Nat:=if 100000<l.length then 0 else match Ux 0 l with|none=>0|T (i,_)=>i
def F9(l:List Ac):List UInt8:=if GJ l=0then bT l else[]
theorem Mq:∀(l:List Ac)(n:Nat),Ux n l=V↔∀a∈l,Z6 a|[],_=>by simp[Ux]|a::l,n=>by rw[Ux];by_cases b:Jf a=0;(·rw[if_pos b,Mq l (n+1)];simp only[tV,forall_eq_or_imp];exact⟨fun h=>⟨(vP a).1 b,h⟩,fun h=>h.2⟩);·rw[if_neg b];exact⟨fun h=>(by cases h),fun h=>absurd ((vP a).2 (h a (by simp))) b⟩
theorem It(l:List Ac)(m:Nat)(hm:m<l.length):Ux m (l.drop m)=if Jf (l.getD m YM)=0then Ux (m+1) (l.drop (m+1))else T (m,Jf (l.getD m YM)):=by
 rw[sK hm,Ux,show l[m]=l.getD m YM by simp[hm]]
theorem oF{l:List Ac}(h:∀a∈l,Z6 a)(hl:l.length<=100000):GJ l=0∧F8 l=0∧F9 l=bT l:=by
 have b:=(Mq l 0).2 h;have c:GJ l=0:=by rw[GJ,if_neg (by omega),b]
 exact⟨c,by rw[F8,if_neg (by omega),b],by rw[F9,if_pos c]⟩
theorem WZ{l:List Ac}(h:100000<l.length):GJ l=1∧F8 l=0∧F9 l=[]:=by
 have e:GJ l=1:=by rw[GJ,if_pos h]
 exact⟨e,by rw[F8,if_pos h],by rw[F9,e,if_neg (by decide)]⟩
theorem Rl{l:List Ac}(h:l.length<=100000)(hb:Ux 0 l=V):GJ l=0∧F8 l=0∧F9 l=bT l:=by
 have e:GJ l=0:=by rw[GJ,if_neg (by omega),hb]
 exact⟨e,by rw[F8,if_neg (by omega),hb],by rw[F9,if_pos e]⟩
theorem eD{l:List Ac}(h:l.length<=100000){i:Nat}{e:Int}(hb:Ux 0 l=T (i,e))(he:e≠0):GJ l=e∧F8 l=i∧F9 l=[]:=by
 have a:GJ l=e:=by rw[GJ,if_neg (by omega),hb]
 exact⟨a,by rw[F8,if_neg (by omega),hb],by rw[F9,a,if_neg he]⟩
theorem iT{l:List Ac}{m:Nat}(hm:m<l.length)(hb:Ux 0 l=Ux m (l.drop m)):(Jf (l.getD m YM)=0->Ux 0 l=Ux (m+1) (l.drop (m+1)))∧(Jf (l.getD m YM)≠0->Ux 0 l=T (m,Jf (l.getD m YM))):=by
 rw[hb,It l m hm];exact⟨fun h=>by rw[if_pos h],fun h=>by rw[if_neg h]⟩
def KQ(w:tA)(v:tE)(r:Rq):Prop:=∃vn vk vl vv,v=oV #[tR rI r.kind,vn,vk,vl,vv]∧Qe w vn r.name∧Qe w vk r.key∧Qe w vl r.last∧Qe w vv r.value
theorem KQ.grown{w w':tA}{v:tE}{r:Rq}(h:KQ w v r)(hg:tB w w' V):KQ w' v r:=by
 obtain⟨g,e,f,i,rfl,a,b,c,d⟩:=h;exact⟨g,e,f,i,rfl,a.grown hg,b.grown hg,c.grown hg,d.grown hg⟩
theorem KQ.agg{w:tA}{v:tE}{r:Rq}(h:KQ w v r):∃n1 n2 k1 k2 l1 l2 v1 v2,v=oV #[tR rI r.kind,tP n1 r.name.length n2,tP k1 r.key.length k2,tP l1 r.last.length l2,tP v1 r.value.length v2]:=by
 obtain⟨g,e,f,i,rfl,a,b,c,d⟩:=h;obtain⟨n1,n2,rfl⟩:=a.shape;obtain⟨k1,k2,rfl⟩:=b.shape;obtain⟨l1,l2,rfl⟩:=c.shape;obtain⟨v1,v2,rfl⟩:=d.shape;exact⟨n1,n2,k1,k2,l1,l2,v1,v2,rfl⟩
theorem KQ.parts{w:tA}{r:Rq}{x a b c d:tE}(h:KQ w (oV #[x,a,b,c,d]) r):x=tR rI r.kind∧Qe w a r.name∧Qe w b r.key∧Qe w c r.last∧Qe w d r.value:=by
 obtain⟨m,k,l,n,e,f,g,i,j⟩:=h;simp only[Value.agg.injEq,Array.mk.injEq,List.cons.injEq,and_true]at e;obtain⟨rfl,rfl,rfl,rfl,rfl⟩:=e;exact⟨rfl,f,g,i,j⟩
structure jX(r:Rq):Prop where kind:-9223372036854775808<=r.kind∧r.kind<=9223372036854775807name:r.name.length<=140737488355328key:r.key.length<=140737488355328last:r.last.length<=140737488355328value:r.value.length<=140737488355328
theorem j8{r:Rq}(h:Yb r):jX r:=by
 have a:=h.kind;have b:=h.value;have c:r.name.length<=8:=by by_cases e:QT r.kind=tC;(·exact(h.name e).2);·rw[h.noName (by simpa using e)];simp
 have d:r.key.length<=16:=by by_cases e:QT r.kind=tC;(·exact(h.key e).2);·rw[h.noKey (by simpa using e)];simp
 have f:r.last.length<=16:=by by_cases e:r.kind=3;(·exact(h.last e).2);·rw[h.noLast e];simp
 exact⟨by omega,by omega,by omega,by omega,by omega⟩
theorem Qq{W w:tA}{b:Nat}{x y z u s:tE}{t:rF}(hg:tB W w V)(h:W.heap[b]?=T (tQ #[x,y,z,u,s] t)):(w.cell? ⟨b,0,V⟩=T x∧w.cell? ⟨b,1,V⟩=T y∧w.cell? ⟨b,2,V⟩=T z∧w.cell? ⟨b,3,V⟩=T u∧w.cell? ⟨b,4,V⟩=T s)∧(w.frozen? ⟨b,0,V⟩=tH∧w.frozen? ⟨b,1,V⟩=tH∧w.frozen? ⟨b,2,V⟩=tH∧w.frozen? ⟨b,3,V⟩=tH∧w.frozen? ⟨b,4,V⟩=tH)∧w.heap[b]?=T (tQ #[x,y,z,u,s] t):=by
 have a:w.heap[b]?=T (tQ #[x,y,z,u,s] t):=by rw[hg.block b (tS.1 h).1 (by simp)];exact h
 refine⟨⟨?_,?_,?_,?_,?_⟩,⟨?_,?_,?_,?_,?_⟩,a⟩;all_goals simp[sF,rD,a]
theorem Yy{w:tA}{b i:Nat}{cs:Array tE}{t:rF}{fz:Nat×Nat}{u:tE}(h:w.heap[b]?=T (tQ cs t fz)):(tM w ⟨b,i,V⟩ u).heap[b]?=T (tQ (cs.setIfInBounds i u) t fz):=by
 simp only[tM,tX,if_true,h,sV];rfl
theorem zU{w:tA}{b c i:Nat}{o:Obj}{u:tE}(h:w.heap[b]?=T o)(hne:b≠c):(tM w ⟨c,i,V⟩ u).heap[b]?=T o:=by
 simp only[tM,tX];rw[if_neg (fun e=>hne e.symm)];exact h
abbrev aZ(w:tA)(b:Nat)(x y z u s:tE):tA:=((((tM w ⟨b,0,V⟩ x).setCell ⟨b,1,V⟩ y).setCell ⟨b,2,V⟩ z).setCell ⟨b,3,V⟩ u).setCell ⟨b,4,V⟩ s
theorem Po{w:tA}{b:Nat}{x y z u s:tE}{t:rF}(h:w.heap[b]?=T (tQ #[x,y,z,u,s] t))(x' y' z' u' s':tE):(aZ w b x' y' z' u' s').heap[b]?=T (tQ #[x',y',z',u',s'] t):=Yy (Yy (Yy (Yy (Yy h))))
theorem xM{w W:tA}{b:Nat}(hg:tB w W V)(hb:w.heap.size<=b)(x y z u s:tE):tB w (aZ W b x y z u s) V:=Qc (Qc (Qc (Qc (Qc hg _ hb _ _) _ hb _ _) _ hb _ _) _ hb _ _) _ hb _ _
theorem In(W:tA)(b:Nat)(x y z u s:tE):tB W (aZ W b x y z u s) (T b):=Qh (Qh (Qh (Qh (Qh (Qb W (T b)) _ _) _ _) _ _) _ _) _ _
abbrev Gz(w:tA)(b:Nat)(x y z u:tE):tA:=(((tM w ⟨b,0,V⟩ x).setCell ⟨b,1,V⟩ y).setCell ⟨b,2,V⟩ z).setCell ⟨b,3,V⟩ u
theorem Yk{w:tA}{b:Nat}{x y z u:tE}{t:rF}(h:w.heap[b]?=T (tQ #[x,y,z,u] t))(x' y' z' u':tE):(Gz w b x' y' z' u').heap[b]?=T (tQ #[x',y',z',u'] t):=Yy (Yy (Yy (Yy h)))
theorem Xd{w W:tA}{b:Nat}(hg:tB w W V)(hb:w.heap.size<=b)(x y z u:tE):tB w (Gz W b x y z u) V:=Qc (Qc (Qc (Qc hg _ hb _ _) _ hb _ _) _ hb _ _) _ hb _ _
theorem Yw(W:tA)(b:Nat)(x y z u:tE):tB W (Gz W b x y z u) (T b):=Qh (Qh (Qh (Qh (Qb W (T b)) _ _) _ _) _ _) _ _
theorem Za.later{base:Nat}{w w':tA}{v:tE}{bs:List UInt8}(h:Za base w v bs){b:Nat}(hg:tB w w' (T b))(hb:b<base):Za base w' v bs:=by
 refine h.grown hg (.inr fun e=>?_);have:=(h.lt b e).1;omega
def Ml(i:Nat):Nat:=[0,0,3,7,11,3,0,0,3].getD i 0
def UX(w:tA):Prop:=∀i,i<9->w.cell? ⟨0,i,V⟩=T (tR rN ((Ml i:Nat):Int))
theorem UX.grown{w w':tA}(h:UX w)(hg:tB w w' V):UX w':=fun i hi=>hg.cell (h i hi) (by
 simp)
def QQ(k:Int):Nat->Bool|0=>QT k|1=>QT k|2=>tN (k=3)|_=>tN (k=4)
theorem iV(k j:Nat)(hk:k<9)(hj:j<4):(bits BinOp.and rN ((Ml k:Nat):Int) ((2^j:Nat):Int)!=0)=QQ (k:Int) j:=(by
 decide+kernel:∀(k:Fin 9)(j:Fin 4),(bits BinOp.and rN ((Ml k.1:Nat):Int) ((2^j.1:Nat):Int)!=0)=QQ (k.1:Int) j.1) ⟨k,hk⟩ ⟨j,hj⟩
def Kr(r:Rq):List UInt8:=if Yr r=0then Yj r else[]
def cI:Prop:=∀(w:tA)(v:tE)(r:Rq),UX w->KQ w v r->jX r->pD tI 16 #[v] w fun e w'=>∃x,e=sW (oW #[x,tR rI (Yr r)])∧Qf 0 w' x (Kr r)∧tB w w' V
def YE(w:tA)(v:tE)(r:Rd):Prop:=∃vn vk vl,v=oV #[vn,vk,pT r.wide,vl]∧Qe w vn r.name∧Qe w vk r.key∧Qe w vl r.last
theorem YE.grown{w w':tA}{v:tE}{r:Rd}(h:YE w v r)(hg:tB w w' V):YE w' v r:=by
 obtain⟨f,d,e,rfl,a,b,c⟩:=h;exact⟨f,d,e,rfl,a.grown hg,b.grown hg,c.grown hg⟩
theorem YE.agg{w:tA}{v:tE}{r:Rd}(h:YE w v r):∃na nc ka kc la lc,v=oV #[tP na r.name.length nc,tP ka r.key.length kc,pT r.wide,tP la r.last.length lc]:=by
 obtain⟨f,d,e,rfl,a,b,c⟩:=h;obtain⟨na,nc,rfl⟩:=a.shape;obtain⟨ka,kc,rfl⟩:=b.shape;obtain⟨la,lc,rfl⟩:=c.shape;exact⟨na,nc,ka,kc,la,lc,rfl⟩
theorem YE.parts{w:tA}{r:Rd}{x y g z:tE}(h:YE w (oV #[x,y,g,z]) r):Qe w x r.name∧Qe w y r.key∧g=pT r.wide∧Qe w z r.last:=by
 obtain⟨i,d,f,e,a,b,c⟩:=h;simp only[Value.agg.injEq,Array.mk.injEq,List.cons.injEq,and_true]at e;obtain⟨rfl,rfl,rfl,rfl⟩:=e;exact⟨a,b,rfl,c⟩
structure FN(r:Rd):Prop where name:r.name.length<=140737488355328key:r.key.length<=140737488355328last:r.last.length<=140737488355328
structure vL where
  bit : Int
  right : Bool
  other : List UInt8
structure C8 where
  empty : Bool
  steps : List vL
  pair : Pr
def Ht:vL:=⟨0,tH,[]⟩
def VC:C8:=⟨tH,[],([],[])⟩
instance:Inhabited vL:=⟨Ht⟩
instance:Inhabited C8:=⟨VC⟩
def UU(l:PL):Nat->Int|0=>999|1=>999|m+2=>if J6 (l.getD 0 ([],[])).1 (l.getD (m+1) ([],[])).1<UU l (m+1)then J6 (l.getD 0 ([],[])).1 (l.getD (m+1) ([],[])).1 else UU l (m+1)
def Qx(l:PL):Int:=UU l l.length
def Jh(l:PL)(b:Nat)(x:Bool):PL:=l.filter fun q=>ZU q.1 b==x
theorem Bl(l:PL)(b:Nat)(x:Bool):(Jh l b x).length<=l.length:=rG _ _
theorem Yg{l:PL}(h:ZG l)(b:Nat)(x:Bool):ZG (Jh l b x):=⟨rA (Bl l b x) h.room,fun p a=>h.pairs p (rU.1 a).1,sZ _ h.rises⟩
theorem Br{l:PL}(h:ZG l)(i j:Nat)(hij:i<j)(hj:j<l.length):0<=J6 (l.getD i ([],[])).1 (l.getD j ([],[])).1:=by
 have d:=Vd l h.rises i j hij hj;have b:=(h.pairs l[i] (sH (by omega))).1;have c:=(h.pairs l[j] (sH hj)).1;rw[show l[i]=l.getD i ([],[])by simp[show i<l.length by omega]]at b;rw[show l[j]=l.getD j ([],[])by simp[hj]]at c;have:=SJ (l.getD i ([],[])).1 (l.getD j ([],[])).1 b.2 c.2;have a:=AR d;by_cases e:J6 (l.getD i ([],[])).1 (l.getD j ([],[])).1<0;·exact absurd (this.1 e) a
 ·omega
theorem FW{l:PL}(h:ZG l):∀m,m<=l.length->0<=UU l m∧(2<=m->UU l m<=144)∧UU l m<=999|0,_=>⟨by simp[UU],by omega,by simp[UU]⟩|1,_=>⟨by simp[UU],by omega,by simp[UU]⟩|m+2,hm=>by have d:=FW h (m+1) (by omega);have b:=Br h 0 (m+1) (by omega) (by omega);have c:=F1 (l.getD 0 ([],[])).1 (l.getD (m+1) ([],[])).1;rw[UU];by_cases a:J6 (l.getD 0 ([],[])).1 (l.getD (m+1) ([],[])).1<UU l (m+1);(·rw[if_pos a];omega);·rw[if_neg a];omega
theorem Yt{l:PL}(h:ZG l)(h2:2<=l.length):0<=Qx l∧Qx l<=144:=by
 have:=FW h l.length (sG _);exact⟨this.1,this.2.1 h2⟩
theorem EX{l:PL}(_h:ZG l):∀m,2<=m->m<=l.length->∃j,0<j∧j<m∧UU l m=J6 (l.getD 0 ([],[])).1 (l.getD j ([],[])).1|0,h,_=>by omega|1,h,_=>by omega|m+2,_,hm=>by rw[UU];by_cases a:J6 (l.getD 0 ([],[])).1 (l.getD (m+1) ([],[])).1<UU l (m+1);(·rw[if_pos a];exact⟨m+1,by omega,by omega,rfl⟩);·rw[if_neg a];by_cases b:m=0;(·subst b;have f:=F1 (l.getD 0 ([],[])).1 (l.getD (0+1) ([],[])).1;simp only[UU]at a;omega);·obtain⟨j,c,e,d⟩:=EX _h (m+1) (by omega) (by omega);exact⟨j,c,by omega,d⟩
theorem uX{l:PL}(h:ZG l)(h2:2<=l.length):∀x,(Jh l (Qx l).toNat x).length<l.length:=by
 obtain⟨j,n,b,g⟩:=EX h l.length h2 (sG _);have o:=Yt h h2;have d:ZU (l.getD 0 ([],[])).1 (Qx l).toNat≠ZU (l.getD j ([],[])).1 (Qx l).toNat:=by rcases Kg (l.getD 0 ([],[])).1 (l.getD j ([],[])).1with⟨e,_⟩|⟨m,e,_,_,d⟩;(·rw[<-g]at e;unfold Qx at o;omega);·(have:(Qx l).toNat=m:=by unfold Qx;omega);rw[this];exact d
 intro x;by_cases i:(Jh l (Qx l).toNat x).length<l.length;·exact i
 ·(have k:(Jh l (Qx l).toNat x).length=l.length:=by have:=Bl l (Qx l).toNat x;omega);have a:=List.length_filter_eq_length_iff.1 k;have c:=a l[0] (sH (by omega));have f:=a l[j] (sH b);rw[show l[0]=l.getD 0 ([],[])by simp[show 0<l.length by omega]]at c;rw[show l[j]=l.getD j ([],[])by simp[b]]at f;simp only[beq_iff_eq]at c f;exact absurd (c.trans f.symm) d
def J4(l:PL)(b:Nat):Nat:=(l.takeWhile fun q=>!ZU q.1 b).length
theorem yW(l:PL):∀m j,0<j->j<m->m<=l.length->UU l m<=J6 (l.getD 0 ([],[])).1 (l.getD j ([],[])).1|0,j,_,h,_=>by omega|1,j,h0,h,_=>by omega|m+2,j,h0,h,hm=>by rw[UU];by_cases a:J6 (l.getD 0 ([],[])).1 (l.getD (m+1) ([],[])).1<UU l (m+1);(·rw[if_pos a];by_cases e:j=m+1;(·subst e;exact Int.le_refl _);·have:=yW l (m+1) j h0 (by omega) (by omega);omega);·rw[if_neg a];by_cases e:j=m+1;(·subst e;omega);·exact yW l (m+1) j h0 (by omega) (by omega)
theorem Fi{l:PL}(h:ZG l)(h2:2<=l.length)(j:Nat)(hj:j<l.length)(b:Nat)(hb:b<(Qx l).toNat):ZU (l.getD 0 ([],[])).1 b=ZU (l.getD j ([],[])).1 b:=by
 by_cases c:j=0;·subst c;rfl
 ·have f:=yW l l.length j (by omega) hj (sG _);have g:=Yt h h2;rcases Kg (l.getD 0 ([],[])).1 (l.getD j ([],[])).1with⟨e,a⟩|⟨m,e,d,a,_⟩;(·exact a b (by omega));·exact a b (by unfold Qx at hb;omega)
theorem MG{l:PL}(h:ZG l)(h2:2<=l.length)(i j:Nat)(hij:i<j)(hj:j<l.length)(hi:ZU (l.getD i ([],[])).1 (Qx l).toNat=tC):ZU (l.getD j ([],[])).1 (Qx l).toNat=tC:=by
 have g:=Vd l h.rises i j hij hj;have n:=Br h i j hij hj;rcases Kg (l.getD i ([],[])).1 (l.getD j ([],[])).1with⟨e,_⟩|⟨m,e,k,c,b⟩;·omega
 ·(have f:(Qx l).toNat<=m:=by by_cases a:m<(Qx l).toNat;(·exact absurd ((Fi h h2 i (by omega) m a).symm.trans (Fi h h2 j hj m a)) b);·omega);by_cases d:(Qx l).toNat=m;(·rw[d];have:=E0 _ _ m c b;rw[this];exact g);·rw[<-c _ (by omega)];exact hi
theorem MN{l:PL}(h:ZG l)(h2:2<=l.length):ZU (l.getD 0 ([],[])).1 (Qx l).toNat=tH∧ZU (l.getD (l.length-1) ([],[])).1 (Qx l).toNat=tC:=by
 obtain⟨j,c,d,f⟩:=EX h l.length h2 (sG _);have o:=Yt h h2;have i:=Vd l h.rises 0 j c d;rcases Kg (l.getD 0 ([],[])).1 (l.getD j ([],[])).1with⟨e,_⟩|⟨m,e,q,p,g⟩;·rw[<-f]at e;unfold Qx at o;omega
 ·(have b:(Qx l).toNat=m:=by unfold Qx;omega);have n:=E0 _ _ m p g;(have a:ZU (l.getD j ([],[])).1 m=tC:=by rw[n];exact i);refine⟨?_,?_⟩;(·rw[b];cases hx:ZU (l.getD 0 ([],[])).1 m with|false=>rfl|true=>exact absurd (hx.trans a.symm) g);·by_cases k:j=l.length-1;(·rw[<-k,b];exact a);·exact MG h h2 j (l.length-1) (by omega) (by omega) (by rw[b];exact a)
theorem MA{l:PL}(h:ZG l)(h2:2<=l.length):J6 (l.getD 0 ([],[])).1 (l.getD (l.length-1) ([],[])).1=Qx l:=by
 have e:=Yt h h2;obtain⟨a,c⟩:=MN h h2;rw[CQ _ _ (Qx l).toNat (by omega) (fun b d=>Fi h h2 _ (by omega) b d) (by rw[a,c];simp)];omega
theorem Hv:∀(l:PL)(b j:Nat),j<J4 l b->ZU (l.getD j ([],[])).1 b=tH|[],b,j,h=>by simp[J4]at h|p::r,b,j,h=>by cases hk:ZU p.1 b with|true=>simp[J4,hk]at h|false=>cases j with|zero=>simpa using hk|succ j=>have:=Hv r b j (by unfold J4 at h⊢;rw[tT (p:=fun q:Pr=>!ZU q.1 b) (by simp[hk])]at h;simpa using h);simpa using this
theorem Aw:∀(l:PL)(b:Nat),J4 l b<l.length->ZU (l.getD (J4 l b) ([],[])).1 b=tC|[],b,h=>by simp at h|p::r,b,h=>by cases hk:ZU p.1 b with|true=>simp[J4,hk]|false=>(have e:J4 (p::r) b=J4 r b+1:=by unfold J4;rw[tT (p:=fun q:Pr=>!ZU q.1 b) (by simp[hk])];simp);rw[e]at h⊢;have:=Aw r b (by simpa using h);simpa using this
theorem qG{l:PL}(h:ZG l)(h2:2<=l.length)(j:Nat)(hj:j<l.length):ZU (l.getD j ([],[])).1 (Qx l).toNat=tN (J4 l (Qx l).toNat<=j):=by
 by_cases a:j<J4 l (Qx l).toNat;·rw[decide_eq_false (by omega)];exact Hv l _ j a
 ·rw[decide_eq_true (by omega)];have b:=Aw l (Qx l).toNat (by omega);by_cases e:j=J4 l (Qx l).toNat;(·rw[e];exact b);·exact MG h h2 _ j (by omega) hj b
theorem U3{l:PL}(h:ZG l)(h2:2<=l.length):0<J4 l (Qx l).toNat∧J4 l (Qx l).toNat<l.length:=by
 obtain⟨a,b⟩:=MN h h2;rw[qG h h2 0 (by omega)]at a;rw[qG h h2 _ (by omega)]at b;simp at a b;omega
theorem vG{l:PL}(h:ZG l)(h2:2<=l.length):Jh l (Qx l).toNat tH=l.take (J4 l (Qx l).toNat):=by
 have g:=U3 h h2;have f:=fun j c=>qG h h2 j c;generalize(Qx l).toNat=b at*;generalize J4 l b=n at*;have e:l=l.take n++l.drop n:=(tL n l).symm;rw[Jh];conv=>lhs;rw[e]
 rw[sO,tU.2,sP.2,sA];·intro q d;obtain⟨j,c,rfl⟩:=tD.1 d;(have a:n+j<l.length:=by simp at c;omega);rw[sS,show l[n+j]=l.getD (n+j) ([],[])by simp[a],f _ a];simp
 ·intro q d;obtain⟨j,c,rfl⟩:=tD.1 d;(have a:j<n:=by simp at c;omega);rw[sL,show l[j]'(by omega)=l.getD j ([],[])by simp[show j<l.length by omega],f _ (by omega)];simp[a]
theorem FA{l:PL}(h:ZG l)(h2:2<=l.length):Jh l (Qx l).toNat tC=l.drop (J4 l (Qx l).toNat):=by
 have g:=U3 h h2;have f:=fun j c=>qG h h2 j c;generalize(Qx l).toNat=b at*;generalize J4 l b=n at*;have e:l=l.take n++l.drop n:=(tL n l).symm;rw[Jh];conv=>lhs;rw[e]
 rw[sO,sP.2,tU.2,pH];·intro q d;obtain⟨j,c,rfl⟩:=tD.1 d;(have a:n+j<l.length:=by simp at c;omega);rw[sS,show l[n+j]=l.getD (n+j) ([],[])by simp[a],f _ a];simp
 ·intro q d;obtain⟨j,c,rfl⟩:=tD.1 d;(have a:j<n:=by simp at c;omega);rw[sL,show l[j]'(by omega)=l.getD j ([],[])by simp[show j<l.length by omega],f _ (by omega)];simp[a]
def U(x:BitVec 64):Int:=(x.toNat:Int)
theorem kJ(x:BitVec 64):sI 64 (U x)=x:=by
 unfold U;rw[pR];simp
theorem u7(x:BitVec 64):rM.wrap (x.toNat:Int)=U x:=by
 rw[pB];unfold U;have:=x.isLt;omega
theorem Zw(x y:BitVec 64):bits .xor .u64 (U x) (U y)=U (x^^^y):=by
 show rM.wrap ((sI 64 (U x)^^^sI 64 (U y)).toNat:Int)=_;rw[kJ,kJ,u7]
theorem Mf(x y:BitVec 64):bits .or .u64 (U x) (U y)=U (x|||y):=by
 show rM.wrap ((sI 64 (U x)|||sI 64 (U y)).toNat:Int)=_;rw[kJ,kJ,u7]
theorem K2(x y:BitVec 64):bits .andNot .u64 (U x) (U y)=U (x&&&~~~y):=by
 show rM.wrap ((sI 64 (U x)&&&~~~sI 64 (U y)).toNat:Int)=_;rw[kJ,kJ,u7]
theorem Kh(x:BitVec 64)(k:Nat):rM.wrap (U x*2^k)=U (x<<<k):=by
 rw[pB];unfold U;rw[BitVec.toNat_shiftLeft,Nat.shiftLeft_eq];have e:((x.toNat:Int)*2^k)=((x.toNat*2^k:Nat):Int):=by simp
 rw[e];omega
theorem MF(x:BitVec 64)(k:Nat):U x/2^k=U (x>>>k):=by
 unfold U;rw[BitVec.toNat_ushiftRight,Nat.shiftRight_eq_div_pow];simp
theorem mU(k:Int)(h0:0<=k)(h:k<64):bits .and .u64 k 63=k:=by
 obtain⟨n,rfl⟩:=Int.eq_ofNat_of_zero_le h0;show rM.wrap ((sI 64 (n:Int)&&&sI 64 63).toNat:Int)=_;rw[pR,BitVec.toNat_and];have a:(BitVec.ofNat 64 n).toNat=n:=by rw[BitVec.toNat_ofNat];omega
 have b:(sI 64 63).toNat=2^6-1:=by decide
 rw[a,b,Nat.and_two_pow_sub_one_eq_mod,pB];omega
def yR(x:BitVec 64)(k:Nat):BitVec 64:=(x<<<k)|||(x>>>(64-k))
section
theorem Wy(x:BitVec 64)(k:Int)(h0:0<=k)(h:k<64)(w:tA):pD tI 151 #[tR .u64 (U x),tR rI k] w fun e w'=>e=sW (tR .u64 (U (yR x k.toNat)))∧w'=w:=by
 have a:=mU k h0 h;go_enter Tryz.func151,Tryz.ntmps151;go_wp2;go_ret;refine⟨?_,rfl⟩;rw[show(64-k).toNat=64-k.toNat by omega,Kh,MF,Mf];rfl
def Ky(st:List (BitVec 64)):Array tE:=(st.map fun x=>tR .u64 (U x)).toArray
structure Yd (n : Nat) (w : tA) (b : Nat) (st : List (BitVec 64)) : Prop where
  len : st.length = n
  blk : ∃ t, w.heap[b]? = T (tQ (Ky st) t (0, 0))
section
variable{n:Nat}{w:tA}{b:Nat}{st:List (BitVec 64)}
theorem Yd.cell(h:Yd n w b st)(i:Nat)(hi:i<n):w.cell? ⟨b,i,V⟩=T (tR .u64 (U (st.getD i 0))):=by
 obtain⟨t,a⟩:=h.blk;simp[sF,a,Ky,rB,rT (show i<st.length by have:=h.len;omega)]
theorem Yd.frozen(h:Yd n w b st)(i:Nat):w.frozen? ⟨b,i,V⟩=tH:=by
 obtain⟨t,a⟩:=h.blk;simp[rD,a]
theorem Yd.lt(h:Yd n w b st):b<w.heap.size:=by
 obtain⟨t,a⟩:=h.blk;exact(tS.1 a).1
theorem Cn(st:List (BitVec 64))(i:Nat)(x:BitVec 64):(Ky st).setIfInBounds i (tR .u64 (U x))=Ky (st.set i x):=by
 simp[Ky]
theorem Yd.set(h:Yd n w b st)(i:Nat)(x:BitVec 64):Yd n (tM w ⟨b,i,V⟩ (tR .u64 (U x))) b (st.set i x):=by
 obtain⟨t,a⟩:=h.blk;refine⟨by simp[h.len],t,?_⟩;simp only[tM,tX,if_true,a,sV];simp[Cn]
theorem Yd.setOther(h:Yd n w b st)(c:Nat)(hc:b≠c)(i:Nat)(v:tE):Yd n (tM w ⟨c,i,V⟩ v) b st:=by
 obtain⟨t,a⟩:=h.blk;exact⟨h.len,t,by rw[Below.heap_setCell _ _ _ _ hc];exact a⟩
theorem Yd.drewN(h:Yd n w b st)(k:Nat):Yd n (w.drewN k) b st:=⟨h.len,h.blk⟩
theorem Yd.drew(h:Yd n w b st):Yd n w.drew b st:=⟨h.len,h.blk⟩
theorem Yd.alloc(h:Yd n w b st)(o:Obj):Yd n (w.alloc o) b st:=by
 obtain⟨t,a⟩:=h.blk;exact⟨h.len,t,by rw[Below.heap_alloc _ _ _ h.lt];exact a⟩
theorem Yd.grown(h:Yd n w b st){w':tA}{r:Option Nat}(hg:tB w w' r)(hr:T b≠r):Yd n w' b st:=by
 obtain⟨t,a⟩:=h.blk;exact⟨h.len,t,by rw[hg.block b h.lt hr];exact a⟩
theorem Yd.new(w:tA)(t:rF)(st:List (BitVec 64))(hl:st.length=n):Yd n (w.alloc (tQ (Ky st) t)) w.heap.size st:=⟨hl,t,rS w _⟩
end
abbrev St:=Yd 25
def Hx(st:List (BitVec 64))(n:Nat):List (BitVec 64):=let a:=st.getD n 0;let b:=st.getD (n+1) 0;let c:=st.getD (n+2) 0;let d:=st.getD (n+3) 0;let e:=st.getD (n+4) 0;((((st.set n (a^^^(c&&&~~~b))).set (n+1) (b^^^(d&&&~~~c))).set (n+2) (c^^^(e&&&~~~d))).set (n+3) (d^^^(a&&&~~~e))).set (n+4) (e^^^(b&&&~~~a))
def Gi(st:List (BitVec 64)):Nat->List (BitVec 64)|0=>st|k+1=>Hx (Gi st k) (5*k)
theorem aK(w:tA)(b:Nat)(st:List (BitVec 64))(h:St w b st):pD tI 149 #[.pointer (T ⟨b,0,V⟩)] w fun e w'=>e=sW (oW #[])∧St w' b (Gi st 5)∧tB w w' (T b):=by
 go_enter Tryz.func149,Tryz.ntmps149;go_wp2;go_loopw[2](fun y wr=>∃k:Nat,k<=5∧y=tR rI ((5*k:Nat):Int)∧St wr b (Gi st k)∧tB w wr (T b))(fun y _=>25-(intOf y).toNat);case atStart=>exact⟨0,by omega,rfl,h,Qb _ _⟩
 case round=>obtain⟨k,z,rfl,a,f⟩:=hrel;by_cases q:k<5;(·generalize hn:5*k=n;have d:Hid (5*k=n):=hn;clear hn;(have p:n+4<25:=by have:=d.out;omega);have c:=a.cell;have x:=a.frozen;have r:=c n (by omega);have s:=c (n+1) (by omega);have t:=c (n+2) (by omega);have u:=c (n+3) (by omega);have v:=c (n+4) (by omega);clear c;generalize hS:Gi st k=S at*;have o:Hid (Gi st k=S):=hS;clear hS;generalize hA:S.getD n 0=A at*;generalize hB:S.getD (n+1) 0=B at*;generalize hC:S.getD (n+2) 0=C at*;generalize hD:S.getD (n+3) 0=D at*;generalize hE:S.getD (n+4) 0=E at*;have g:Hid (S.getD n 0=A):=hA;have i:Hid (S.getD (n+1) 0=B):=hB;have j:Hid (S.getD (n+2) 0=C):=hC;have l:Hid (S.getD (n+3) 0=D):=hD;have m:Hid (S.getD (n+4) 0=E):=hE;clear hA hB hC hD hE;(have F:(n:Int)+4<25:=by omega);go_wp2;go_quiet(fail);go_wp2;go_roundw;(case rel=>refine⟨k+1,by omega,by have:=d.out;congr 1;omega,?_,?_⟩;(·rw[K2,K2,K2,K2,K2,Zw,Zw,Zw,Zw,Zw];(have e:Gi st (k+1)=((((S.set n (A^^^(C&&&~~~B))).set (n+1) (B^^^(D&&&~~~C))).set (n+2) (C^^^(E&&&~~~D))).set (n+3) (D^^^(A&&&~~~E))).set (n+4) (E^^^(B&&&~~~A)):=by simp only[Gi,Hx,o.out,d.out,g.out,i.out,j.out,l.out,m.out]);rw[e];exact(((((a.drewN nq).set n _).set (n+1) _).set (n+2) _).set (n+3) _).set (n+4) _);·exact Qh (Qh (Qh (Qh (Qh (Qr f nq) n _) (n+1) _) (n+2) _) (n+3) _) (n+4) _);case measure=>simp[intOf];omega);·(obtain rfl:k=5:=by omega);go_wp2;go_end0;exact⟨rfl,a,f⟩
end
def He(st:List (BitVec 64))(x:Nat):BitVec 64:=st.getD x 0^^^st.getD (x+5) 0^^^st.getD (x+10) 0^^^st.getD (x+15) 0^^^st.getD (x+20) 0
def VL(st:List (BitVec 64)):Nat->List (BitVec 64)|0=>[0,0,0,0,0]|k+1=>(VL st k).set k (He st k)
def eH(c:List (BitVec 64)):List (BitVec 64):=[c.getD 4 0^^^yR (c.getD 1 0) 1,c.getD 0 0^^^yR (c.getD 2 0) 1,c.getD 1 0^^^yR (c.getD 3 0) 1,c.getD 2 0^^^yR (c.getD 4 0) 1,c.getD 3 0^^^yR (c.getD 0 0) 1]
def TH(d st:List (BitVec 64))(k:Nat):List (BitVec 64):=let y:=d.getD k 0;((((st.set k (st.getD k 0^^^y)).set (k+5) (st.getD (k+5) 0^^^y)).set (k+10) (st.getD (k+10) 0^^^y)).set (k+15) (st.getD (k+15) 0^^^y)).set (k+20) (st.getD (k+20) 0^^^y)
def uK(d st:List (BitVec 64)):Nat->List (BitVec 64)|0=>st|k+1=>TH d (uK d st k) k
theorem eC(w:tA)(b:Nat)(st:List (BitVec 64))(h:St w b st):pD tI 147 #[.pointer (T ⟨b,0,V⟩)] w fun e w'=>e=sW (oW #[])∧St w' b (uK (eH (VL st 5)) st 5)∧tB w w' (T b):=by
 have q:b≠w.heap.size:=Nat.ne_of_lt h.lt;have L:=h;go_enter Tryz.func147,Tryz.ntmps147;go_wp2_with fail;go_loopw[6](fun i wr=>∃k:Nat,k<=5∧i=tR rI (k:Int)∧St wr b st∧Yd 5 wr w.heap.size (VL st k)∧tB w wr (T b))(fun i _=>5-(intOf i).toNat);case atStart=>exact⟨0,by omega,rfl,h.alloc _,Yd.new w 246 [0,0,0,0,0] rfl,Qv (Qb _ _) _⟩
 case round=>obtain⟨k,N,rfl,a,c,j⟩:=hrel;by_cases g:k<5;(·have A:=a.cell k (by omega);have B:=a.cell (k+5) (by omega);have C:=a.cell (k+10) (by omega);have D:=a.cell (k+15) (by omega);have E:=a.cell (k+20) (by omega);have F:=c.cell k g;have M:=c.frozen k;generalize hx0:st.getD k 0=x0 at*;generalize hx1:st.getD (k+5) 0=x1 at*;generalize hx2:st.getD (k+10) 0=x2 at*;generalize hx3:st.getD (k+15) 0=x3 at*;generalize hx4:st.getD (k+20) 0=x4 at*;(have p:Hid (He st k=x0^^^x1^^^x2^^^x3^^^x4):=by show He st k=_;simp only[He,hx0,hx1,hx2,hx3,hx4]);generalize hcc:VL st k=cc at*;have n:Hid (VL st k=cc):=hcc;generalize hy:cc.getD k 0=y at*;clear hx0 hx1 hx2 hx3 hx4 hcc hy h;(have O:(k:Int)+20<25:=by omega);(have P:(k:Int)<5:=by omega);go_wp2_with fail;go_region;(all_goals go_wp2);go_roundw;(case rel=>rw[Zw,Zw,Zw,Zw];have v:=a.lt;have x:=c.lt;refine⟨k+1,by omega,by go_num,(a.setOther _ q _ _).drew,?_,Ql (Qc j _ (sG _) _ _)⟩;simp only[VL,n.out,p.out];exact(c.set k _).drew);case measure=>simp[intOf];omega);·(obtain rfl:k=5:=by omega);have G:=c.cell 0 (by omega);have H:=c.cell 1 (by omega);have I:=c.cell 2 (by omega);have J:=c.cell 3 (by omega);have K:=c.cell 4 (by omega);generalize hcc:VL st 5=cc at*;have n:Hid (VL st 5=cc):=hcc;generalize hx0:cc.getD 0 0=x0 at*;generalize hx1:cc.getD 1 0=x1 at*;generalize hx2:cc.getD 2 0=x2 at*;generalize hx3:cc.getD 3 0=x3 at*;generalize hx4:cc.getD 4 0=x4 at*;(have t:Hid (eH cc=[x4^^^yR x1 1,x0^^^yR x2 1,x1^^^yR x3 1,x2^^^yR x4 1,x3^^^yR x0 1]):=by show eH cc=_;simp only[eH,hx0,hx1,hx2,hx3,hx4]);clear hcc hx0 hx1 hx2 hx3 hx4 h;have r:=c.lt;go_upto_region 6with fail;go_cut[4](fun Q s=>Q=.pointer (T ⟨wr.heap.size,0,V⟩)∧St s b st∧Yd 5 s wr.heap.size (eH cc)∧tB w s (T b));(case first=>go_region_held3(fun w'=>w'.cell? ⟨w.heap.size,0,V⟩=T (tR .u64 (U x0))∧w'.cell? ⟨w.heap.size,1,V⟩=T (tR .u64 (U x1))∧w'.cell? ⟨w.heap.size,2,V⟩=T (tR .u64 (U x2))∧w'.cell? ⟨w.heap.size,3,V⟩=T (tR .u64 (U x3))∧w'.cell? ⟨w.heap.size,4,V⟩=T (tR .u64 (U x4)))(go_keep)(first|(go_at_call 151;refine(Wy _ (1:Int) (by omega) (by omega) _).mono ?_;rintro e w'⟨rfl,rfl⟩));all_goals(go_wp2_with fail;go_meet;case rel=>(rw[t.out,Zw,Zw,Zw,Zw,Zw];exact⟨rfl,(a.alloc _).drew,(Yd.new wr 246 [x4^^^yR x1 1,x0^^^yR x2 1,x1^^^yR x3 1,x2^^^yR x4 1,x3^^^yR x0 1] rfl).drew,Ql (Qv j _)⟩)));case rest=>obtain⟨rfl,f,l,m⟩:=hcut;clear G H I J K a c j;(have d:b≠wr.heap.size:=by have:=L.lt;omega);generalize hD:eH cc=dd at*;have o:Hid (eH cc=dd):=hD;clear hD t;generalize hdn:wr.heap.size=db at*;clear hdn r;go_wp2_with fail;go_loopw[76](fun i wr=>∃k:Nat,k<=5∧i=tR rI (k:Int)∧St wr b (uK dd st k)∧Yd 5 wr db dd∧tB w wr (T b))(fun i _=>5-(intOf i).toNat);(case atStart=>exact⟨0,by omega,rfl,f,l,m⟩);case round=>clear f l m;obtain⟨k,N,rfl,a,u,j⟩:=hrel;by_cases g:k<5;(·have A:=a.cell k (by omega);have B:=a.cell (k+5) (by omega);have C:=a.cell (k+10) (by omega);have D:=a.cell (k+15) (by omega);have E:=a.cell (k+20) (by omega);have F:=u.cell k g;have M:=a.frozen;generalize hS:uK dd st k=S at*;have z:Hid (uK dd st k=S):=hS;generalize hy:dd.getD k 0=y at*;generalize hx0:S.getD k 0=x0 at*;generalize hx1:S.getD (k+5) 0=x1 at*;generalize hx2:S.getD (k+10) 0=x2 at*;generalize hx3:S.getD (k+15) 0=x3 at*;generalize hx4:S.getD (k+20) 0=x4 at*;(have p:Hid (TH dd S k=((((S.set k (x0^^^y)).set (k+5) (x1^^^y)).set (k+10) (x2^^^y)).set (k+15) (x3^^^y)).set (k+20) (x4^^^y)):=by show TH dd S k=_;simp only[TH,hy,hx0,hx1,hx2,hx3,hx4]);clear hS hy hx0 hx1 hx2 hx3 hx4;(have O:(k:Int)+20<25:=by omega);(have P:(k:Int)<5:=by omega);go_wp2_with fail;go_region;go_wp2_with fail;go_region;go_wp2_with fail;go_region;go_wp2_with fail;go_region;go_wp2_with fail;go_region;go_wp2_with fail;go_roundw;(case rel=>rw[Zw,Zw,Zw,Zw,Zw];refine⟨k+1,by omega,by go_num,?_,?_,?_⟩;(·simp only[uK,z.out,p.out];exact(((((a.set k _).set (k+5) _).set (k+10) _).set (k+15) _).set (k+20) _).drew.drew.drew.drew.drew);(·exact(((((u.setOther b d.symm k _).setOther b d.symm (k+5) _).setOther b d.symm (k+10) _).setOther b d.symm (k+15) _).setOther b d.symm (k+20) _).drew.drew.drew.drew.drew);·exact Ql (Ql (Ql (Ql (Ql (Qh (Qh (Qh (Qh (Qh j k _) (k+5) _) (k+10) _) (k+15) _) (k+20) _))))));case measure=>simp[intOf];omega);·(obtain rfl:k=5:=by omega);go_wp2;go_end0;refine⟨rfl,?_,j⟩;rw[n.out,o.out];exact a
def JP:List Nat:=[10,7,11,17,18,3,5,16,8,21,24,4,15,23,19,13,12,2,20,14,22,9,6,1]
def Kt:List Nat:=[1,3,6,10,15,21,28,36,45,55,2,14,27,41,56,8,25,43,62,18,39,61,20,44]
def JR:List (BitVec 64):=[0x0000000000000001,0x0000000000008082,0x800000000000808a,0x8000000080008000,0x000000000000808b,0x0000000080000001,0x8000000080008081,0x8000000000008009,0x000000000000008a,0x0000000000000088,0x0000000080008009,0x000000008000000a,0x000000008000808b,0x800000000000008b,0x8000000000008089,0x8000000000008003,0x8000000000008002,0x8000000000000080,0x000000000000800a,0x800000008000000a,0x8000000080008081,0x8000000000008080,0x0000000080000001,0x8000000080008008]
theorem gR(k:Nat)(h:k<24):JP.getD k 0<25:=(by
 decide:∀k:Fin 24,JP.getD k.1 0<25) ⟨k,h⟩
theorem bC(k:Nat)(h:k<24):Kt.getD k 0<64:=(by
 decide:∀k:Fin 24,Kt.getD k.1 0<64) ⟨k,h⟩
structure YQ(w:tA):Prop where nums:∀i,i<24->w.cell? ⟨2,i,V⟩=T (tR .u64 (U (JR.getD i 0)))walk:∀i,i<24->w.cell? ⟨3,i,V⟩=T (tR rI ((JP.getD i 0:Nat):Int))turns:∀i,i<24->w.cell? ⟨4,i,V⟩=T (tR rI ((Kt.getD i 0:Nat):Int))
theorem YQ.grown{w w':tA}{b:Nat}(h:YQ w)(hg:tB w w' (T b))(hb:5<=b):YQ w':=⟨fun i a=>hg.cell (h.nums i a) (by
 simp;omega),fun i a=>hg.cell (h.walk i a) (by
 simp;omega),fun i a=>hg.cell (h.turns i a) (by
 simp;omega)⟩
def Kl(st:List (BitVec 64)):Nat->List (BitVec 64)×BitVec 64|0=>(st,st.getD 1 0)|k+1=>((Kl st k).1.set (JP.getD k 0) (yR (Kl st k).2 (Kt.getD k 0)),(Kl st k).1.getD (JP.getD k 0) 0)
theorem cY(w:tA)(b:Nat)(hb:5<=b)(st:List (BitVec 64))(h:St w b st)(ht:YQ w):pD tI 148 #[.pointer (T ⟨b,0,V⟩)] w fun e w'=>e=sW (oW #[])∧St w' b (Kl st 24).1∧tB w w' (T b):=by
 have q:=h.cell 1 (by omega);go_enter Tryz.func148,Tryz.ntmps148;go_wp2;go_loopw[2,10](fun m i wr=>∃k:Nat,k<=24∧i=tR rI (k:Int)∧m=tR .u64 (U (Kl st k).2)∧St wr b (Kl st k).1∧tB w wr (T b))(fun _ i _=>24-(intOf i).toNat);case atStart=>exact⟨0,by omega,rfl,by simp[Kl],h,Qb _ _⟩
 case round=>obtain⟨k,t,rfl,rfl,d,g⟩:=hrel;clear q;by_cases a:k<24;(·have f:=ht.grown g hb;have r:=gR k a;have u:=bC k a;have x:=f.walk k a;have y:=f.turns k a;have c:=d.cell (JP.getD k 0) r;have s:=d.frozen;generalize hS:(Kl st k).1=S at*;have j:Hid ((Kl st k).1=S):=hS;generalize hM:(Kl st k).2=M at*;have n:Hid ((Kl st k).2=M):=hM;generalize hW:JP.getD k 0=W at*;have l:Hid (JP.getD k 0=W):=hW;generalize hR:Kt.getD k 0=R at*;have o:Hid (Kt.getD k 0=R):=hR;clear hS hM hW hR;generalize hX:S.getD W 0=X at*;have p:Hid (S.getD W 0=X):=hX;clear hX f ht h;(have v:(W:Int)<25:=by omega);go_wp2_with fail;go_region_with(go_at_call 151;refine(Wy M (R:Int) (by omega) (by omega) _).mono ?_;rintro e w'⟨rfl,rfl⟩);(all_goals go_wp2);go_roundw;(case rel=>refine⟨k+1,by omega,by go_num,?_,?_,Ql (Qh g _ _)⟩;(·simp only[Kl,j.out,l.out,p.out]);·simp only[Kl,j.out,n.out,l.out,o.out];exact(d.set W _).drew);case measure=>simp[intOf];omega);·(obtain rfl:k=24:=by omega);go_wp2;go_end0;exact⟨rfl,d,g⟩
def Sd(st:List (BitVec 64))(n:BitVec 64):List (BitVec 64):=let r:=Gi (Kl (uK (eH (VL st 5)) st 5) 24).1 5;r.set 0 (r.getD 0 0^^^n)
theorem aD(w:tA)(b:Nat)(hb:5<=b)(st:List (BitVec 64))(n:BitVec 64)(h:St w b st)(ht:YQ w):pD tI 144 #[.pointer (T ⟨b,0,V⟩),tR .u64 (U n)] w fun e w'=>e=sW (oW #[])∧St w' b (Sd st n)∧tB w w' (T b):=by
 go_enter Tryz.func144,Tryz.ntmps144;go_wp2_with fail;refine(eC _ b st h).mono ?_;rintro e k⟨rfl,c,g1⟩;go_wp2_with fail;refine(cY _ b hb _ c (ht.grown g1 hb)).mono ?_;rintro e l⟨rfl,d,g2⟩;go_wp2_with fail;refine(aK _ b _ d).mono ?_;rintro e m⟨rfl,a,g3⟩;have g:=Qa g1 (Qa g2 g3);clear g1 g2 g3 c d h ht;have f:Hid (Sd st n=(Gi (Kl (uK (eH (VL st 5)) st 5) 24).1 5).set 0 ((Gi (Kl (uK (eH (VL st 5)) st 5) 24).1 5).getD 0 0^^^n)):=rfl;generalize Gi (Kl (uK (eH (VL st 5)) st 5) 24).1 5=S at*;have i:=a.cell 0 (by omega);have j:=a.frozen 0;generalize hx:S.getD 0 0=x at*;clear hx;go_wp2_with fail;go_region;go_wp2_with fail;go_end0;refine⟨rfl,?_,Ql (Qh g 0 _)⟩;rw[f.out,Zw];exact(a.set 0 _).drew
def uW{α:Type}(p:α->Bool):List α->Option Nat|[]=>V|a::l=>if p a=tC then T 0 else(uW p l).map (·+1)
def ZQ{α:Type}(p:α->Bool)(l:List α):Int:=match uW p l with|T i=>(i:Int)|none=>-1
theorem T6{α:Type}(p:α->Bool)(d:α):∀(l:List α)(m:Nat),m<l.length->(l.take m).any p=tH->p (l.getD m d)=tC->uW p l=T m|[],_,h,_,_=>by simp at h|a::l,0,_,_,h=>by have b:p a=tC:=h;rw[uW,if_pos b]|a::l,m+1,h0,h1,h2=>by rw[sM,r7,rX]at h1;rw[uW,if_neg (by rw[h1.1];decide),T6 p d l m (by simpa using h0) h1.2 (by simpa using h2)];rfl
theorem F3{α:Type}(p:α->Bool):∀(l:List α),l.any p=tH->uW p l=V|[],_=>rfl|a::l,h=>by rw[r7,rX]at h;rw[uW,if_neg (by rw[h.1];decide),F3 p l h.2];rfl
theorem zS{α:Type}(p:α->Bool)(d:α)(l:List α)(m:Nat)(h:m<l.length)(h1:(l.take m).any p=tH)(h2:p (l.getD m d)=tC):ZQ p l=(m:Int):=by
 rw[ZQ,T6 p d l m h h1 h2]
theorem Uk{α:Type}(p:α->Bool)(l:List α)(h:l.any p=tH):ZQ p l=-1:=by
 rw[ZQ,F3 p l h]
theorem VB{α:Type}(p:α->Bool)(d:α):∀(l:List α),l.any p=tC->∃m,m<l.length∧(l.take m).any p=tH∧p (l.getD m d)=tC∧ZQ p l=(m:Int)|[],h=>by simp at h|a::l,h=>by by_cases b:p a=tC;(·exact⟨0,by simp,by simp,b,zS p d (a::l) 0 (by simp) (by simp) b⟩);·(have g:p a=tH:=by simpa using b);rw[r7,g,Bool.false_or]at h;obtain⟨m,k,i,j,_⟩:=VB p d l h;(have c:m+1<(a::l).length:=by simp;omega);(have e:((a::l).take (m+1)).any p=tH:=by rw[sM,r7,g,i];rfl);(have f:p ((a::l).getD (m+1) d)=tC:=by simpa using j);exact⟨m+1,c,e,f,zS p d _ _ c e f⟩
theorem vH{α:Type}(p:α->Bool)(l:List α):(ZQ p l==-1)=!(l.any p):=by
 cases h:l.any p with|false=>rw[Uk p l h];rfl|true=>cases l with|nil=>simp at h|cons a l=>obtain⟨m,_,_,_,e⟩:=VB p a (a::l) h;rw[e];(have:((m:Int)==-1)=tH:=by simp);rw[this];rfl
theorem Rw{α:Type}(p:α->Bool)(l:List α):tN (0<=ZQ p l)=l.any p:=by
 cases h:l.any p with|false=>rw[Uk p l h];rfl|true=>cases l with|nil=>simp at h|cons a l=>obtain⟨m,_,_,_,e⟩:=VB p a (a::l) h;rw[e];simp
theorem Up(w:tA)(v1 v2:tE)(b1 b2:List UInt8)(h1:Qe w v1 b1)(h2:Qe w v2 b2):pD tI 46 #[v1,v2] w fun e w'=>e=sW (pT (tN (b1=b2)))∧w'=w:=by
 have a:=Kc w v1 b1 h1;have b:=Kc w v2 b2 h2;go_enter Tryz.func46,Tryz.ntmps46;go_wp2;go_ret;refine⟨?_,rfl⟩;have e:((Vc b1).toList==(Vc b2).toList)=tN (b1=b2):=by rw[FS,FS];by_cases h:b1=b2<;>simp[h]
 rw[<-e];rfl
theorem PW(p:Q9):QR [] [p]=Qz p:=by
 have b:Q5 []=0:=(Xc []).2 JA;rw[QR,if_pos b,if_neg (by simp),Zr];by_cases h:Qz p=0;·have a:=T9 JA h IS (by omega);have c:(QS [] p).length<=1:=Co [] p;rw[if_neg (by omega)]at a;rw[if_pos h,if_pos a,Zr,h]
 ·rw[if_neg h]
def TO:Prop:=∀(w:tA)(a:Option pK)(n cap:Nat),pD tI 31 #[tP a n cap] w fun e w'=>e=sW (tR rI (Qn n))∧tB w w' V
theorem YZ:TO:=by
 intro w a n cap;by_cases c:1<=n;·by_cases d:n<=16;(·rw[Qn,if_pos ⟨c,d⟩];(have b:¬(n:Int)<1:=by omega);(have e:¬(n:Int)>16:=by omega);go_enter pU,pM;go_wp2;go_ret;exact⟨rfl,Qb _ _⟩);·rw[Qn,if_neg (by omega)];(have b:¬(n:Int)<1:=by omega);(have e:(n:Int)>16:=by omega);go_enter pU,pM;go_wp2;go_ret;exact⟨rfl,Qb _ _⟩
 ·rw[Qn,if_neg (by omega)];(have b:(n:Int)<1:=by omega);go_enter pU,pM;go_wp2;go_ret;exact⟨rfl,Qb _ _⟩
def Zz(l:PL)(k:List UInt8):Nat:=(l.takeWhile fun p=>YN p.1 k).length
def qK(l:PL)(k:List UInt8):Bool:=tN (Zz l k<l.length∧(l.getD (Zz l k) ([],[])).1=k)
def X5(l:PL)(k:List UInt8):Nat:=if qK l k=tC then Zz l k+1 else Zz l k
theorem jM(l:PL)(k:List UInt8):Zz l k<=l.length:=by
 induction l with|nil=>simp[Zz]|cons p r ih=>unfold Zz at ih⊢;rw[pY];cases h:YN p.1 k with|true=>simpa using ih|false=>simp
theorem bV:∀(l:PL)(k:List UInt8)(i:Nat),i<=l.length->(∀j,j<i->YN (l.getD j ([],[])).1 k=tC)->(i<l.length->YN (l.getD i ([],[])).1 k=tH)->Zz l k=i|[],k,i,h,_,_=>by(obtain rfl:i=0:=by simpa using h);rfl|p::r,k,0,_,_,h2=>by have:=h2 (by simp);simp only[sC]at this;simp[Zz,this]|p::r,k,i+1,h,h1,h2=>by have a:=h1 0 (by omega);simp only[sC]at a;have:=bV r k i (by simpa using h) (fun j c=>by simpa using h1 (j+1) (by omega)) (fun b=>by simpa using h2 (by simpa using b));unfold Zz at this⊢;rw[tT (p:=fun p:Pr=>YN p.1 k) a];simpa using this
theorem M2:∀(l:PL)(k:List UInt8)(j:Nat),j<Zz l k->YN (l.getD j ([],[])).1 k=tC|[],k,j,h=>by simp[Zz]at h|p::r,k,j,h=>by cases hk:YN p.1 k with|false=>simp[Zz,hk]at h|true=>cases j with|zero=>simpa using hk|succ j=>unfold Zz at h;rw[tT (p:=fun p:Pr=>YN p.1 k) hk]at h;have:=M2 r k j (by unfold Zz;simpa using h);simpa using this
theorem Do:∀(l:PL)(k:List UInt8),Zz l k<l.length->YN (l.getD (Zz l k) ([],[])).1 k=tH|[],k,h=>by simp at h|p::r,k,h=>by cases hk:YN p.1 k with|false=>simp[Zz,hk]|true=>(have e:Zz (p::r) k=Zz r k+1:=by unfold Zz;rw[tT (p:=fun p:Pr=>YN p.1 k) hk];simp);rw[e]at h⊢;have:=Do r k (by simpa using h);simpa using this
theorem vU(l:PL)(k:List UInt8)(hr:J7 l)(j:Nat)(hj:j<l.length):YN (l.getD j ([],[])).1 k=tN (j<Zz l k):=by
 by_cases h:j<Zz l k;·rw[decide_eq_true h];exact M2 l k j h
 ·rw[decide_eq_false h];have a:=Do l k (by omega);by_cases e:j=Zz l k;(·rw[e];exact a);·cases hk:YN (l.getD j ([],[])).1 k with|false=>rfl|true=>have:=Jp _ _ _ (Vd l hr (Zz l k) j (by omega) hj) hk;rw[this]at a;cases a
theorem PG{l:PL}{k:List UInt8}(h:qK l k=tC):Zz l k<l.length∧(l.getD (Zz l k) ([],[])).1=k:=by
 simpa only[qK,decide_eq_true_eq]using h
theorem kC(l:PL)(k:List UInt8):Zz l k<=X5 l k∧X5 l k<=l.length∧X5 l k<=Zz l k+1:=by
 have:=jM l k;unfold X5;by_cases h:qK l k=tC;·rw[if_pos h];have:=(PG h).1;omega
 ·rw[if_neg h];omega
theorem TQ(l:PL)(k:List UInt8)(hr:J7 l)(j:Nat)(hj:j<l.length)(he:(l.getD j ([],[])).1=k):qK l k=tC∧j=Zz l k:=by
 have a:Zz l k=j:=by refine bV l k j (by omega) (fun i b=>?_) (fun _=>?_);(·rw[<-he];exact Vd l hr i j b hj);·rw[he];exact XY k
 refine⟨?_,a.symm⟩;rw[qK,a];exact decide_eq_true ⟨hj,he⟩
theorem fH(l:PL)(k:List UInt8)(hr:J7 l):JG l k=if qK l k=tC then T (l.getD (Zz l k) ([],[])).2 else V:=by
 by_cases h:qK l k=tC;·rw[if_pos h];obtain⟨b,c⟩:=PG h;refine bO l k _ b (fun j a e=>?_) c;have:=M2 l k j a;rw[e,XY]at this;cases this
 ·rw[if_neg h];exact Rz l k fun j a e=>h (TQ l k hr j a e).1
theorem C9(l:PL)(p:Pr):JD l p=l.take (Zz l p.1)++([p]++l.drop (X5 l p.1)):=by
 rw[Wt l p (Zz l p.1) (jM l p.1) (fun j a=>M2 l p.1 j a) (Do l p.1)];by_cases h:Zz l p.1<l.length∧(l.getD (Zz l p.1) ([],[])).1=p.1;·rw[if_pos h,X5,if_pos (by rw[qK];exact decide_eq_true h),pC,if_pos h.1];rfl
 ·rw[if_neg h,X5,if_neg (by rw[qK];simpa using h)]
theorem aT(l:PL)(p:Pr):(JD l p).length=Zz l p.1+1+(l.length-X5 l p.1):=by
 rw[C9];have a:=jM l p.1;simp;omega
theorem aG(l:PL)(p:Pr)(hl:l.length<=60):(60<(JD l p).length)↔(Zz l p.1=X5 l p.1∧l.length=60):=by
 rw[aT];have:=kC l p.1;omega
theorem Bx(l:PL)(f:Pr->Bool)(n:Nat)(hn:n<=l.length)(h1:∀j,j<n->f (l.getD j ([],[]))=tH)(h2:∀j,n<=j->j<l.length->f (l.getD j ([],[]))=tC):l.filter f=l.drop n:=by
 have e:l=l.take n++l.drop n:=(tL n l).symm;have d:(l.take n).filter f=[]:=by rw[sP];intro q c;obtain⟨j,b,rfl⟩:=tD.1 c;(have a:j<n:=by simp at b;omega);have:=h1 j a;rw[sL];rw[show l[j]'(by omega)=l.getD j ([],[])by simp[show j<l.length by omega],this];simp
 have g:(l.drop n).filter f=l.drop n:=by rw[tU];intro q c;obtain⟨j,b,rfl⟩:=tD.1 c;(have a:n+j<l.length:=by simp at b;omega);rw[sS,show l[n+j]=l.getD (n+j) ([],[])by simp[a]];exact h2 _ (by omega) a
 conv=>lhs;rw[e]
 rw[sO,d,g,pH]
theorem B9(l:PL)(f:Pr->Bool)(n:Nat)(hn:n<=l.length)(h1:∀j,j<n->f (l.getD j ([],[]))=tC)(h2:∀j,n<=j->j<l.length->f (l.getD j ([],[]))=tH):l.filter f=l.take n:=by
 have e:l=l.take n++l.drop n:=(tL n l).symm;have g:(l.drop n).filter f=[]:=by rw[sP];intro q c;obtain⟨j,b,rfl⟩:=tD.1 c;(have a:n+j<l.length:=by simp at b;omega);rw[sS,show l[n+j]=l.getD (n+j) ([],[])by simp[a],h2 _ (by omega) a];simp
 have d:(l.take n).filter f=l.take n:=by rw[tU];intro q c;obtain⟨j,b,rfl⟩:=tD.1 c;(have a:j<n:=by simp at b;omega);rw[sL,show l[j]'(by omega)=l.getD j ([],[])by simp[show j<l.length by omega]];exact h1 j a
 conv=>lhs;rw[e]
 rw[sO,d,g,sA]
theorem bZ(l:PL)(k:List UInt8)(hr:J7 l):qJ l k=l.take (Zz l k)++l.drop (X5 l k):=by
 by_cases h:qK l k=tC;·obtain⟨f,g⟩:=PG h;(have e:l=l.take (Zz l k)++(l.getD (Zz l k) ([],[])::l.drop (Zz l k+1)):=by(conv=>lhs;rw[<-tL (Zz l k) l,sK f]);simp[f]);have c:∀j,j<l.length->j≠Zz l k->(l.getD j ([],[])).1≠k:=fun j a n e=>n (TQ l k hr j a e).2;(have i:(l.take (Zz l k)).filter (fun q=>!(q.1==k))=l.take (Zz l k):=by rw[tU];intro q d;obtain⟨j,a,rfl⟩:=tD.1 d;(have b:j<Zz l k:=by simp at a;omega);rw[sL,show l[j]'(by omega)=l.getD j ([],[])by simp[show j<l.length by omega]];simpa using c j (by omega) (by omega));(have m:(l.drop (Zz l k+1)).filter (fun q=>!(q.1==k))=l.drop (Zz l k+1):=by rw[tU];intro q d;obtain⟨j,a,rfl⟩:=tD.1 d;(have b:Zz l k+1+j<l.length:=by simp at a;omega);rw[sS,show l[Zz l k+1+j]=l.getD (Zz l k+1+j) ([],[])by simp[b]];simpa using c _ b (by omega));rw[X5,if_pos h,qJ];(conv=>lhs;rw[e]);rw[sO,sY (by simpa using g),i,m]
 ·rw[X5,if_neg h,tL,qJ,tU];intro q d;obtain⟨j,a,rfl⟩:=tD.1 d;have:=fun e=>h (TQ l k hr j a e).1;rw[show l.getD j ([],[])=l[j]by simp[a]]at this;simpa using this
theorem Tc(l:PL)(k:List UInt8)(hr:J7 l)(j:Nat)(hj:j<l.length):YN k (l.getD j ([],[])).1=tN (X5 l k<=j):=by
 have a:=vU l k hr j hj;have g:=kC l k;by_cases c:j<Zz l k;·rw[decide_eq_true c]at a;rw[If _ _ a,decide_eq_false (by omega)]
 ·rw[decide_eq_false c]at a;by_cases e:(l.getD j ([],[])).1=k;(·obtain⟨d,f⟩:=TQ l k hr j hj e;rw[e,XY,X5,if_pos d,decide_eq_false (by omega)]);·rw[Uo _ _ a e];by_cases h:qK l k=tC;(·rw[X5,if_pos h,decide_eq_true (by by_cases b:j=Zz l k;(·exact absurd (by rw[b];exact(PG h).2) e);·omega)]);·rw[X5,if_neg h,decide_eq_true (by omega)]
theorem Sg(l:PL)(f t:List UInt8)(hr:J7 l):Z4 l f t=(l.take (max (Zz l f) (X5 l t))).drop (Zz l f):=by
 have k:=jM l f;have d:=kC l t;have e:Z4 l f t=(l.filter fun q=>!YN t q.1).filter fun q=>!YN q.1 f:=by rw[Z4,List.filter_filter]
 rw[e,B9 l _ (X5 l t) d.2.1 (fun j a=>by rw[Tc l t hr j (by omega),decide_eq_false (by omega)];rfl) (fun j a b=>by rw[Tc l t hr j b,decide_eq_true a];rfl)];have h:∀(n:Nat),n<=l.length->(l.take n).filter (fun q=>!YN q.1 f)=(l.take n).drop (Zz l f):=by intro n m;by_cases g:Zz l f<=n;(·refine Bx _ _ _ (by simp;omega) (fun j a=>?_) (fun j a b=>?_);(·(have:(l.take n).getD j ([],[])=l.getD j ([],[]):=by simp[show j<n by omega]);rw[this,vU l f hr j (by omega),decide_eq_true a];rfl);·(have c:j<n:=by simp at b;omega);(have:(l.take n).getD j ([],[])=l.getD j ([],[]):=by simp[c]);rw[this,vU l f hr j (by omega),decide_eq_false (by omega)];rfl);·rw[sB (by simp;omega),sP];intro q i;obtain⟨j,a,rfl⟩:=tD.1 i;(have c:j<n:=by simp at a;omega);rw[sL,show l[j]'(by omega)=l.getD j ([],[])by simp[show j<l.length by omega],vU l f hr j (by omega),decide_eq_true (by omega)];simp
 rw[h _ d.2.1];by_cases g:Zz l f<=X5 l t;·rw[Nat.max_eq_right g]
 ·rw[Nat.max_eq_left (by omega),sB (by simp;omega),sB (by simp;omega)]
theorem MK:∀(t:FL)(p:Tn)(k:Nat),k<=t.length->(∀j,j<k->YN (t.getD j ([],[])).1 p.1=tC)->(k<t.length->YN (t.getD k ([],[])).1 p.1=tH)->YV t p=if k<t.length∧(t.getD k ([],[])).1=p.1then t.set k p else t.take k++([p]++t.drop k)|[],p,k,a,_,_=>by(obtain rfl:k=0:=by simpa using a);simp[YV]|q::r,p,0,_,_,h2=>by have h:=h2 (by simp);simp only[sC]at h;rw[YV,if_neg (by rw[h];simp)];by_cases e:q.1=p.1;(·rw[if_pos e,if_pos ⟨by simp,by simpa using e⟩];simp);·rw[if_neg e,if_neg (fun h=>e (by simpa using h.2))];simp|q::r,p,k+1,a,h1,h2=>by have h:=h1 0 (by omega);simp only[sC]at h;rw[YV,if_pos h,MK r p k (by simpa using a) (fun j b=>by simpa using h1 (j+1) (by omega)) (fun a=>by simpa using h2 (by simpa using a))];by_cases e:k<r.length∧(r.getD k ([],[])).1=p.1;(·rw[if_pos e,if_pos ⟨by simpa using e.1,by simpa using e.2⟩];simp);·rw[if_neg e,if_neg (fun h=>e ⟨by simpa using h.1,by simpa using h.2⟩)];simp
def QA(l:FL)(k:List UInt8):Nat:=(l.takeWhile fun p=>YN p.1 k).length
def Ks(l:FL)(k:List UInt8):Bool:=tN (QA l k<l.length∧(l.getD (QA l k) ([],[])).1=k)
def QM(l:FL)(k:List UInt8):Nat:=if Ks l k=tC then QA l k+1 else QA l k
theorem Pi(l:FL)(k:List UInt8):QA l k<=l.length:=by
 induction l with|nil=>simp[QA]|cons p r ih=>unfold QA at ih⊢;rw[pY];cases h:YN p.1 k with|true=>simpa using ih|false=>simp
theorem Cl:∀(l:FL)(k:List UInt8)(i:Nat),i<=l.length->(∀j,j<i->YN (l.getD j ([],[])).1 k=tC)->(i<l.length->YN (l.getD i ([],[])).1 k=tH)->QA l k=i|[],k,i,h,_,_=>by(obtain rfl:i=0:=by simpa using h);rfl|p::r,k,0,_,_,h2=>by have:=h2 (by simp);simp only[sC]at this;simp[QA,this]|p::r,k,i+1,h,h1,h2=>by have a:=h1 0 (by omega);simp only[sC]at a;have:=Cl r k i (by simpa using h) (fun j c=>by simpa using h1 (j+1) (by omega)) (fun b=>by simpa using h2 (by simpa using b));unfold QA at this⊢;rw[tT (p:=fun p:Tn=>YN p.1 k) a];simpa using this
theorem Pg:∀(l:FL)(k:List UInt8)(j:Nat),j<QA l k->YN (l.getD j ([],[])).1 k=tC|[],k,j,h=>by simp[QA]at h|p::r,k,j,h=>by cases hk:YN p.1 k with|false=>simp[QA,hk]at h|true=>cases j with|zero=>simpa using hk|succ j=>unfold QA at h;rw[tT (p:=fun p:Tn=>YN p.1 k) hk]at h;have:=Pg r k j (by unfold QA;simpa using h);simpa using this
theorem Fw:∀(l:FL)(k:List UInt8),QA l k<l.length->YN (l.getD (QA l k) ([],[])).1 k=tH|[],k,h=>by simp at h|p::r,k,h=>by cases hk:YN p.1 k with|false=>simp[QA,hk]|true=>(have e:QA (p::r) k=QA r k+1:=by unfold QA;rw[tT (p:=fun p:Tn=>YN p.1 k) hk];simp);rw[e]at h⊢;have:=Fw r k (by simpa using h);simpa using this
theorem II(l:FL)(k:List UInt8)(hr:Ye l)(j:Nat)(hj:j<l.length):YN (l.getD j ([],[])).1 k=tN (j<QA l k):=by
 by_cases h:j<QA l k;·rw[decide_eq_true h];exact Pg l k j h
 ·rw[decide_eq_false h];have a:=Fw l k (by omega);by_cases e:j=QA l k;(·rw[e];exact a);·cases hk:YN (l.getD j ([],[])).1 k with|false=>rfl|true=>have:=Jp _ _ _ (zX l hr (QA l k) j (by omega) hj) hk;rw[this]at a;cases a
theorem kI{l:FL}{k:List UInt8}(h:Ks l k=tC):QA l k<l.length∧(l.getD (QA l k) ([],[])).1=k:=by
 simpa only[Ks,decide_eq_true_eq]using h
theorem Fk(l:FL)(k:List UInt8):QA l k<=QM l k∧QM l k<=l.length∧QM l k<=QA l k+1:=by
 have:=Pi l k;unfold QM;by_cases h:Ks l k=tC;·rw[if_pos h];have:=(kI h).1;omega
 ·rw[if_neg h];omega
theorem FO(l:FL)(k:List UInt8)(hr:Ye l)(j:Nat)(hj:j<l.length)(he:(l.getD j ([],[])).1=k):Ks l k=tC∧j=QA l k:=by
 have a:QA l k=j:=by refine Cl l k j (by omega) (fun i b=>?_) (fun _=>?_);(·rw[<-he];exact zX l hr i j b hj);·rw[he];exact XY k
 refine⟨?_,a.symm⟩;rw[Ks,a];exact decide_eq_true ⟨hj,he⟩
theorem IL(l:FL)(k:List UInt8)(hr:Ye l):U9 l k=if Ks l k=tC then T (l.getD (QA l k) ([],[])).2 else V:=by
 by_cases h:Ks l k=tC;·rw[if_pos h];obtain⟨b,c⟩:=kI h;refine Ai l k _ b (fun j a e=>?_) c;have:=Pg l k j a;rw[e,XY]at this;cases this
 ·rw[if_neg h];exact Ed l k fun j a e=>h (FO l k hr j a e).1
theorem EG(l:FL)(p:Tn):YV l p=l.take (QA l p.1)++([p]++l.drop (QM l p.1)):=by
 rw[MK l p (QA l p.1) (Pi l p.1) (fun j a=>Pg l p.1 j a) (Fw l p.1)];by_cases h:QA l p.1<l.length∧(l.getD (QA l p.1) ([],[])).1=p.1;·rw[if_pos h,QM,if_pos (by rw[Ks];exact decide_eq_true h),pC,if_pos h.1];rfl
 ·rw[if_neg h,QM,if_neg (by rw[Ks];simpa using h)]
theorem LZ(l:FL)(p:Tn):(YV l p).length=QA l p.1+1+(l.length-QM l p.1):=by
 rw[EG];have a:=Pi l p.1;simp;omega
theorem RU(l:FL)(p:Tn)(hl:l.length<=8):(8<(YV l p).length)↔(QA l p.1=QM l p.1∧l.length=8):=by
 rw[LZ];have:=Fk l p.1;omega
theorem Sz(l:FL)(k:List UInt8)(hr:Ye l):G5 l k=l.take (QA l k)++l.drop (QM l k):=by
 by_cases h:Ks l k=tC;·obtain⟨f,g⟩:=kI h;(have e:l=l.take (QA l k)++(l.getD (QA l k) ([],[])::l.drop (QA l k+1)):=by(conv=>lhs;rw[<-tL (QA l k) l,sK f]);simp[f]);have c:∀j,j<l.length->j≠QA l k->(l.getD j ([],[])).1≠k:=fun j a n e=>n (FO l k hr j a e).2;(have i:(l.take (QA l k)).filter (fun q=>!(q.1==k))=l.take (QA l k):=by rw[tU];intro q d;obtain⟨j,a,rfl⟩:=tD.1 d;(have b:j<QA l k:=by simp at a;omega);rw[sL,show l[j]'(by omega)=l.getD j ([],[])by simp[show j<l.length by omega]];simpa using c j (by omega) (by omega));(have m:(l.drop (QA l k+1)).filter (fun q=>!(q.1==k))=l.drop (QA l k+1):=by rw[tU];intro q d;obtain⟨j,a,rfl⟩:=tD.1 d;(have b:QA l k+1+j<l.length:=by simp at a;omega);rw[sS,show l[QA l k+1+j]=l.getD (QA l k+1+j) ([],[])by simp[b]];simpa using c _ b (by omega));rw[QM,if_pos h,G5];(conv=>lhs;rw[e]);rw[sO,sY (by simpa using g),i,m]
 ·rw[QM,if_neg h,tL,G5,tU];intro q d;obtain⟨j,a,rfl⟩:=tD.1 d;have:=fun e=>h (FO l k hr j a e).1;rw[show l.getD j ([],[])=l[j]by simp[a]]at this;simpa using this
theorem lZ(l:FL)(k:List UInt8)(hr:Ye l):XT l k=if Ks l k=tC then(l.getD (QA l k) ([],[])).2 else[]:=by
 unfold XT;rw[IL l k hr];by_cases h:Ks l k=tC;·rw[if_pos h,if_pos h];rfl
 ·rw[if_neg h,if_neg h];rfl
theorem CT(l:FL)(k:List UInt8)(hr:Ye l):((l.take (QM l k)).drop (QA l k)=[]∧XT l k=[]∧QM l k=QA l k)∨(∃t,(l.take (QM l k)).drop (QA l k)=[t]∧XT l k=t.2∧QM l k=QA l k+1):=by
 rw[lZ l k hr];by_cases h:Ks l k=tC;·right;obtain⟨a,b⟩:=kI h;refine⟨l.getD (QA l k) ([],[]),?_,by rw[if_pos h],by rw[QM,if_pos h]⟩;rw[QM,if_pos h,List.take_succ_eq_append_getElem a,pG (by simp;omega),sB (by simp;omega),pH];simp[a]
 ·left;refine⟨?_,by rw[if_neg h],by rw[QM,if_neg h]⟩;rw[QM,if_neg h,sB (by simp;omega)]
def fX:Prop:=∀(w:tA)(a:Option pK)(n cap:Nat),pD tI 30 #[tP a n cap] w fun e w'=>e=sW (tR rI (Qt n))∧tB w w' V
def WI:Prop:=∀(w:tA)(v:tE)(r:Rq),UX w->KQ w v r->jX r->pD tI 20 #[v] w fun e w'=>e=sW (tR rI (Yr r))∧tB w w' V
end Go.Proofs.YtiahomhpaejnhaaGreatDoor
