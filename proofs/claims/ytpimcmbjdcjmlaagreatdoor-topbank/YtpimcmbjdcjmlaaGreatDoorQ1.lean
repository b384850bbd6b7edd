/-
  Texts of this proof, joined, with few blanks: Base, LineF, SlM, PartM, Keys, PlaceM, Trees, TreeF, FitsF, ForestF, RdF, WrM0, TapeF, TapeG, KTree, KPure, ForestK, ForestE, WireF, WireG, LineG, RqMem, RqBox, RqEn, RdM0, ProofM, Sides, ForkF, Bits, Lanes, Cols, Move, Round, IdxF, EqB, ApplyOne, CheckC, CheckP, PosF, FPosF, FCName, RqCk.
-/
import Derived.WalkKit
import Derived.WalkSpells
import Derived.WalkLawsBesides
import Derived.BigRegion
import Derived.Deep.QuietTactic
import Derived.BigQuiet
import Derived.Deep.RegionHeld3
import Derived.Deep.DeepCutAuto
import Derived.Lib.Strings
import Derived.Test.YtpimcmbjdcjmlaaGreatDoorChecked
set_option maxRecDepth 100000
set_option maxHeartbeats 8000000
open Array renaming getElem?_eq_some_iff->tS,getElem?_modify->tW,ext->oO
open BitVec renaming ofInt->sG,ofInt_natCast->pR
open Bool renaming true->tD,false->tH,or_eq_false_iff->rW,and_eq_true->oF,or_eq_true->oI
open Classical renaming byContradiction->sU
open Decidable renaming decide->tN
open Go renaming World->tA,Value->tE,TypeId->rD,heap_alloc_new->rS,Calls->pB,Addr->pJ,maxLen->oQ,info_parts->oR
open Go.Ending renaming returned->sW
open Go.IntKind renaming i64->rH,u64->rM,u8->rN,wrap_u64->r8
open Go.Obj renaming cells->tQ
open Go.Op renaming bytesLess->sM
open Go.Proofs.Tryz renaming prog->tI,underlying25->sR,ntmps21->pL,func21->pU
open Go.Value renaming slice->tP,int->tR,bool->pT,agg->oC,tuple->oD,ownBlock->oH
open Go.Value.slice renaming injEq->rJ
open Go.World renaming grownBy->tB,setCell->tM,cell?->sE,frozen?->rC,grownBy_alloc->rX
open Int renaming toNat_natCast->rP,le_refl->oP
open List renaming mem_iff_getElem->tC,length_append->tF,eq_nil_of_length_eq_zero->tG,append_assoc->tJ,take_append_drop->tL,takeWhile_cons_of_pos->tT,filter_eq_self->tU,mem_cons->tY,append_nil->sA,drop_eq_nil_of_le->sB,getD_cons_zero->sC,mem_cons_of_mem->sD,drop_eq_getElem_cons->sI,getElem_take->sJ,getElem_mem->sK,take_succ_cons->sL,pairwise_cons->sN,filter_append->sO,filter_eq_nil_iff->sP,getElem_drop->sS,pairwise_singleton->sX,filter_cons_of_neg->sY,getElem?_map->rA,length_filter_le->rF,flatMap_cons->rO,getElem?_eq_getElem->rT,take_left'->rU,drop_left'->rV,any_cons->rY,mem_cons_self->r7,set_eq_take_append_cons_drop->pA,length_cons->pC,mem_filter->pD,take_append_of_le_length->pE,drop_append_of_le_length->pF,nil_append->pG,getElem?_eq_some_iff->pH,pairwise_iff_getElem->pI,filter_cons_of_pos->pK,take_of_length_le->pM,find?_cons_of_pos->pO,find?_cons_of_neg->pP,drop_succ_cons->pW,takeWhile_cons->pY,getElem?_take->pZ,length_drop->oG,map_cons->oK,take_nil->oL
open List.Pairwise renaming cons->tZ,filter->sZ,nil->rG
open Nat renaming lt_of_lt_of_le->tX,le_refl->sF,testBit_lt_two_pow->rB,pow_le_pow_right->rI,le_trans->rK,testBit_div_two_pow->pN,div_div_eq_div_mul->pS,eq_of_testBit_eq->pV,min_eq_left->oJ,sub_self->oM,mul_one->oN
open Option renaming some->T,none->V,map_some->sV
open Option.some renaming injEq->tV,inj->pQ
open Prod.mk renaming injEq->sH
open UInt8 renaming ofNat->tK,lt_iff_toNat_lt->sQ,toNat_ofNat'->pX,toNat_inj->oE
namespace Go.Proofs.YtpimcmbjdcjmlaaGreatDoor
open Go.RowKit
section
theorem Qb(w:tA)(r:Option Nat):tB w w r:=⟨rfl,rfl,rfl,sF _,fun _ _ _=>rfl⟩
theorem Qa{w w1 w2:tA}{r:Option Nat}(h:tB w w1 r)(k:tB w1 w2 r):tB w w2 r:=⟨k.os.trans h.os,k.tape.trans h.tape,k.output.trans h.output,rK h.size k.size,fun i a b=>(k.block i (tX a h.size) b).trans (h.block i a b)⟩
theorem Qj{w w1:tA}{r:Option Nat}(h:tB w w1 r):tB w w1.drew r:=⟨h.os,h.tape,h.output,h.size,h.block⟩
theorem Qq{w w1:tA}{r:Option Nat}(h:tB w w1 r)(n:Nat):tB w (w1.drewN n) r:=⟨h.os,h.tape,h.output,h.size,h.block⟩
theorem Qf{w w1:tA}{b:Nat}(h:tB w w1 (T b))(i:Nat)(v:tE):tB w (tM w1 ⟨b,i,V⟩ v) (T b):=Qa h ⟨rfl,rfl,rfl,by
 simp[tM],fun k _ a=>Below.heap_setCell _ _ _ _ (by
 intro e;exact a (by rw[e]))⟩
theorem QA{w w1:tA}{r:Option Nat}(h:tB w w1 r)(o:Obj):tB w (w1.alloc o) r:=Qa h (rX _ _ _)
theorem Ju{w w1 w2:tA}{r:Option Nat}{c:Nat}(h:tB w w1 r)(hc:w.heap.size<=c)(k:tB w1 w2 (T c)):tB w w2 r:=⟨k.os.trans h.os,k.tape.trans h.tape,k.output.trans h.output,rK h.size k.size,fun i a b=>(k.block i (tX a h.size) (by
 simp;omega)).trans (h.block i a b)⟩
theorem Qc{w w1:tA}{r:Option Nat}(h:tB w w1 r)(c:Nat)(hc:w.heap.size<=c)(i:Nat)(v:tE):tB w (tM w1 ⟨c,i,V⟩ v) r:=Ju h hc (Qf (Qb _ _) i v)
theorem Z6(b o n:Nat):(⟨b,o,V⟩:pJ).add n=⟨b,o+n,V⟩:=by
 unfold Addr.add;split;·simp_all
 ·rfl
theorem aT(w:tA):(sizeOf (tI.elem 25)).run tI w=.ok 1 w:=by
 kernel_rfl
theorem bN(W:tA)(pb o len cap:Nat)(l:Int)(n:Nat)(hn:l=(n:Int))(h1:n<=len)(hc:n<cap):(Instr.slice 25 (tP (T ⟨pb,o,V⟩) len cap) (T (tR rH l)) V V).run tI W=.ok (tP (T ⟨pb,o+n,V⟩) (len-n) (cap-n)) W:=by
 subst hn;rw[run_slice_l _ _ _ _ _ (by kernel_rfl) _ _ (by omega) (by omega),aT];simp only[Result.andThen,sliced,rP,sV,oN,Z6];rw[if_neg (by omega)]
theorem SG(W:tA)(pb o len cap:Nat)(l:Int)(n:Nat)(hn:l=(n:Int))(hc:n<=cap)(h0:0<cap):(Instr.slice 25 (tP (T ⟨pb,o,V⟩) len cap) V (T (tR rH l)) V).run tI W=.ok (tP (T ⟨pb,o,V⟩) n cap) W:=by
 subst hn;rw[run_slice_h _ _ _ _ _ (by kernel_rfl) _ _ (by omega) (by omega),aT];simp only[Result.andThen,sliced,rP,sV,oN,Z6];rw[if_neg (by omega)];simp
def KF(w:tA)(pb o:Nat)(bs:List UInt8):Prop:=∀i,i<bs.length->w.cell? ⟨pb,o+i,V⟩=T (tR rN ((bs.getD i 0).toNat:Int))
theorem KF.drew{w:tA}{pb o:Nat}{bs:List UInt8}(h:KF w pb o bs):KF w.drew pb o bs:=h
theorem KF.grown{w w':tA}{pb o:Nat}{bs:List UInt8}{r:Option Nat}(h:KF w pb o bs)(hg:tB w w' r)(hr:T pb≠r):KF w' pb o bs:=fun i a=>hg.cell (h i a) hr
def ZU(bs:List UInt8):Array tE:=(bs.map fun c=>tR rN (c.toNat:Int)).toArray
def ZJ(w:tA)(b:Nat)(bs:List UInt8):Prop:=∃t,w.heap[b]?=T (tQ (ZU bs) t (0,0))
section
variable{w:tA}{b:Nat}{bs:List UInt8}
theorem ZJ.cell(h:ZJ w b bs)(i:Nat)(hi:i<bs.length):w.cell? ⟨b,i,V⟩=T (tR rN ((bs.getD i 0).toNat:Int)):=by
 obtain⟨t,a⟩:=h;simp[sE,a,ZU,rA,rT hi]
theorem ZJ.frozen(h:ZJ w b bs)(i:Nat):w.frozen? ⟨b,i,V⟩=tH:=by
 obtain⟨t,a⟩:=h;simp[rC,a]
theorem ZJ.lt(h:ZJ w b bs):b<w.heap.size:=by
 obtain⟨t,a⟩:=h;exact(tS.1 a).1
theorem CW(bs:List UInt8)(i:Nat)(x:UInt8):(ZU bs).setIfInBounds i (tR rN (x.toNat:Int))=ZU (bs.set i x):=by
 simp[ZU]
theorem ZJ.set(h:ZJ w b bs)(i:Nat)(x:UInt8):ZJ (tM w ⟨b,i,V⟩ (tR rN (x.toNat:Int))) b (bs.set i x):=by
 obtain⟨t,a⟩:=h;refine⟨t,?_⟩;simp only[tM,tW,if_true,a,sV];simp[CW]
theorem ZJ.drewN(h:ZJ w b bs)(k:Nat):ZJ (w.drewN k) b bs:=h
theorem ZJ.drew(h:ZJ w b bs):ZJ w.drew b bs:=h
theorem ZJ.alloc(h:ZJ w b bs)(o:Obj):ZJ (w.alloc o) b bs:=by
 have c:=h.lt;obtain⟨t,a⟩:=h;exact⟨t,by rw[Below.heap_alloc _ _ _ c];exact a⟩
theorem ZJ.grown(h:ZJ w b bs){w':tA}{r:Option Nat}(hg:tB w w' r)(hr:T b≠r):ZJ w' b bs:=by
 have c:=h.lt;obtain⟨t,a⟩:=h;exact⟨t,by rw[hg.block b c hr];exact a⟩
theorem ZJ.new(w:tA)(t:rD)(bs:List UInt8):ZJ (w.alloc (tQ (ZU bs) t)) w.heap.size bs:=⟨t,rS w _⟩
theorem ZJ.at(h:ZJ w b bs)(o:Nat)(cs:List UInt8)(hc:∀i,i<cs.length->o+i<bs.length∧bs.getD (o+i) 0=cs.getD i 0):KF w b o cs:=by
 intro i a;rw[h.cell (o+i) (hc i a).1,(hc i a).2]
end
def Qe(w:tA)(v:tE)(bs:List UInt8):Prop:=∃a cap,v=tP a bs.length cap∧bs.length<=cap∧((bs=[]∧(a=V->cap=0))∨∃b o,a=T ⟨b,o,V⟩∧KF w b o bs)
theorem Qe.grown{w w':tA}{v:tE}{bs:List UInt8}(h:Qe w v bs)(hg:tB w w' V):Qe w' v bs:=by
 obtain⟨a,cap,rfl,c,h⟩:=h;refine⟨a,cap,rfl,c,?_⟩;rcases h with h|⟨b,o,rfl,h⟩;·exact .inl h
 ·exact .inr ⟨b,o,rfl,h.grown hg (by simp)⟩
theorem Qe.alloc{w:tA}{v:tE}{bs:List UInt8}(h:Qe w v bs)(o:Obj):Qe (w.alloc o) v bs:=h.grown (rX _ _ _)
theorem Qe.drew{w:tA}{v:tE}{bs:List UInt8}(h:Qe w v bs):Qe w.drew v bs:=h
theorem Qe.drewN{w:tA}{v:tE}{bs:List UInt8}(h:Qe w v bs)(n:Nat):Qe (w.drewN n) v bs:=h
theorem ZJ.slice{w:tA}{b:Nat}{bs:List UInt8}(h:ZJ w b bs)(cap:Nat)(hc:bs.length<=cap):Qe w (tP (T ⟨b,0,V⟩) bs.length cap) bs:=⟨_,cap,rfl,hc,.inr ⟨b,0,rfl,h.at 0 bs fun i a=>by
 simpa using a⟩⟩
theorem QH(w:tA):Qe w (tP V 0 0) []:=⟨V,0,rfl,sF _,.inl ⟨rfl,fun _=>rfl⟩⟩
def Ug(n:Nat):List UInt8:=List.replicate n 0
theorem EV(n:Nat):(Ug n).length=n:=by
 simp[Ug]
theorem AQ(n:Nat):madeCells (tR rN 0).cells (n*1)=ZU (Ug n):=by
 apply oO;·simp[size_madeCells,ZU,Ug]
 ·intro i a b;simp[madeCells,ZU,Ug,Value.cells,Nat.mod_one]
theorem fI:(tI.info? 5).map (fun i=>(i.zero,i.size,i.bytes))=T (T (tR rN 0),1,1):=by
 kernel_rfl
theorem fE:(tI.info? 5).map (·.size)=T 1:=by
 kernel_rfl
theorem AA(W:tA)(c:Int)(n:Nat)(hc:c=(n:Int))(hn:n<=1000000):(Instr.makeSlice 25 (tR rH c) (tR rH c)).run tI W=.ok (tP (T ⟨W.heap.size,0,V⟩) n n) (W.alloc (tQ (ZU (Ug n)) 5)):=by
 subst hc;obtain⟨f,e,a,b,d⟩:=oR fI;have h:=run_make (P:=tI) W 25 5 f (tR rN 0) sR e a rH rH (n:Int) (n:Int) (by omega) (oP _) (by rw[d];omega) (by omega);rw[h,b,rP,AQ]
theorem j8(bs:List UInt8):∀v∈(bs.map fun c=>tR rN (c.toNat:Int)),v.oneCell'=tD:=by
 intro v a;obtain⟨c,_,rfl⟩:=List.mem_map.1 a;rfl
theorem NP(w:tA)(X Y:Array tE)(t:rD):(w.alloc (tQ X t)).setRow w.heap.size Y=w.alloc (tQ Y t):=by
 simp only[World.setRow,World.alloc];congr 1;apply oO;·simp
 ·intro i b a;simp only[Array.getElem_modify,Array.getElem_push];(have c:i<w.heap.size+1:=by simpa using a);split<;>split<;>first|rfl|omega|(exfalso;omega)|simp_all
theorem Sl(w:tA)(a:Option pJ)(bs:List UInt8)(cap n m ty:Nat)(hn:bs.length<=n)(hs:Qe w (tP a bs.length cap) bs):(Builtin.copy_ #[25,25] ty #[tP (T ⟨w.heap.size,0,V⟩) n m,tP a bs.length cap]).run tI (w.alloc (tQ (ZU (Ug n)) 5))=.ok (tR rH (bs.length:Int)) (w.alloc (tQ (ZU (bs++Ug (n-bs.length))) 5)):=by
 obtain⟨k,g,e,l,h⟩:=hs.alloc (tQ (ZU (Ug n)) 5);simp only[rJ,true_and]at e;obtain⟨rfl,rfl⟩:=e;by_cases i:bs=[];·subst i;have:=run_copy_none (P:=tI) (w.alloc (tQ (ZU (Ug n)) 5)) 25 25 ty 5 (T ⟨w.heap.size,0,V⟩) a n m 0 cap sR fE (by simp);simpa[goInt]using this
 ·rcases h with h|⟨b,o,rfl,h⟩;(·exact absurd h.1 i);·have:=run_copy_row (P:=tI) (w.alloc (tQ (ZU (Ug n)) 5)) 25 25 ty 5 w.heap.size 0 n m ⟨b,o,V⟩ bs.length cap (ZU (Ug n)) 5 (bs.map fun c=>tR rN (c.toNat:Int)) sR fE (rS w _) (by simp only[List.length_map];exact(oJ hn).symm) (by intro j v d;rw[rA]at d;cases hb:bs[j]?with|none=>rw[hb]at d;simp at d|some c=>rw[hb]at d;simp at d;subst d;rw[Z6];have f:j<bs.length:=(pH.1 hb).1;rw[h j f];simp[hb]) (by simp[ZU,Ug];exact hn) (j8 bs);rw[this,NP];simp[goInt,ZU,Ug]
def VH(bs:List UInt8):List tE:=bs.map fun c=>tR rN (c.toNat:Int)
theorem O1(bs:List UInt8):(VH bs).length=bs.length:=by
 simp[VH]
theorem MO(a b:List UInt8):VH (a++b)=VH a++VH b:=by
 simp[VH]
theorem CE(bs:List UInt8)(j:Nat)(u:tE)(h:(VH bs)[j]?=T u):j<bs.length∧u=tR rN ((bs.getD j 0).toNat:Int):=by
 rw[VH,rA]at h;cases hb:bs[j]?with|none=>rw[hb]at h;simp at h|some c=>rw[hb]at h;simp at h;exact⟨(pH.1 hb).1,by simp[hb,<-h]⟩
def Q7(base:Nat)(w:tA)(v:tE)(bs:List UInt8):Prop:=w.ownsRow base 5 1 v bs.length (VH bs)
theorem QL(base:Nat)(w:tA):Q7 base w (tP V 0 0) []:=World.ownsRow_nil _ _ _ _
theorem Q7.grown{base:Nat}{w w':tA}{v:tE}{bs:List UInt8}(h:Q7 base w v bs){row:Option Nat}(hg:tB w w' row)(hne:v.ownBlock=V∨v.ownBlock≠row):Q7 base w' v bs:=World.ownsRow.kept h hg hne
theorem Q7.grownNone{base:Nat}{w w':tA}{v:tE}{bs:List UInt8}(h:Q7 base w v bs)(hg:tB w w' V):Q7 base w' v bs:=by
 refine h.grown hg ?_;cases hv:v.ownBlock with|none=>exact .inl rfl|some k=>exact .inr (by simp)
theorem Q7.alloc{base:Nat}{w:tA}{v:tE}{bs:List UInt8}(h:Q7 base w v bs)(o:Obj):Q7 base (w.alloc o) v bs:=World.ownsRow.alloc h o
theorem Q7.slice{base:Nat}{w:tA}{v:tE}{bs:List UInt8}(h:Q7 base w v bs):Qe w v bs:=by
 obtain⟨m,d⟩:=h;rcases d with⟨rfl,c⟩|⟨g,cap,a,rfl,n,j,k,o,p,l⟩;·obtain rfl:=tG c;exact QH w
 ·refine⟨_,cap,rfl,k,.inr ⟨g,0,rfl,?_⟩⟩;intro i b;(have f:a.toList[i]?=T (tR rN ((bs.getD i 0).toNat:Int)):=by(have e:(a.toList.take (bs.length*1))[i]?=(VH bs)[i]?:=by rw[l]);rw[pZ,if_pos (by omega)]at e;rw[e,VH,rA,rT b];simp[b]);simp[sE,j];simpa using f
theorem Q7.lt{base:Nat}{w:tA}{v:tE}{bs:List UInt8}(h:Q7 base w v bs):∀k,v.ownBlock=T k->base<=k∧k<w.heap.size:=World.ownsRow.lt h
theorem Q7.shape{base:Nat}{w:tA}{v:tE}{bs:List UInt8}(h:Q7 base w v bs):∃a cap,v=tP a bs.length cap:=by
 obtain⟨a,cap,e,_⟩:=h.slice;exact⟨a,cap,e⟩
theorem FU(base:Nat)(w:tA)(bs:List UInt8)(hb:base<=w.heap.size)(hm:bs.length<=oQ):Q7 base (w.alloc (tQ (ZU bs) 5)) (tP (T ⟨w.heap.size,0,V⟩) bs.length bs.length) bs:=⟨by
 simp[VH],.inr ⟨w.heap.size,bs.length,ZU bs,rfl,hb,rS w _,sF _,hm,by
 simp[ZU],by
 simp[ZU,VH,pM]⟩⟩
theorem Xj{w W w1:tA}{v:tE}{bs:List UInt8}(h:tB w W V)(ho:Q7 w.heap.size W v bs)(hg:tB W w1 v.ownBlock):tB w w1 V:=⟨hg.os.trans h.os,hg.tape.trans h.tape,hg.output.trans h.output,rK h.size hg.size,fun i a b=>(hg.block i (tX a h.size) (fun e=>by
 have:=(ho.lt i e.symm).1;omega)).trans (h.block i a b)⟩
theorem N6(w:tA)(base ty:Nat)(v:tE)(bs:List UInt8)(hown:Q7 base w v bs)(a:Option pJ)(m cap:Nat)(cs:List UInt8)(hs:Qe w (tP a m cap) cs)(hbytes:bs.length+m<=140737488355328)(hbase:base<=w.heap.size):∃v' w',(Builtin.append_ #[25,25] ty #[v,tP a m cap]).run tI w=.ok v' w'∧Q7 base w' v' (bs++cs)∧tB w w' v.ownBlock:=by
 obtain⟨q,p,i,k,l⟩:=oR fI;obtain⟨z,n,e,A,h⟩:=hs;simp only[rJ]at e;obtain⟨rfl,rfl,rfl⟩:=e;have f:bs.length+cs.length<=oQ:=by unfold oQ;omega
 have key:∀d:pJ,(∀j u,(VH cs)[j]?=T u->w.cell? (d.add j)=T u)->∃v' w',(Builtin.append_ #[25,25] ty #[v,tP (T d) cs.length cap]).run tI w=.ok v' w'∧Q7 base w' v' (bs++cs)∧tB w w' v.ownBlock:=by intro d c;obtain⟨v',w',x,t,r,_⟩:=run_append_own (P:=tI) w base 25 ty 5 q (tR rN 0) 1 1 sR p i k l rfl (by decide) v bs.length (VH bs) hown d cs.length cap (VH cs) (by simp[VH]) c (j8 cs) f (by omega) hbase;refine⟨v',w',x,?_,r⟩;unfold Q7;rw[MO,tF];exact t
 rcases h with⟨rfl,y⟩|⟨b,o,rfl,h⟩;·cases a with|none=>obtain rfl:=y rfl;refine⟨v,w,run_append_owned_none (P:=tI) (w:=w) base 25 ty 5 q 1 sR p v bs.length (VH bs) hown,?_,Qb _ _⟩;rw[sA];exact hown|some d=>exact key d (by simp[VH])
 ·refine key ⟨b,o,V⟩ fun j u s=>?_;obtain⟨g,rfl⟩:=CE cs j u s;rw[Z6];exact h j g
theorem QI{w:tA}{ops:Array Oper}{rest:List Oper}{o:Oper}{a:Act}{Q:Exit->Act->tA->Prop}(hgd:o.guard=V)(s x:Operand)(ho:o.op=.call {callee:=.builtin .append,args:=#[s,x],argTypes:=#[25,25]})(base:Nat)(v:tE)(bs:List UInt8)(hs:a.eval s=v)(hown:Q7 base w v bs)(xa:Option pJ)(m cap:Nat)(cs:List UInt8)(hx:a.eval x=tP xa m cap)(hsl:Qe w (tP xa m cap) cs)(hbytes:bs.length+m<=140737488355328)(hbase:base<=w.heap.size)(h:∀v' w',Q7 base w' v' (bs++cs)->tB w w' v.ownBlock->wpList tI ops Q rest (a.put o.dst v') w'):wpList tI ops Q (o::rest) a w:=by
 refine wpList_plain hgd fun K d=>?_;obtain⟨v',w',b,c,e⟩:=N6 w base o.type v bs hown xa m cap cs hsl hbytes hbase;unfold Oper.wp;simp[execOp,ho,resolve,invoke,builtin,hs,hx,b,Result.andThen];exact d _ _ (h v' w' c e)
theorem Qe.take{w:tA}{a:Option pJ}{m cap:Nat}{bs:List UInt8}(h:Qe w (tP a m cap) bs)(k:Nat)(hk:k<=m):Qe w (tP a k cap) (bs.take k):=by
 obtain⟨j,c,e,l,h⟩:=h;simp only[rJ]at e;obtain⟨rfl,rfl,rfl⟩:=e;have f:(bs.take k).length=k:=by simp;omega
 refine⟨a,cap,by rw[f],by omega,?_⟩;rcases h with⟨rfl,g⟩|⟨b,o,rfl,h⟩;·exact .inl ⟨by simp,g⟩
 ·refine .inr ⟨b,o,rfl,fun i d=>?_⟩;rw[h i (by omega)];rw[f]at d;simp[d]
theorem Hy(bs:List UInt8)(s:ByteArray):((bs.map fun c=>((c.toNat:Nat):Int)).foldl (fun r n=>r.push (tK n.toNat)) s)=⟨s.data++bs.toArray⟩:=by
 induction bs generalizing s with|nil=>simp|cons c bs ih=>simp only[oK,List.foldl_cons];rw[ih];congr 1;simp[ByteArray.push]
def kP(bs:List UInt8):ByteArray:=⟨bs.toArray⟩
theorem PR(bs:List UInt8):(kP bs).toList=bs:=by
 rw[Lib.toList_data];rfl
theorem Tf(W:tA)(v:tE)(bs:List UInt8)(hs:Qe W v bs):(convert 25 9 v).run tI W=.ok (.string (kP bs)) W:=by
 obtain⟨a,cap,rfl,k,h⟩:=hs;rw[run_convert_bytes_string W 25 9 5 a bs.length cap sR Tryz.underlying5 Tryz.underlying9];have key:∀e:pJ,(∀j u,(VH bs)[j]?=T u->W.cell? (e.add j)=T u)->(Conv.bytesToString (tP (T e) bs.length cap)).run tI W=.ok (.string (kP bs)) W:=by intro e d;have g:=run_loadCells_list (P:=tI) W e (VH bs) d;rw[O1]at g;have:=run_bytesToString (P:=tI) W e bs.length cap (bs.map fun c=>((c.toNat:Nat):Int)) (by rw[g];simp[VH]);rw[this,Hy];simp[kP]
 rcases h with⟨rfl,l⟩|⟨b,o,rfl,h⟩;·cases a with|none=>simp[Conv.bytesToString,kP];rfl|some e=>exact key e (by simp[VH])
 ·refine key ⟨b,o,V⟩ fun j u i=>?_;obtain⟨f,rfl⟩:=CE bs j u i;rw[Z6];exact h j f
theorem ZJ.slice32{w:tA}{b:Nat}{bs:List UInt8}(h:ZJ w b bs)(hl:bs.length=32):Qe w (tP (T ⟨b,0,V⟩) 32 32) bs:=by
 have:=h.slice 32 (by omega);rw[hl]at this;exact this
theorem UO(w:tA)(x:UInt8)(t:rD):Qe (w.alloc (tQ #[tR rN (x.toNat:Int)] t)) (tP (T ⟨w.heap.size,0,V⟩) 1 1) [x]:=(ZJ.new w t [x]).slice 1 (by
 simp)
theorem Ng(w:tA)(x y:UInt8)(t:rD):Qe (w.alloc (tQ #[tR rN (x.toNat:Int),tR rN (y.toNat:Int)] t)) (tP (T ⟨w.heap.size,0,V⟩) 2 2) [x,y]:=(ZJ.new w t [x,y]).slice 2 (by
 simp)
theorem Ks{base base':Nat}{w:tA}{v:tE}{bs:List UInt8}(h:Q7 base w v bs)(hb:base'<=base):Q7 base' w v bs:=by
 refine⟨h.1,?_⟩;rcases h.2with b|⟨g,cap,a,c,b,d⟩;·exact .inl b
 ·exact .inr ⟨g,cap,a,c,rK hb b,d⟩
end
structure Ac where
  kind : Int
  sess : Int
  keep : Int
  data : List UInt8
def UR:Ac:=⟨0,0,0,[]⟩
def Y0(a:Ac):Int:=if 1<=a.kind∧a.kind<=4then(if(a.kind=1∧¬(0<=a.sess∧a.sess<=7))∨(a.kind=3∧¬(0<=a.keep∧a.keep<=200000))then 2 else if 4000<a.data.length then 1 else if(a.kind≠1∧a.sess≠0)∨(a.kind≠3∧a.keep≠0)∨(a.kind≠1∧0<a.data.length)then 4 else 0)else 5
structure XT(a:Ac):Prop where kind:1<=a.kind∧a.kind<=4sess:a.kind=1->0<=a.sess∧a.sess<=7keep:a.kind=3->0<=a.keep∧a.keep<=200000data:a.data.length<=4000noSess:a.kind≠1->a.sess=0noKeep:a.kind≠3->a.keep=0noData:a.kind≠1->a.data=[]
theorem uD(a:Ac):Y0 a=0↔XT a:=by
 unfold Y0;by_cases g:1<=a.kind∧a.kind<=4;·rw[if_pos g];by_cases c:(a.kind=1∧¬(0<=a.sess∧a.sess<=7))∨(a.kind=3∧¬(0<=a.keep∧a.keep<=200000));(·rw[if_pos c];refine⟨fun e=>(by cases e),fun h=>?_⟩;rcases c with⟨c,d⟩|⟨c,d⟩;(·exact absurd (h.sess c) d);·exact absurd (h.keep c) d);·rw[if_neg c];by_cases d:4000<a.data.length;(·rw[if_pos d];exact⟨fun e=>(by cases e),fun h=>by have:=h.data;omega⟩);·rw[if_neg d];by_cases b:(a.kind≠1∧a.sess≠0)∨(a.kind≠3∧a.keep≠0)∨(a.kind≠1∧0<a.data.length);(·rw[if_pos b];refine⟨fun e=>(by cases e),fun h=>?_⟩;rcases b with⟨b,f⟩|⟨b,f⟩|⟨b,f⟩;(·exact absurd (h.noSess b) f);(·exact absurd (h.noKeep b) f);·rw[h.noData b]at f;simp at f);·rw[if_neg b];refine⟨fun _=>⟨g,fun h=>?_,fun h=>?_,by omega,fun h=>?_,fun h=>?_,fun h=>?_⟩,fun _=>rfl⟩;(·exact sU fun e=>c (.inl ⟨h,e⟩));(·exact sU fun e=>c (.inr ⟨h,e⟩));(·exact sU fun e=>b (.inl ⟨h,e⟩));(·exact sU fun e=>b (.inr (.inl ⟨h,e⟩)));·refine tG ?_;have:¬0<a.data.length:=fun e=>b (.inr (.inr ⟨h,e⟩));omega
 ·rw[if_neg g];exact⟨fun e=>(by cases e),fun h=>absurd h.kind g⟩
def iS(n:Nat):UInt8:=tK (48+n)
def f7(n:Nat):List UInt8:=if n<10then[iS n]else f7 (n/10)++[iS (n%10)]termination_by n decreasing_by
 omega
def iL(n:Nat):UInt8:=if n<10then tK (48+n)else tK (87+n)
def i8(bs:List UInt8):List UInt8:=bs.flatMap fun c=>[iL (c.toNat/16),iL (c.toNat%16)]
def lA:List UInt8:=[97,115,107]
def g8:List UInt8:=[115,121,110,99]
def gH:List UInt8:=[99,114,97,115,104]
def fP:List UInt8:=[115,116,97,114,116]
def iZ(a:Ac):List UInt8:=if a.kind=1then lA++32::(f7 a.sess.toNat++32::i8 a.data)else if a.kind=2then g8 else if a.kind=3then gH++32::f7 a.keep.toNat else if a.kind=4then fP else[]
theorem Zt(w:tA)(o:Obj):∃W:tA,Hid (W=w.alloc o)∧tB w W V∧Hid (W.heap[w.heap.size]?=T o):=⟨w.alloc o,rfl,rX _ _ _,rS w o⟩
theorem Qe.shape{w:tA}{v:tE}{bs:List UInt8}(h:Qe w v bs):∃a cap,v=tP a bs.length cap:=by
 obtain⟨a,cap,rfl,_⟩:=h;exact⟨a,cap,rfl⟩
theorem QP{W w:tA}{b:Nat}{x y:tE}{t:rD}(hg:tB W w V)(h:W.heap[b]?=T (tQ #[x,y] t)):w.cell? ⟨b,0,V⟩=T x∧w.cell? ⟨b,1,V⟩=T y∧w.frozen? ⟨b,0,V⟩=tH∧w.frozen? ⟨b,1,V⟩=tH:=by
 have a:w.heap[b]?=T (tQ #[x,y] t):=by rw[hg.block b (tS.1 h).1 (by simp)];exact h
 refine⟨by simp[sE,a],by simp[sE,a],by simp[rC,a],by simp[rC,a]⟩
theorem xB{W w:tA}{b:Nat}{x y:tE}{t:rD}(hg:tB W w V)(h:W.heap[b]?=T (tQ #[x,y] t)){G:Prop}(k:w.heap[b]?=T (tQ #[x,y] t)->w.cell? ⟨b,0,V⟩=T x->w.cell? ⟨b,1,V⟩=T y->w.frozen? ⟨b,0,V⟩=tH->w.frozen? ⟨b,1,V⟩=tH->G):G:=by
 obtain⟨a,c,d,e⟩:=QP hg h;exact k (by rw[hg.block b (tS.1 h).1 (by simp)];exact h) a c d e
theorem Qd{W w:tA}{b:Nat}{o:Obj}(hg:tB W w V)(h:W.heap[b]?=T o):w.heap[b]?=T o:=by
 rw[hg.block b (tS.1 h).1 (by simp)];exact h
def Qg(base:Nat)(w:tA)(v:tE)(bs:List UInt8):Prop:=Qe w v bs∧(bs=[]∨∃b,v.ownBlock=T b∧b<w.heap.size∧(b<base∨∃cur fz,w.heap[b]?=T (tQ cur 5 fz)))
theorem Qg.slice{base:Nat}{w:tA}{v:tE}{bs:List UInt8}(h:Qg base w v bs):Qe w v bs:=h.1
theorem Q7.part{base base':Nat}{w:tA}{v:tE}{bs:List UInt8}(h:Q7 base' w v bs):Qg base w v bs:=by
 refine⟨h.slice,?_⟩;rcases h.2with⟨rfl,c⟩|⟨g,cap,a,rfl,d,b,_⟩;·exact .inl (tG c)
 ·exact .inr ⟨g,rfl,(tS.1 b).1,.inr ⟨a,_,b⟩⟩
theorem VC{w:tA}{b o:Nat}{v:tE}(h:w.cell? ⟨b,o,V⟩=T v):b<w.heap.size:=by
 by_cases a:b<w.heap.size;·exact a
 ·simp[sE,Array.getElem?_eq_none (Nat.le_of_not_lt a)]at h
theorem Qe.part{w w':tA}{v:tE}{bs:List UInt8}(h:Qe w v bs)(hg:tB w w' V)(base:Nat)(hb:w.heap.size<=base):Qg base w' v bs:=by
 refine⟨h.grown hg,?_⟩;obtain⟨a,cap,rfl,e,h⟩:=h;rcases h with⟨rfl,_⟩|⟨b,o,rfl,h⟩;·exact .inl rfl
 ·by_cases c:bs=[];(·exact .inl c);·have d:0<bs.length:=List.length_pos_iff.2 c;have:=VC (h 0 d);exact .inr ⟨b,rfl,tX this hg.size,.inl (by omega)⟩
theorem Qg.mono{base base':Nat}{w:tA}{v:tE}{bs:List UInt8}(h:Qg base w v bs)(hb:base<=base'):Qg base' w v bs:=by
 refine⟨h.1,?_⟩;rcases h.2with h|⟨b,c,d,a⟩;·exact .inl h
 ·refine .inr ⟨b,c,d,?_⟩;rcases a with a|a;(·exact .inl (by omega));·exact .inr a
theorem ZH{base:Nat}{w:tA}{v:tE}{bs:List UInt8}(h:Qg base w v bs):v.oneCell'=tD:=by
 obtain⟨⟨a,cap,rfl,_⟩,_⟩:=h;rfl
theorem Qg.keptT{base:Nat}{w w':tA}{v:tE}{bs:List UInt8}(h:Qg base w v bs){row:Option Nat}(hg:tB w w' row)(hrow:row=V∨∃g cur t fz,row=T g∧base<=g∧w.heap[g]?=T (tQ cur t fz)∧t≠5):Qg base w' v bs:=by
 obtain⟨q,x⟩:=h;rcases x with rfl|⟨b,l,j,c⟩;·obtain⟨a,cap,rfl,c,h⟩:=q;refine⟨⟨a,cap,rfl,c,?_⟩,.inl rfl⟩;rcases h with h|⟨b,o,rfl,h⟩;(·exact .inl h);·exact .inr ⟨b,o,rfl,fun i n=>by simp at n⟩
 ·(have k:T b≠row:=by intro e;rcases hrow with rfl|⟨g,cur,t,fz,rfl,u,d,y⟩;(·cases e);·cases e;rcases c with c|⟨p,s,c⟩;(·omega);·rw[c]at d;simp only[tV,Obj.cells.injEq]at d;exact y d.2.1.symm);have f:=hg.block b j k;refine⟨?_,.inr ⟨b,l,tX j hg.size,?_⟩⟩;(·obtain⟨a,cap,rfl,m,h⟩:=q;refine⟨a,cap,rfl,m,?_⟩;rcases h with h|⟨r,o,rfl,h⟩;(·exact .inl h);·refine .inr ⟨r,o,rfl,fun i n=>?_⟩;simp[oH]at l;subst l;exact hg.cell (h i n) (by simpa using k));·rcases c with c|⟨cur,fz,c⟩;(·exact .inl c);·exact .inr ⟨cur,fz,by rw[f];exact c⟩
def ZQ(k:List UInt8)(i:Nat):Bool:=if i/9<k.length then(if i%9=0then tD else(k.getD (i/9) 0).toNat.testBit (8-i%9))else tH
theorem K6(k:List UInt8)(p:Nat):ZQ k (9*p)=tN (p<k.length):=by
 unfold ZQ;rw[show 9*p/9=p by omega,show 9*p%9=0 by omega];by_cases h:p<k.length<;>simp[h]
theorem K7(k:List UInt8)(p r:Nat)(hp:p<k.length)(hr:1<=r)(hr8:r<=8):ZQ k (9*p+r)=(k.getD p 0).toNat.testBit (8-r):=by
 unfold ZQ;rw[show(9*p+r)/9=p by omega,show(9*p+r)%9=r by omega,if_pos hp,if_neg (by omega)]
theorem E6(k:List UInt8)(i:Nat)(h:k.length<=i/9):ZQ k i=tH:=by
 unfold ZQ;rw[if_neg (by omega)]
theorem Ck(x y:UInt8)(h:∀j,j<8->x.toNat.testBit j=y.toNat.testBit j):x=y:=by
 apply oE.1;apply pV;intro j;by_cases a:j<8;·exact h j a
 ·rw[rB (tX x.toNat_lt (rI (by decide) (by omega:8<=j))),rB (tX y.toNat_lt (rI (by decide) (by omega:8<=j)))]
theorem WQ(a b:List UInt8)(ha:a.length<=16)(hb:b.length<=16)(h:∀i,i<145->ZQ a i=ZQ b i):a=b:=by
 have f:a.length=b.length:=by have c:=h (9*a.length) (by omega);have d:=h (9*b.length) (by omega);rw[K6,K6]at c d;simp at c d;omega
 apply List.ext_getElem f;intro p c d;have e:a.getD p 0=b.getD p 0:=by apply Ck;intro j g;have:=h (9*p+(8-j)) (by omega);rw[K7 a p _ c (by omega) (by omega),K7 b p _ d (by omega) (by omega),show 8-(8-j)=j by omega]at this;exact this
 simpa[c,d]using e
def yD(a b:List UInt8):Nat->Nat->Int|0,_=>-1|n+1,i=>if ZQ a i=ZQ b i then yD a b n (i+1)else(i:Int)
def JE(a b:List UInt8):Int:=yD a b 145 0
theorem RU(a b:List UInt8)(n i:Nat):(yD a b n i=-1∧∀j,i<=j->j<i+n->ZQ a j=ZQ b j)∨∃m:Nat,yD a b n i=(m:Int)∧i<=m∧m<i+n∧(∀j,i<=j->j<m->ZQ a j=ZQ b j)∧ZQ a m≠ZQ b m:=by
 induction n generalizing i with|zero=>exact .inl ⟨rfl,fun j _ h=>by omega⟩|succ n ih=>unfold yD;by_cases d:ZQ a i=ZQ b i;(·rw[if_pos d];rcases ih (i+1)with⟨f,g⟩|⟨m,f,g,p,k,l⟩;(·refine .inl ⟨f,fun j o e=>?_⟩;by_cases c:j=i;(·subst c;exact d);·exact g j (by omega) (by omega));·refine .inr ⟨m,f,by omega,by omega,fun j o e=>?_,l⟩;by_cases c:j=i;(·subst c;exact d);·exact k j (by omega) e);·rw[if_neg d];exact .inr ⟨i,rfl,sF _,by omega,fun j f g=>by omega,d⟩
theorem JM(a b:List UInt8):(JE a b=-1∧∀j,j<145->ZQ a j=ZQ b j)∨∃m:Nat,JE a b=(m:Int)∧m<145∧(∀j,j<m->ZQ a j=ZQ b j)∧ZQ a m≠ZQ b m:=by
 rcases RU a b 145 0with⟨c,e⟩|⟨m,c,_,h,f,g⟩;·exact .inl ⟨c,fun j d=>e j (by omega) (by omega)⟩
 ·exact .inr ⟨m,c,by omega,fun j d=>f j (by omega) d,g⟩
theorem Dk(a b:List UInt8)(m:Nat)(hm:m<145)(h:∀j,j<m->ZQ a j=ZQ b j)(hd:ZQ a m≠ZQ b m):JE a b=(m:Int):=by
 rcases JM a b with⟨_,f⟩|⟨e,g,f,i,k⟩;·exact absurd (f m hm) hd
 ·by_cases d:e<m;(·exact absurd (h e d) k);·by_cases c:m<e;(·exact absurd (i m c) hd);·rw[g];omega
theorem Tu(a b:List UInt8)(h:∀j,j<145->ZQ a j=ZQ b j):JE a b=-1:=by
 rcases JM a b with⟨c,_⟩|⟨f,_,d,_,e⟩;·exact c
 ·exact absurd (h f d) e
theorem PY(a b:List UInt8):-1<=JE a b∧JE a b<=144:=by
 rcases JM a b with⟨h,_⟩|⟨m,h,c,_⟩<;>omega
theorem BS(a b:List UInt8)(ha:a.length<=16)(hb:b.length<=16):JE a b<0↔a=b:=by
 constructor;·intro h;rcases JM a b with⟨_,c⟩|⟨m,d,_⟩;(·exact WQ a b ha hb c);·omega
 ·rintro rfl;rw[Tu a a fun _ _=>rfl];decide
theorem Pn(x y:UInt8)(a b:List UInt8):sM (x::a) (y::b)=(tN (x<y)||(x==y&&sM a b)):=by
 simp[sM]
theorem Nk:∀(p:Nat)(a b:List UInt8),(∀i,i<p->i<a.length∧i<b.length∧a.getD i 0=b.getD i 0)->sM a b=sM (a.drop p) (b.drop p)|0,a,b,_=>by simp|p+1,[],b,h=>by have:=(h 0 (by omega)).1;simp at this|p+1,x::a,[],h=>by have:=(h 0 (by omega)).2.1;simp at this|p+1,x::a,y::b,h=>by have c:=(h 0 (by omega)).2.2;simp at c;subst c;rw[Pn,pW,pW,<-Nk p a b fun i d=>by have:=h (i+1) (by omega);simp at this;simpa using this];simp
theorem DR(a:List UInt8):sM a []=tH:=by
 cases a<;>rfl
theorem PJ(a:List UInt8)(p:Nat)(h:p<a.length):a.drop p=a.getD p 0::a.drop (p+1):=by
 rw[sI h];simp[h]
theorem Ex(x y j:Nat)(hx:x.testBit j=tH)(hy:y.testBit j=tD)(h:∀i,j<i->x.testBit i=y.testBit i):x<y:=by
 have a:x/2^(j+1)=y/2^(j+1):=by apply pV;intro i;rw[pN,pN];exact h _ (by omega)
 rw[Nat.testBit_eq_decide_div_mod_eq]at hx hy;simp at hx hy;rw[Nat.pow_succ,<-pS,<-pS]at a;exact Nat.lt_of_div_lt_div (c:=2^j) (by omega)
theorem It(x y:UInt8)(j:Nat)(hd:x.toNat.testBit j≠y.toNat.testBit j)(h:∀i,j<i->x.toNat.testBit i=y.toNat.testBit i):(tN (x<y)||(x==y&&tH))=y.toNat.testBit j:=by
 cases hy:y.toNat.testBit j with|true=>(have a:x.toNat.testBit j=tH:=by cases a:x.toNat.testBit j with|true=>exact absurd (a.trans hy.symm) hd|false=>rfl);have:=Ex _ _ j a hy h;simp[sQ,this]|false=>(have a:x.toNat.testBit j=tD:=by cases a:x.toNat.testBit j with|true=>rfl|false=>exact absurd (a.trans hy.symm) hd);have:=Ex _ _ j hy a (fun i b=>(h i b).symm);simp[sQ];omega
theorem F7(a b:List UInt8)(m:Nat)(h:∀j,j<m->ZQ a j=ZQ b j)(hd:ZQ a m≠ZQ b m):ZQ b m=sM a b:=by
 have q:m/9<a.length∨m/9<b.length:=by by_cases r:m/9<a.length;(·exact .inl r);·by_cases s:m/9<b.length;(·exact .inr s);·rw[E6 a m (by omega),E6 b m (by omega)]at hd;exact absurd rfl hd
 have n:∀i,i<m/9->i<a.length∧i<b.length∧a.getD i 0=b.getD i 0:=by intro i t;have k:=h (9*i) (by omega);rw[K6,K6]at k;(have c:i<a.length∧i<b.length:=by simp at k;omega);refine⟨c.1,c.2,Ck _ _ fun j v=>?_⟩;have:=h (9*i+(8-j)) (by omega);rw[K7 a i _ c.1 (by omega) (by omega),K7 b i _ c.2 (by omega) (by omega),show 8-(8-j)=j by omega]at this;exact this
 rw[Nk (m/9) a b n];by_cases w:m%9=0;·(have o:m=9*(m/9):=by omega);have g:=K6 a (m/9);have f:=K6 b (m/9);rw[<-o]at g f;by_cases d:m/9<b.length;(·have l:¬m/9<a.length:=fun l=>hd (by rw[g,f];simp[l,d]);rw[f,sB (by omega),PJ b _ d];simp[d,sM]);·rw[f,sB (show b.length<=m/9by omega),DR];simp[d]
 ·have k:=h (9*(m/9)) (by omega);rw[K6,K6]at k;(have c:m/9<a.length∧m/9<b.length:=by simp at k;omega);(have o:m=9*(m/9)+m%9:=by omega);have g:=K7 a (m/9) (m%9) c.1 (by omega) (by omega);have f:=K7 b (m/9) (m%9) c.2 (by omega) (by omega);rw[<-o]at g f;rw[PJ a _ c.1,PJ b _ c.2,Pn,f];rw[g,f]at hd;(have p:(a.getD (m/9) 0==b.getD (m/9) 0)=tH:=by rw[beq_eq_false_iff_ne];intro e;rw[e]at hd;exact hd rfl);rw[p,Bool.false_and];have:=It (a.getD (m/9) 0) (b.getD (m/9) 0) (8-m%9) hd (fun i t=>by by_cases u:i<8;(·have:=h (9*(m/9)+(8-i)) (by omega);rw[K7 a _ _ c.1 (by omega) (by omega),K7 b _ _ c.2 (by omega) (by omega),show 8-(8-i)=i by omega]at this;exact this);·rw[rB (tX (a.getD (m/9) 0).toNat_lt (rI (by decide) (by omega:8<=i))),rB (tX (b.getD (m/9) 0).toNat_lt (rI (by decide) (by omega:8<=i)))]);rw[Bool.and_false]at this;exact this.symm
def Qn(n:Nat):Int:=if 1<=n∧n<=16then 0 else 1
def BP(k:List UInt8)(i:Int):Bool×Int:=if 1<=k.length∧k.length<=16then(if 0<=i∧i<=144then(ZQ k i.toNat,0)else(tH,2))else(tH,1)
def FY(a b:List UInt8):Int×Int:=if 1<=a.length∧a.length<=16then(if 1<=b.length∧b.length<=16then(JE a b,0)else(0,1))else(0,1)
theorem cT(k:List UInt8)(i:Nat)(hk:1<=k.length∧k.length<=16)(hi:i<145):BP k (i:Int)=(ZQ k i,0):=by
 rw[BP,if_pos hk,if_pos (by omega)];rfl
theorem OK(a b:List UInt8)(ha:1<=a.length∧a.length<=16)(hb:1<=b.length∧b.length<=16):FY a b=(JE a b,0):=by
 rw[FY,if_pos ha,if_pos hb]
structure Q8 where
  name : List UInt8
  key : List UInt8
  value : List UInt8
  gone : Bool
def YQ(p:Q8):Prop:=p.name.length<=140737488355328∧p.key.length<=140737488355328∧p.value.length<=140737488355328
def Qo:Q8:=⟨[],[],[],tH⟩
theorem Qi{W w:tA}{b:Nat}{x y z u:tE}{t:rD}(hg:tB W w V)(h:W.heap[b]?=T (tQ #[x,y,z,u] t)):(w.cell? ⟨b,0,V⟩=T x∧w.cell? ⟨b,1,V⟩=T y∧w.cell? ⟨b,2,V⟩=T z∧w.cell? ⟨b,3,V⟩=T u)∧w.frozen? ⟨b,0,V⟩=tH∧w.frozen? ⟨b,1,V⟩=tH∧w.frozen? ⟨b,2,V⟩=tH∧w.frozen? ⟨b,3,V⟩=tH∧w.heap[b]?=T (tQ #[x,y,z,u] t):=by
 have a:w.heap[b]?=T (tQ #[x,y,z,u] t):=by rw[hg.block b (tS.1 h).1 (by simp)];exact h
 refine⟨⟨?_,?_,?_,?_⟩,?_,?_,?_,?_,a⟩;all_goals simp[sE,rC,a]
theorem Jo{w:tA}{b:Nat}{x y z u:tE}{t:rD}(h:w.heap[b]?=T (tQ #[x,y,z,u] t))(x' y' z' u':tE):((((tM w ⟨b,0,V⟩ x').setCell ⟨b,1,V⟩ y').setCell ⟨b,2,V⟩ z').setCell ⟨b,3,V⟩ u').heap[b]?=T (tQ #[x',y',z',u'] t)∧(tM w ⟨b,0,V⟩ x').cell? ⟨b,0,V⟩=T x'∧((tM w ⟨b,0,V⟩ x').setCell ⟨b,1,V⟩ y').cell? ⟨b,1,V⟩=T y'∧(((tM w ⟨b,0,V⟩ x').setCell ⟨b,1,V⟩ y').setCell ⟨b,2,V⟩ z').cell? ⟨b,2,V⟩=T z'∧((((tM w ⟨b,0,V⟩ x').setCell ⟨b,1,V⟩ y').setCell ⟨b,2,V⟩ z').setCell ⟨b,3,V⟩ u').cell? ⟨b,3,V⟩=T u':=by
 have a:(tM w ⟨b,0,V⟩ x').heap[b]?=T (tQ #[x',y,z,u] t):=by simp only[tM,tW,if_true,h,sV];first|rfl|simp
 have c:((tM w ⟨b,0,V⟩ x').setCell ⟨b,1,V⟩ y').heap[b]?=T (tQ #[x',y',z,u] t):=by rw[tM,tW,if_pos rfl,a];first|rfl|simp
 have d:(((tM w ⟨b,0,V⟩ x').setCell ⟨b,1,V⟩ y').setCell ⟨b,2,V⟩ z').heap[b]?=T (tQ #[x',y',z',u] t):=by rw[tM,tW,if_pos rfl,c];first|rfl|simp
 have e:((((tM w ⟨b,0,V⟩ x').setCell ⟨b,1,V⟩ y').setCell ⟨b,2,V⟩ z').setCell ⟨b,3,V⟩ u').heap[b]?=T (tQ #[x',y',z',u'] t):=by rw[tM,tW,if_pos rfl,d];first|rfl|simp
 exact⟨e,by simp[sE,a],by simp[sE,c],by simp[sE,d],by simp[sE,e]⟩
theorem Q7.setBlk{base:Nat}{w:tA}{v:tE}{bs:List UInt8}(h:Q7 base w v bs){b:Nat}{cur:Array tE}{t:rD}{fz:Nat×Nat}(hb:w.heap[b]?=T (tQ cur t fz))(ht:t≠5)(i:Nat)(u:tE):Q7 base (tM w ⟨b,i,V⟩ u) v bs:=by
 refine h.grown (row:=T b) (Qf (Qb _ _) i u) ?_;rcases h.2with⟨rfl,_⟩|⟨g,cap,a,rfl,_,c,_⟩;·exact .inl rfl
 ·right;intro e;simp[oH]at e;subst e;rw[c]at hb;simp at hb;exact ht hb.2.1.symm
theorem Jm{w w1:tA}(h:tB w w1 V)(b:Nat)(hb:w.heap.size<=b)(x y z u:tE):tB w ((((tM w1 ⟨b,0,V⟩ x).setCell ⟨b,1,V⟩ y).setCell ⟨b,2,V⟩ z).setCell ⟨b,3,V⟩ u) V:=Qc (Qc (Qc (Qc h _ hb _ _) _ hb _ _) _ hb _ _) _ hb _ _
abbrev Pr:=List UInt8×List UInt8
abbrev PL:=List Pr
abbrev YE(a b:List UInt8):Bool:=sM a b
theorem FN(a:List UInt8):YE a []=tH:=DR a
theorem vP(x y:UInt8)(a b:List UInt8):YE (x::a) (y::b)=(tN (x<y)||(x==y&&YE a b)):=Pn x y a b
theorem X8:∀a:List UInt8,YE a a=tH|[]=>rfl|x::a=>by rw[vP,X8 a];simp
theorem J8:∀a b c:List UInt8,YE a b=tD->YE b c=tD->YE a c=tD|_,[],_,h,_=>by rw[FN]at h;cases h|_,_::_,[],_,h=>by rw[FN]at h;cases h|[],_::_,_::_,_,_=>rfl|x::a,y::b,z::c,e,d=>by rw[vP]at e d⊢;simp only[oI,decide_eq_true_eq,oF,beq_iff_eq,sQ]at e d⊢;rcases e with e|⟨rfl,e⟩;(·rcases d with d|⟨rfl,d⟩;(·left;omega);·left;exact e);·rcases d with d|⟨rfl,d⟩;(·left;exact d);·right;exact⟨rfl,J8 a b c e d⟩
theorem UH:∀a b:List UInt8,YE a b=tH->a≠b->YE b a=tD|[],[],_,h=>absurd rfl h|[],_::_,h,_=>by cases h|_::_,[],_,_=>rfl|x::a,y::b,h1,h2=>by rw[vP]at h1⊢;simp only[rW,decide_eq_false_iff_not,Bool.and_eq_false_iff,beq_eq_false_iff_ne,sQ]at h1;simp only[oI,decide_eq_true_eq,oF,beq_iff_eq,sQ];by_cases e:y=x;(·subst e;right;refine⟨rfl,UH a b ?_ (fun e=>h2 (by rw[e]))⟩;rcases h1.2with h|h;(·exact absurd rfl h);·exact h);·left;have:x.toNat≠y.toNat:=fun h=>e (oE.1 h.symm);omega
theorem L7(a b:List UInt8)(h:YE a b=tD):YE b a=tH:=by
 cases hb:YE b a with|false=>rfl|true=>have:=J8 a b a h hb;rw[X8]at this;cases this
theorem C1{a b:List UInt8}(h:YE a b=tD):a≠b:=by
 rintro rfl;rw[X8]at h;cases h
def QT(p:Pr):Int:=if 32<p.2.length then 1 else Qn p.1.length
def XG(l:PL)(i:Nat):Int:=if QT (l.getD i ([],[]))=0then(if 0<i∧YE (l.getD (i-1) ([],[])).1 (l.getD i ([],[])).1=tH then 3 else 0)else QT (l.getD i ([],[]))
def J5(l:PL):Nat->Nat->Int|0,_=>0|n+1,i=>if XG l i=0then J5 l n (i+1)else XG l i
def Qz(l:PL):Int:=if 60<l.length then 1 else J5 l l.length 0
theorem zS(l:PL)(n i:Nat)(hi:i<=n)(h:∀j,j<i->XG l j=0):J5 l n 0=J5 l (n-i) i:=by
 induction i with|zero=>rfl|succ i ih=>rw[ih (by omega) (fun j a=>h j (by omega)),show n-i=(n-(i+1))+1by omega,J5,if_pos (h i (by omega))]
theorem jY(l:PL)(i:Nat)(hi:i<l.length)(hl:l.length<=60)(h:∀j,j<i->XG l j=0)(hf:XG l i≠0):Qz l=XG l i:=by
 rw[Qz,if_neg (by omega),zS l _ i (by omega) h,show l.length-i=(l.length-(i+1))+1by omega,J5,if_neg hf]
theorem zR(l:PL)(hl:l.length<=60)(h:∀j,j<l.length->XG l j=0):Qz l=0:=by
 rw[Qz,if_neg (by omega),zS l _ l.length (sF _) h,oM,J5]
theorem zN(l:PL)(hl:60<l.length):Qz l=1:=by
 rw[Qz,if_pos hl]
theorem xP(l:PL):∀(n i:Nat),J5 l n i=0->∀j,i<=j->j<i+n->XG l j=0|0,i,_,j,h1,h2=>by omega|n+1,i,h,j,h1,h2=>by rw[J5]at h;by_cases e:XG l i=0;(·rw[if_pos e]at h;by_cases a:j=i;(·subst a;exact e);·exact xP l n (i+1) h j (by omega) (by omega));·rw[if_neg e]at h;exact absurd h e
def K5(l:PL):Prop:=l.Pairwise fun p q=>YE p.1 q.1=tD
structure Zy(l:PL):Prop where room:l.length<=60pairs:∀p∈l,(1<=p.1.length∧p.1.length<=16)∧p.2.length<=32rises:K5 l
theorem Jv(p:Pr):QT p=0↔(1<=p.1.length∧p.1.length<=16)∧p.2.length<=32:=by
 unfold QT Qn;by_cases h:32<p.2.length;·rw[if_pos h];constructor;(·intro h;cases h);·intro h;omega
 ·rw[if_neg h];by_cases a:1<=p.1.length∧p.1.length<=16;(·rw[if_pos a];exact⟨fun _=>⟨a,by omega⟩,fun _=>rfl⟩);·rw[if_neg a];constructor;(·intro h;cases h);·intro h;exact absurd h.1 a
theorem Fb(l:PL)(i:Nat):XG l i=0↔QT (l.getD i ([],[]))=0∧(0<i->YE (l.getD (i-1) ([],[])).1 (l.getD i ([],[])).1=tD):=by
 unfold XG;by_cases h:QT (l.getD i ([],[]))=0;·rw[if_pos h];by_cases a:0<i∧YE (l.getD (i-1) ([],[])).1 (l.getD i ([],[])).1=tH;(·rw[if_pos a];constructor;(·intro h;cases h);·intro b;have:=b.2 a.1;rw[a.2]at this;cases this);·rw[if_neg a];refine⟨fun _=>⟨h,fun c=>?_⟩,fun _=>rfl⟩;cases hk:YE (l.getD (i-1) ([],[])).1 (l.getD i ([],[])).1with|true=>rfl|false=>exact absurd ⟨c,hk⟩ a
 ·rw[if_neg h];constructor;(·intro a;exact absurd a h);·intro a;exact absurd a.1 h
theorem xJ:∀l:PL,(∀i,0<i->i<l.length->YE (l.getD (i-1) ([],[])).1 (l.getD i ([],[])).1=tD)->K5 l|[],_=>rG|[_],_=>sX _ _|p::q::r,h=>by(have c:K5 (q::r):=xJ (q::r) fun i e d=>by have:=h (i+1) (by omega) (by simp at d⊢;omega);rw[show i+1-1=(i-1)+1by omega]at this;simpa using this);(have a:YE p.1 q.1=tD:=by have:=h 1 (by omega) (by simp);simpa using this);refine tZ (fun x b=>?_) c;rcases tY.1 b with rfl|b;(·exact a);·exact J8 _ _ _ a ((sN.1 c).1 x b)
theorem UN(l:PL)(h:K5 l)(i j:Nat)(hij:i<j)(hj:j<l.length):YE (l.getD i ([],[])).1 (l.getD j ([],[])).1=tD:=by
 have:=pI.1 h i j (by omega) hj hij;simpa[hj,show i<l.length by omega]using this
theorem YP(l:PL):Qz l=0↔Zy l:=by
 constructor;·intro h;(have c:l.length<=60:=by by_cases c:60<l.length;(·rw[zN l c]at h;cases h);·omega);rw[Qz,if_neg (by omega)]at h;have e:=fun j(b:j<l.length)=>(Fb l j).1 (xP l l.length 0 h j (by omega) (by omega));refine⟨c,fun p f=>?_,xJ l fun i d a=>(e i a).2 d⟩;obtain⟨i,a,rfl⟩:=tC.1 f;have:=(Jv _).1 (e i a).1;simpa[a]using this
 ·intro h;refine zR l h.room fun j b=>(Fb l j).2 ⟨(Jv _).2 ?_,fun d=>UN l h.rises _ _ (by omega) b⟩;have:=h.pairs l[j] (sK b);simpa[b]using this
theorem OS:Zy []:=⟨by
 simp,by
 simp,rG⟩
def Uy(l:PL)(k:List UInt8):Option (List UInt8):=(l.find? fun p=>p.1==k).map (·.2)
theorem Jp(p:Pr)(l:PL)(k:List UInt8):Uy (p::l) k=if p.1=k then T p.2 else Uy l k:=by
 unfold Uy;by_cases h:p.1=k;·rw[pO (by simpa using h),if_pos h];rfl
 ·rw[pP (by simpa using h),if_neg h]
theorem Oe:∀(l:PL)(k:List UInt8)(i:Nat),i<l.length->(∀j,j<i->(l.getD j ([],[])).1≠k)->(l.getD i ([],[])).1=k->Uy l k=T (l.getD i ([],[])).2|[],_,_,h,_,_=>by simp at h|p::l,k,0,_,_,h2=>by rw[Jp,if_pos (by simpa using h2)];simp|p::l,k,i+1,h,h1,h2=>by rw[Jp,if_neg (by simpa using h1 0 (by omega))];have:=Oe l k i (by simpa using h) (fun j a=>by simpa using h1 (j+1) (by omega)) (by simpa using h2);simpa using this
theorem Dl:∀(l:PL)(k:List UInt8),(∀j,j<l.length->(l.getD j ([],[])).1≠k)->Uy l k=V|[],_,_=>rfl|p::l,k,h=>by rw[Jp,if_neg (by simpa using h 0 (by simp))];exact Dl l k fun j a=>by simpa using h (j+1) (by simpa using a)
def JB:PL->Pr->PL|[],p=>[p]|q::r,p=>if YE q.1 p.1=tD then q::JB r p else if q.1=p.1then p::r else p::q::r
def zX(l:PL)(k:List UInt8):PL:=l.filter fun q=>!(q.1==k)
def Ve(l:PL)(a b:List UInt8):PL:=l.filter fun q=>!YE q.1 a&&!YE b q.1
theorem Mc(l:PL)(p x:Pr):x∈JB l p->x=p∨x∈l:=by
 induction l with|nil=>intro h;simp[JB]at h;exact .inl h|cons q r ih=>intro h;rw[JB]at h;by_cases a:YE q.1 p.1=tD;(·rw[if_pos a]at h;rcases tY.1 h with rfl|h;(·exact .inr (by simp));·rcases ih h with h|h;(·exact .inl h);·exact .inr (sD _ h));·rw[if_neg a]at h;by_cases b:q.1=p.1;(·rw[if_pos b]at h;rcases tY.1 h with h|h;(·exact .inl h);·exact .inr (sD _ h));·rw[if_neg b]at h;rcases tY.1 h with h|h;(·exact .inl h);·exact .inr h
theorem Pb(l:PL)(p:Pr)(h:K5 l):K5 (JB l p):=by
 induction l with|nil=>exact sX _ _|cons q r ih=>have c:=sN.1 h;rw[JB];by_cases d:YE q.1 p.1=tD;(·rw[if_pos d];refine tZ (fun x a=>?_) (ih c.2);rcases Mc r p x a with rfl|a;(·exact d);·exact c.1 x a);·rw[if_neg d];by_cases e:q.1=p.1;(·rw[if_pos e];exact tZ (fun x a=>by rw[<-e];exact c.1 x a) c.2);·rw[if_neg e];have b:=UH _ _ (by simpa using d) e;refine tZ (fun x a=>?_) h;rcases tY.1 a with rfl|a;(·exact b);·exact J8 _ _ _ b (c.1 x a)
theorem dZ(l:PL)(p:Pr)(k:List UInt8)(h:K5 l):Uy (JB l p) k=if p.1=k then T p.2 else Uy l k:=by
 induction l with|nil=>rw[JB,Jp]|cons q r ih=>have d:=sN.1 h;rw[JB];by_cases a:YE q.1 p.1=tD;(·rw[if_pos a,Jp,Jp,ih d.2];by_cases e:p.1=k;(·rw[if_pos e,if_pos e,if_neg (fun c=>C1 a (c.trans e.symm))]);·rw[if_neg e,if_neg e]);·rw[if_neg a];by_cases b:q.1=p.1;(·rw[if_pos b,Jp,Jp];by_cases e:p.1=k;(·rw[if_pos e,if_pos e]);·rw[if_neg e,if_neg e,if_neg (by rw[b];exact e)]);·rw[if_neg b,Jp]
theorem dF(l:PL)(k x:List UInt8):Uy (zX l k) x=if k=x then V else Uy l x:=by
 induction l with|nil=>simp[zX,Uy]|cons q r ih=>unfold zX at ih⊢;by_cases e:q.1=k;(·rw[sY (by simp[e]),ih,Jp];by_cases a:k=x;(·rw[if_pos a,if_pos a]);·rw[if_neg a,if_neg a,if_neg (by rw[e];exact a)]);·rw[pK (by simp[e]),Jp,ih,Jp];by_cases a:k=x;(·rw[if_pos a,if_pos a,if_neg (by rw[<-a];exact e)]);·rw[if_neg a,if_neg a]
theorem Nc(l:PL)(k:List UInt8)(h:K5 l):K5 (zX l k):=sZ _ h
theorem CA(l:PL)(a b:List UInt8)(h:K5 l):K5 (Ve l a b):=sZ _ h
def Xc(l:PL)(k:List UInt8):Int:=if Qz l=0then Qn k.length else Qz l
theorem jG{l:PL}{k:List UInt8}(h:Xc l k=0):Zy l:=by
 unfold Xc at h;by_cases a:Qz l=0;·exact(YP l).1 a
 ·rw[if_neg a]at h;exact absurd h a
theorem Zs(n:Nat):Qn n=0↔1<=n∧n<=16:=by
 unfold Qn;by_cases h:1<=n∧n<=16;·rw[if_pos h];exact⟨fun _=>h,fun _=>rfl⟩
 ·rw[if_neg h];constructor;(·intro a;cases a);·intro a;exact absurd a h
theorem Om{l:PL}{k:List UInt8}(h:Xc l k=0):1<=k.length∧k.length<=16:=by
 have a:=(YP l).2 (jG h);unfold Xc at h;rw[if_pos a]at h;exact(Zs _).1 h
theorem jH{l:PL}{k:List UInt8}(h:Zy l)(hk:1<=k.length∧k.length<=16):Xc l k=0:=by
 unfold Xc;rw[if_pos ((YP l).2 h)];exact(Zs _).2 hk
def Tk(l:PL)(k:List UInt8):Bool:=Xc l k==0&&(Uy l k).isSome
def TO(l:PL)(k:List UInt8):List UInt8:=if Xc l k=0then(Uy l k).getD []else[]
def zZ(l:PL)(k:List UInt8):PL:=if Xc l k=0then zX l k else[]
theorem SK(l:PL)(k:List UInt8):(zX l k).length<=l.length:=rF _ _
def Yw(l:PL)(f t:List UInt8):Int:=if Xc l f=0then Qn t.length else Xc l f
theorem Bj{l:PL}{f t:List UInt8}(h:Yw l f t=0):Xc l f=0:=by
 unfold Yw at h;by_cases a:Xc l f=0;·exact a
 ·rw[if_neg a]at h;exact absurd h a
def KH(l:PL)(f t:List UInt8):PL:=if Yw l f t=0then Ve l f t else[]
theorem Wr(l:PL)(f t:List UInt8):(Ve l f t).length<=l.length:=rF _ _
def VZ(l:PL)(p:Pr):Int:=if Qz l=0then QT p else Qz l
def Kb(l:PL)(p:Pr):Int:=if VZ l p=0then(if 60<(JB l p).length then 11 else 0)else VZ l p
def Vo(l:PL)(p:Pr):PL:=if Kb l p=0then JB l p else[]
theorem dD(l:PL)(p:Pr):(JB l p).length<=l.length+1:=by
 induction l with|nil=>simp[JB]|cons q r ih=>rw[JB];by_cases a:YE q.1 p.1=tD;(·rw[if_pos a];simp;omega);·rw[if_neg a];by_cases b:q.1=p.1;(·rw[if_pos b];simp);·rw[if_neg b];simp
structure uC (l : PL) : Prop where
  many : l.length * 48 <= 140737488355328
  each : ∀ i, i < l.length -> (l.getD i ([], [])).1.length <= 140737488355328 ∧ (l.getD i ([], [])).2.length <= 140737488355328
theorem uC.len{l:PL}(h:uC l):l.length<=140737488355328:=by
 have:=h.many;omega
theorem Zy.fits{l:PL}(h:Zy l):uC l:=by
 refine⟨by have:=h.room;omega,fun i a=>?_⟩;have:=h.pairs l[i] (sK a);rw[show l[i]=l.getD i ([],[])by simp[a]]at this;omega
abbrev Tn:=List UInt8×PL
abbrev FL:=List Tn
def XX(l:FL):Prop:=l.Pairwise fun p q=>YE p.1 q.1=tD
def UK(l:FL)(k:List UInt8):Option PL:=(l.find? fun p=>p.1==k).map (·.2)
theorem X6(p:Tn)(l:FL)(k:List UInt8):UK (p::l) k=if p.1=k then T p.2 else UK l k:=by
 unfold UK;by_cases h:p.1=k;·rw[pO (by simpa using h),if_pos h];rfl
 ·rw[pP (by simpa using h),if_neg h]
theorem Cr:∀(l:FL)(k:List UInt8)(i:Nat),i<l.length->(∀j,j<i->(l.getD j ([],[])).1≠k)->(l.getD i ([],[])).1=k->UK l k=T (l.getD i ([],[])).2|[],_,_,h,_,_=>by simp at h|p::l,k,0,_,_,h2=>by rw[X6,if_pos (by simpa using h2)];simp|p::l,k,i+1,h,h1,h2=>by rw[X6,if_neg (by simpa using h1 0 (by omega))];have:=Cr l k i (by simpa using h) (fun j a=>by simpa using h1 (j+1) (by omega)) (by simpa using h2);simpa using this
theorem TP:∀(l:FL)(k:List UInt8),(∀j,j<l.length->(l.getD j ([],[])).1≠k)->UK l k=V|[],_,_=>rfl|p::l,k,h=>by rw[X6,if_neg (by simpa using h 0 (by simp))];exact TP l k fun j a=>by simpa using h (j+1) (by simpa using a)
def YH:FL->Tn->FL|[],p=>[p]|q::r,p=>if YE q.1 p.1=tD then q::YH r p else if q.1=p.1then p::r else p::q::r
def GA(l:FL)(k:List UInt8):FL:=l.filter fun q=>!(q.1==k)
theorem Ev(l:FL)(p x:Tn):x∈YH l p->x=p∨x∈l:=by
 induction l with|nil=>intro h;simp[YH]at h;exact .inl h|cons q r ih=>intro h;rw[YH]at h;by_cases a:YE q.1 p.1=tD;(·rw[if_pos a]at h;rcases tY.1 h with rfl|h;(·exact .inr (by simp));·rcases ih h with h|h;(·exact .inl h);·exact .inr (sD _ h));·rw[if_neg a]at h;by_cases b:q.1=p.1;(·rw[if_pos b]at h;rcases tY.1 h with h|h;(·exact .inl h);·exact .inr (sD _ h));·rw[if_neg b]at h;rcases tY.1 h with h|h;(·exact .inl h);·exact .inr h
theorem ML(l:FL)(p:Tn)(h:XX l):XX (YH l p):=by
 induction l with|nil=>exact sX _ _|cons q r ih=>have c:=sN.1 h;rw[YH];by_cases d:YE q.1 p.1=tD;(·rw[if_pos d];refine tZ (fun x a=>?_) (ih c.2);rcases Ev r p x a with rfl|a;(·exact d);·exact c.1 x a);·rw[if_neg d];by_cases e:q.1=p.1;(·rw[if_pos e];exact tZ (fun x a=>by rw[<-e];exact c.1 x a) c.2);·rw[if_neg e];have b:=UH _ _ (by simpa using d) e;refine tZ (fun x a=>?_) h;rcases tY.1 a with rfl|a;(·exact b);·exact J8 _ _ _ b (c.1 x a)
theorem IA(l:FL)(p:Tn)(k:List UInt8)(h:XX l):UK (YH l p) k=if p.1=k then T p.2 else UK l k:=by
 induction l with|nil=>rw[YH,X6]|cons q r ih=>have d:=sN.1 h;rw[YH];by_cases a:YE q.1 p.1=tD;(·rw[if_pos a,X6,X6,ih d.2];by_cases e:p.1=k;(·rw[if_pos e,if_pos e,if_neg (fun c=>C1 a (c.trans e.symm))]);·rw[if_neg e,if_neg e]);·rw[if_neg a];by_cases b:q.1=p.1;(·rw[if_pos b,X6,X6];by_cases e:p.1=k;(·rw[if_pos e,if_pos e]);·rw[if_neg e,if_neg e,if_neg (by rw[b];exact e)]);·rw[if_neg b,X6]
theorem LD(l:FL)(k x:List UInt8):UK (GA l k) x=if k=x then V else UK l x:=by
 induction l with|nil=>simp[GA,UK]|cons q r ih=>unfold GA at ih⊢;by_cases e:q.1=k;(·rw[sY (by simp[e]),ih,X6];by_cases a:k=x;(·rw[if_pos a,if_pos a]);·rw[if_neg a,if_neg a,if_neg (by rw[e];exact a)]);·rw[pK (by simp[e]),X6,ih,X6];by_cases a:k=x;(·rw[if_pos a,if_pos a,if_neg (by rw[<-a];exact e)]);·rw[if_neg a,if_neg a]
theorem Cs(l:FL)(k:List UInt8)(h:XX l):XX (GA l k):=sZ _ h
theorem Wl(l:FL)(p:Tn):(YH l p).length<=l.length+1:=by
 induction l with|nil=>simp[YH]|cons q r ih=>rw[YH];by_cases a:YE q.1 p.1=tD;(·rw[if_pos a];simp;omega);·rw[if_neg a];by_cases b:q.1=p.1;(·rw[if_pos b];simp);·rw[if_neg b];simp
theorem Nl(l:FL)(k:List UInt8):(GA l k).length<=l.length:=rF _ _
def Qs(n:Nat):Int:=if 1<=n∧n<=8then 0 else 1
theorem Zl(n:Nat):Qs n=0↔1<=n∧n<=8:=by
 unfold Qs;by_cases h:1<=n∧n<=8;·rw[if_pos h];exact⟨fun _=>h,fun _=>rfl⟩
 ·rw[if_neg h];constructor;(·intro a;cases a);·intro a;exact absurd a h
def XD(t:Tn):Int:=if Qs t.1.length=0then(if t.2.length=0then 4 else Qz t.2)else Qs t.1.length
theorem vS(t:Tn):XD t=0↔(1<=t.1.length∧t.1.length<=8)∧t.2≠[]∧Zy t.2:=by
 unfold XD;by_cases h:Qs t.1.length=0;·rw[if_pos h];by_cases a:t.2.length=0;(·rw[if_pos a];constructor;(·intro b;cases b);·intro b;exact absurd (tG a) b.2.1);·rw[if_neg a,YP];exact⟨fun b=>⟨(Zl _).1 h,fun e=>a (by rw[e];rfl),b⟩,fun b=>b.2.2⟩
 ·rw[if_neg h];constructor;(·intro a;exact absurd a h);·intro a;exact absurd ((Zl _).2 a.1) h
def Kf(l:FL)(i:Nat):Int:=if XD (l.getD i ([],[]))=0then(if 0<i∧YE (l.getD (i-1) ([],[])).1 (l.getD i ([],[])).1=tH then 3 else 0)else XD (l.getD i ([],[]))
def VA(l:FL):Nat->Nat->Int|0,_=>0|n+1,i=>if Kf l i=0then VA l n (i+1)else Kf l i
def Q4(l:FL):Int:=if 8<l.length then 1 else VA l l.length 0
theorem jT(l:FL)(n i:Nat)(hi:i<=n)(h:∀j,j<i->Kf l j=0):VA l n 0=VA l (n-i) i:=by
 induction i with|zero=>rfl|succ i ih=>rw[ih (by omega) (fun j a=>h j (by omega)),show n-i=(n-(i+1))+1by omega,VA,if_pos (h i (by omega))]
theorem Rv(l:FL)(i:Nat)(hi:i<l.length)(hl:l.length<=8)(h:∀j,j<i->Kf l j=0)(hf:Kf l i≠0):Q4 l=Kf l i:=by
 rw[Q4,if_neg (by omega),jT l _ i (by omega) h,show l.length-i=(l.length-(i+1))+1by omega,VA,if_neg hf]
theorem uO(l:FL)(hl:l.length<=8)(h:∀j,j<l.length->Kf l j=0):Q4 l=0:=by
 rw[Q4,if_neg (by omega),jT l _ l.length (sF _) h,oM,VA]
theorem vN(l:FL)(hl:8<l.length):Q4 l=1:=by
 rw[Q4,if_pos hl]
theorem vK(l:FL):∀(n i:Nat),VA l n i=0->∀j,i<=j->j<i+n->Kf l j=0|0,i,_,j,h1,h2=>by omega|n+1,i,h,j,h1,h2=>by rw[VA]at h;by_cases e:Kf l i=0;(·rw[if_pos e]at h;by_cases a:j=i;(·subst a;exact e);·exact vK l n (i+1) h j (by omega) (by omega));·rw[if_neg e]at h;exact absurd h e
theorem En(l:FL)(i:Nat):Kf l i=0↔XD (l.getD i ([],[]))=0∧(0<i->YE (l.getD (i-1) ([],[])).1 (l.getD i ([],[])).1=tD):=by
 unfold Kf;by_cases h:XD (l.getD i ([],[]))=0;·rw[if_pos h];by_cases a:0<i∧YE (l.getD (i-1) ([],[])).1 (l.getD i ([],[])).1=tH;(·rw[if_pos a];constructor;(·intro h;cases h);·intro b;have:=b.2 a.1;rw[a.2]at this;cases this);·rw[if_neg a];refine⟨fun _=>⟨h,fun c=>?_⟩,fun _=>rfl⟩;cases hk:YE (l.getD (i-1) ([],[])).1 (l.getD i ([],[])).1with|true=>rfl|false=>exact absurd ⟨c,hk⟩ a
 ·rw[if_neg h];constructor;(·intro a;exact absurd a h);·intro a;exact absurd a.1 h
theorem G9:∀l:FL,(∀i,0<i->i<l.length->YE (l.getD (i-1) ([],[])).1 (l.getD i ([],[])).1=tD)->XX l|[],_=>rG|[_],_=>sX _ _|p::q::r,h=>by(have c:XX (q::r):=G9 (q::r) fun i e d=>by have:=h (i+1) (by omega) (by simp at d⊢;omega);rw[show i+1-1=(i-1)+1by omega]at this;simpa using this);(have a:YE p.1 q.1=tD:=by have:=h 1 (by omega) (by simp);simpa using this);refine tZ (fun x b=>?_) c;rcases tY.1 b with rfl|b;(·exact a);·exact J8 _ _ _ a ((sN.1 c).1 x b)
theorem qY(l:FL)(h:XX l)(i j:Nat)(hij:i<j)(hj:j<l.length):YE (l.getD i ([],[])).1 (l.getD j ([],[])).1=tD:=by
 have:=pI.1 h i j (by omega) hj hij;simpa[hj,show i<l.length by omega]using this
structure ZN(l:FL):Prop where room:l.length<=8tens:∀t∈l,(1<=t.1.length∧t.1.length<=8)∧t.2≠[]∧Zy t.2rises:XX l
theorem Xi(l:FL):Q4 l=0↔ZN l:=by
 constructor;·intro h;(have c:l.length<=8:=by by_cases c:8<l.length;(·rw[vN l c]at h;cases h);·omega);rw[Q4,if_neg (by omega)]at h;have e:=fun j(b:j<l.length)=>(En l j).1 (vK l l.length 0 h j (by omega) (by omega));refine⟨c,fun p f=>?_,G9 l fun i d a=>(e i a).2 d⟩;obtain⟨i,a,rfl⟩:=tC.1 f;have:=(vS _).1 (e i a).1;simpa[a]using this
 ·intro h;refine uO l h.room fun j b=>(En l j).2 ⟨(vS _).2 ?_,fun d=>qY l h.rises _ _ (by omega) b⟩;have:=h.tens l[j] (sK b);simpa[b]using this
theorem UE:ZN []:=⟨by
 simp,by
 simp,rG⟩
def Yi(l:FL)(n:List UInt8):PL:=(UK l n).getD []
theorem fN(n:List UInt8):Yi [] n=[]:=rfl
theorem J4{l:FL}(h:ZN l)(n:List UInt8):Zy (Yi l n):=by
 unfold Yi UK;cases hf:l.find? (fun p=>p.1==n)with|none=>exact OS|some t=>exact(h.tens t (List.mem_of_find?_eq_some hf)).2.2
def Qx(w:Q8):Int:=if Qs w.name.length=0then(if w.gone=tD then(if Qn w.key.length=0then(if 0<w.value.length then 4 else 0)else Qn w.key.length)else QT (w.key,w.value))else Qs w.name.length
def XU(l:FL)(w:Q8):PL:=if w.gone=tD then zX (Yi l w.name) w.key else JB (Yi l w.name) (w.key,w.value)
def qF(l:FL)(w:Q8):Int:=if w.gone=tD then Xc (Yi l w.name) w.key else Kb (Yi l w.name) (w.key,w.value)
def Ze(l:FL)(w:Q8):FL:=if(XU l w).length=0then GA l w.name else YH l (w.name,XU l w)
def XJ(l:FL)(w:Q8):Int:=if qF l w=0then(if 8<(Ze l w).length then 11 else 0)else qF l w
def ZK:FL->List Q8->Int|_,[]=>0|l,w::ws=>if Qx w=0then(if XJ l w=0then ZK (Ze l w) ws else XJ l w)else Qx w
def YI:FL->List Q8->FL|l,[]=>l|l,w::ws=>YI (Ze l w) ws
def QK(l:FL)(ws:List Q8):Int:=if Q4 l=0then(if 10<ws.length then 1 else ZK l ws)else Q4 l
def ZY(l:FL)(ws:List Q8):FL:=if QK l ws=0then YI l ws else[]
theorem XK(w:Q8):Qx w=0↔(1<=w.name.length∧w.name.length<=8)∧(1<=w.key.length∧w.key.length<=16)∧(if w.gone=tD then w.value=[]else w.value.length<=32):=by
 unfold Qx;by_cases b:Qs w.name.length=0;·rw[if_pos b];have c:=(Zl _).1 b;by_cases d:w.gone=tD;(·rw[if_pos d,if_pos d];by_cases a:Qn w.key.length=0;(·rw[if_pos a];have f:=(Zs _).1 a;by_cases e:0<w.value.length;(·rw[if_pos e];constructor;(·intro h;cases h);·intro h;rw[h.2.2]at e;simp at e);·rw[if_neg e];exact⟨fun _=>⟨c,f,tG (by omega)⟩,fun _=>rfl⟩);·rw[if_neg a];constructor;(·intro h;exact absurd h a);·intro h;exact absurd ((Zs _).2 h.2.1) a);·rw[if_neg d,if_neg d,Jv];exact⟨fun h=>⟨c,h.1,h.2⟩,fun h=>⟨h.2.1,h.2.2⟩⟩
 ·rw[if_neg b];constructor;(·intro h;exact absurd h b);·intro h;exact absurd ((Zl _).2 h.1) b
theorem Iu{l:FL}(h:ZN l){w:Q8}(hw:Qx w=0)(he:qF l w=0):Zy (XU l w):=by
 obtain⟨_,g,f⟩:=(XK w).1 hw;have b:=J4 h w.name;unfold XU;unfold qF at he;by_cases e:w.gone=tD;·rw[if_pos e];exact⟨rK (SK _ _) b.room,fun p i=>b.pairs p (pD.1 i).1,Nc _ _ b.rises⟩
 ·rw[if_neg e]at he f⊢;(have a:¬60<(JB (Yi l w.name) (w.key,w.value)).length:=by intro a;unfold Kb at he;by_cases c:VZ (Yi l w.name) (w.key,w.value)=0;(·rw[if_pos c,if_pos a]at he;cases he);·rw[if_neg c]at he;exact c he);refine⟨by omega,fun q d=>?_,Pb _ _ b.rises⟩;rcases Mc _ _ q d with rfl|d;(·exact⟨g,f⟩);·exact b.pairs q d
theorem RW{l:FL}(h:XX l)(w:Q8):XX (Ze l w):=by
 unfold Ze;by_cases a:(XU l w).length=0;·rw[if_pos a];exact Cs _ _ h
 ·rw[if_neg a];exact ML _ _ h
theorem Sd{l:FL}(h:XX l)(w:Q8)(n:List UInt8):Yi (Ze l w) n=if w.name=n then XU l w else Yi l n:=by
 unfold Ze;by_cases a:(XU l w).length=0;·rw[if_pos a];have b:XU l w=[]:=tG a;rw[b];unfold Yi;rw[LD];by_cases e:w.name=n;(·rw[if_pos e,if_pos e];rfl);·rw[if_neg e,if_neg e]
 ·rw[if_neg a];unfold Yi;rw[IA _ _ _ h];by_cases e:w.name=n;(·rw[if_pos e,if_pos e];rfl);·rw[if_neg e,if_neg e]
theorem V2{l:FL}(h:ZN l){w:Q8}(hw:Qx w=0)(he:XJ l w=0):ZN (Ze l w):=by
 have c:qF l w=0:=by by_cases a:qF l w=0;(·exact a);·unfold XJ at he;rw[if_neg a]at he;exact absurd he a
 have f:(Ze l w).length<=8:=by unfold XJ at he;rw[if_pos c]at he;by_cases d:8<(Ze l w).length;(·rw[if_pos d]at he;cases he);·omega
 obtain⟨g,_,_⟩:=(XK w).1 hw;refine⟨f,fun t b=>?_,RW h.rises w⟩;unfold Ze at b;by_cases a:(XU l w).length=0;·rw[if_pos a]at b;exact h.tens t (pD.1 b).1
 ·rw[if_neg a]at b;rcases Ev _ _ t b with rfl|b;(·exact⟨g,fun e=>a (by rw[show XU l w=[]from e];rfl),Iu h hw c⟩);·exact h.tens t b
structure Rd where
  name : List UInt8
  key : List UInt8
  wide : Bool
  last : List UInt8
def Zf:Rd:=⟨[],[],tH,[]⟩
def Xr(r:Rd):Int:=if Qs r.name.length=0then(if Qn r.key.length=0then(if r.wide=tD then Qn r.last.length else(if 0<r.last.length then 4 else 0))else Qn r.key.length)else Qs r.name.length
theorem Em(r:Rd):Xr r=0↔(1<=r.name.length∧r.name.length<=8)∧(1<=r.key.length∧r.key.length<=16)∧(if r.wide=tD then 1<=r.last.length∧r.last.length<=16 else r.last=[]):=by
 unfold Xr;by_cases c:Qs r.name.length=0;·rw[if_pos c];have d:=(Zl _).1 c;by_cases a:Qn r.key.length=0;(·rw[if_pos a];have b:=(Zs _).1 a;by_cases f:r.wide=tD;(·rw[if_pos f,if_pos f,Zs];exact⟨fun h=>⟨d,b,h⟩,fun h=>h.2.2⟩);·rw[if_neg f,if_neg f];by_cases e:0<r.last.length;(·rw[if_pos e];exact⟨fun h=>by omega,fun h=>by rw[h.2.2]at e;simp at e⟩);·rw[if_neg e];exact⟨fun _=>⟨d,b,tG (by omega)⟩,fun _=>rfl⟩);·rw[if_neg a];exact⟨fun h=>absurd h a,fun h=>absurd ((Zs _).2 h.2.1) a⟩
 ·rw[if_neg c];exact⟨fun h=>absurd h c,fun h=>absurd ((Zl _).2 h.1) c⟩
def Xb(w:tA)(v:tE)(p:Q8):Prop:=∃vn vk vv,v=oC #[vn,vk,pT p.gone,vv]∧Qe w vn p.name∧Qe w vk p.key∧Qe w vv p.value
theorem Xb.grown{w w':tA}{v:tE}{p:Q8}(h:Xb w v p)(hg:tB w w' V):Xb w' v p:=by
 obtain⟨e,d,f,rfl,a,b,c⟩:=h;exact⟨e,d,f,rfl,a.grown hg,b.grown hg,c.grown hg⟩
theorem Xb.aggW{w:tA}{v:tE}{p:Q8}(h:Xb w v p):∃na nc ka kc va vc,v=oC #[tP na p.name.length nc,tP ka p.key.length kc,pT p.gone,tP va p.value.length vc]:=by
 obtain⟨e,d,f,rfl,a,b,c⟩:=h;obtain⟨na,nc,rfl⟩:=a.shape;obtain⟨ka,kc,rfl⟩:=b.shape;obtain⟨va,vc,rfl⟩:=c.shape;exact⟨na,nc,ka,kc,va,vc,rfl⟩
def vA(w:tA)(b o:Nat)(p:Q8):Prop:=∃vn vk vv,w.cell? ⟨b,o,V⟩=T vn∧w.cell? ⟨b,o+1,V⟩=T vk∧w.cell? ⟨b,o+2,V⟩=T (pT p.gone)∧w.cell? ⟨b,o+3,V⟩=T vv∧Qe w vn p.name∧Qe w vk p.key∧Qe w vv p.value
theorem vA.grown{w w':tA}{b o:Nat}{p:Q8}(h:vA w b o p)(hg:tB w w' V):vA w' b o p:=by
 obtain⟨k,j,l,a,c,d,e,f,g,i⟩:=h;exact⟨k,j,l,hg.cell a (by simp),hg.cell c (by simp),hg.cell d (by simp),hg.cell e (by simp),f.grown hg,g.grown hg,i.grown hg⟩
def QO(w:tA)(v:tE)(l:List Q8):Prop:=∃a cap,v=tP a l.length cap∧l.length<=cap∧((l=[]∧(a=V->cap=0))∨∃b o,a=T ⟨b,o,V⟩∧∀i,i<l.length->vA w b (o+i*4) (l.getD i Qo))
theorem QO.shape{w:tA}{v:tE}{l:List Q8}(h:QO w v l):∃a cap,v=tP a l.length cap:=by
 obtain⟨a,cap,rfl,_⟩:=h;exact⟨a,cap,rfl⟩
theorem QO.grown{w w':tA}{v:tE}{l:List Q8}(h:QO w v l)(hg:tB w w' V):QO w' v l:=by
 obtain⟨a,cap,rfl,c,h⟩:=h;refine⟨a,cap,rfl,c,?_⟩;rcases h with h|⟨b,o,rfl,h⟩;·exact .inl h
 ·exact .inr ⟨b,o,rfl,fun i d=>(h i d).grown hg⟩
theorem QO.at{w:tA}{a:Option pJ}{n cap:Nat}{l:List Q8}(h:QO w (tP a n cap) l)(i:Nat)(hi:i<l.length):∃b o,a=T ⟨b,o,V⟩∧vA w b (o+i*4) (l.getD i Qo):=by
 obtain⟨d,c,e,f,h⟩:=h;simp only[rJ]at e;obtain⟨rfl,rfl,rfl⟩:=e;rcases h with⟨rfl,_⟩|⟨b,o,rfl,h⟩;·simp at hi
 ·exact⟨b,o,rfl,h i hi⟩
structure uF (l : List Q8) : Prop where
  many : l.length * 80 <= 140737488355328
  each : ∀ i, i < l.length -> YQ (l.getD i Qo)
theorem uF.len{l:List Q8}(h:uF l):l.length<=140737488355328:=by
 have:=h.many;omega
structure Xo where
  turn : Int
  writes : List Q8
def Zj:Xo:=⟨0,[]⟩
def Bi:Nat->List Q8->Int|_,[]=>0|i,w::ws=>if(if 10<=i then(1:Int)else Qx w)=0then Bi (i+1) ws else(if 10<=i then(1:Int)else Qx w)
def QU(c:Xo):Int:=if 1<=c.turn∧c.turn<=1048576then(if c.writes.length=0then 1 else Bi 0 c.writes)else 2
theorem Lh:∀(ws:List Q8)(i:Nat),Bi i ws=0↔(ws=[]∨i+ws.length<=10)∧∀w∈ws,Qx w=0|[],i=>by simp[Bi]|w::ws,i=>by have f:=Lh ws (i+1);rw[Bi];by_cases b:10<=i;(·rw[if_pos b,if_neg (by omega)];constructor;(·intro h;omega);·rintro⟨h|h,_⟩;(·cases h);·simp at h;omega);·rw[if_neg b];by_cases d:Qx w=0;(·rw[if_pos d,f];constructor;(·rintro⟨a,c⟩;refine⟨.inr ?_,?_⟩;(·rcases a with rfl|a;(·simp;omega);·simp;omega);·intro x e;rcases tY.1 e with rfl|e;(·exact d);·exact c x e);·rintro⟨a,c⟩;refine⟨.inr ?_,fun x e=>c x (sD _ e)⟩;rcases a with a|a;(·cases a);·simp at a;omega);·rw[if_neg d];constructor;(·intro h;exact absurd h d);·rintro⟨_,c⟩;exact absurd (c w (r7 ..)) d
theorem KM(c:Xo):QU c=0↔(1<=c.turn∧c.turn<=1048576)∧(1<=c.writes.length∧c.writes.length<=10)∧∀w∈c.writes,Qx w=0:=by
 unfold QU;by_cases a:1<=c.turn∧c.turn<=1048576;·rw[if_pos a];by_cases b:c.writes.length=0;(·rw[if_pos b];constructor;(·intro h;omega);·rintro⟨_,h,_⟩;omega);·rw[if_neg b,Lh];constructor;(·rintro⟨d|d,e⟩;(·rw[d]at b;simp at b);·exact⟨a,⟨by omega,by omega⟩,e⟩);·rintro⟨_,d,e⟩;exact⟨.inr (by omega),e⟩
 ·rw[if_neg a];constructor;(·intro h;omega);·rintro⟨h,_⟩;exact absurd h a
theorem bH(ws:List Q8)(i:Nat)(h:i<ws.length):Bi i (ws.drop i)=if(if 10<=i then(1:Int)else Qx (ws.getD i Qo))=0then Bi (i+1) (ws.drop (i+1))else(if 10<=i then(1:Int)else Qx (ws.getD i Qo)):=by
 rw[sI h,Bi,show ws[i]=ws.getD i Qo by simp[h]]
theorem cW(ws:List Q8):Bi ws.length (ws.drop ws.length)=0:=by
 rw[List.drop_length,Bi]
def XM(p:List UInt8):List UInt8:=tK p.length::p
theorem qL(p:List UInt8):(XM p).length=p.length+1:=rfl
def Gv(w:Q8):List UInt8:=if w.gone=tD then[255]else XM w.value
def Yd(w:Q8):List UInt8:=XM w.name++XM w.key++Gv w
def U6(t n:Nat):List UInt8:=[tK (t/65536),tK (t/256%256),tK (t%256),tK n]
def Zh(c:Xo):List UInt8:=U6 c.turn.toNat c.writes.length++c.writes.flatMap Yd
def Zr:List UInt8->Option (List UInt8×List UInt8)|[]=>V|x::r=>if x.toNat<=r.length then T (r.take x.toNat,r.drop x.toNat)else V
def uT(n k r:List UInt8):Option (Q8×List UInt8):=if r.head?=T 255then T (⟨n,k,[],tD⟩,r.tail)else match Zr r with|T (v,r2)=>T (⟨n,k,v,tH⟩,r2)|none=>V
def Mt(n r:List UInt8):Option (Q8×List UInt8):=match Zr r with|T (k,r2)=>uT n k r2|none=>V
def Jd(r:List UInt8):Option (Q8×List UInt8):=match Zr r with|T (n,r2)=>Mt n r2|none=>V
def ZR:Nat->List UInt8->Option (List Q8×List UInt8)|0,r=>T ([],r)|n+1,r=>match Jd r with|T (w,r1)=>(match ZR n r1 with|T (ws,r2)=>T (w::ws,r2)|none=>V)|none=>V
theorem Dm{p:List UInt8}(h:p.length<256):(tK p.length).toNat=p.length:=by
 simp;omega
theorem Vq(p r:List UInt8)(h:p.length<256):Zr (XM p++r)=T (p,r):=by
 show Zr (tK p.length::(p++r))=_;rw[Zr,Dm h,if_pos (by simp),rU,rV]<;>rfl
theorem Gl{r p r2:List UInt8}(h:Zr r=T (p,r2)):r=XM p++r2:=by
 cases r with|nil=>cases h|cons x r=>rw[Zr]at h;by_cases a:x.toNat<=r.length;(·rw[if_pos a]at h;simp only[tV,sH]at h;obtain⟨rfl,rfl⟩:=h;(have b:(r.take x.toNat).length=x.toNat:=by simp;omega);show x::r=tK (r.take x.toNat).length::(r.take x.toNat++r.drop x.toNat);rw[b,tL];simp);·rw[if_neg a]at h;cases h
theorem Bz{r p r2:List UInt8}(h:Zr r=T (p,r2))(x:List UInt8):Zr (r++x)=T (p,r2++x):=by
 cases r with|nil=>cases h|cons y r=>rw[Zr]at h;by_cases a:y.toNat<=r.length;(·rw[if_pos a]at h;simp only[tV,sH]at h;obtain⟨rfl,rfl⟩:=h;show Zr (y::(r++x))=_;rw[Zr,if_pos (by simp;omega),pE a,pF a]);·rw[if_neg a]at h;cases h
theorem Aa{w:Q8}(hw:Qx w=0)(r:List UInt8):Jd (Yd w++r)=T (w,r):=by
 obtain⟨d,f,b⟩:=(XK w).1 hw;unfold Jd Yd;rw[tJ,tJ,Vq _ _ (by omega)];show Mt w.name (XM w.key++(Gv w++r))=_;unfold Mt;rw[Vq _ _ (by omega)];show uT w.name w.key (Gv w++r)=_;unfold uT Gv;by_cases a:w.gone=tD;·rw[if_pos a]at b⊢;rw[if_pos (by rfl)];obtain⟨n,k,v,g⟩:=w;simp only at a b;subst a b;rfl
 ·rw[if_neg a]at b⊢;rw[if_neg,Vq _ _ (by omega)];(·obtain⟨n,k,v,g⟩:=w;simp only[Bool.not_eq_true]at a;subst a;rfl);·show¬(T (tK w.value.length)=T 255);intro e;have:=congrArg UInt8.toNat (pQ e);rw[Dm (by omega)]at this;have c:(255:UInt8).toNat=255:=rfl;omega
theorem Fl:∀(ws:List Q8)(_:∀w∈ws,Qx w=0)(r:List UInt8),ZR ws.length (ws.flatMap Yd++r)=T (ws,r)|[],_,r=>rfl|w::ws,h,r=>by show ZR (ws.length+1) ((w::ws).flatMap Yd++r)=_;rw[ZR,rO,tJ,Aa (h w (r7 ..))];show(match ZR ws.length (ws.flatMap Yd++r)with|T (ws',r2)=>T (w::ws',r2)|none=>V)=_;rw[Fl ws (fun x a=>h x (sD _ a)) r]
theorem M7{r r2:List UInt8}{w:Q8}(h:Jd r=T (w,r2)):r=Yd w++r2:=by
 unfold Jd at h;cases h1:Zr r with|none=>rw[h1]at h;cases h|some q=>obtain⟨n,c⟩:=q;rw[h1]at h;have h:Mt n c=T (w,r2):=h;unfold Mt at h;cases h2:Zr c with|none=>rw[h2]at h;cases h|some q=>obtain⟨k,a⟩:=q;rw[h2]at h;have h:uT n k a=T (w,r2):=h;rw[Gl h1,Gl h2];unfold uT at h;by_cases b:a.head?=T 255;(·rw[if_pos b]at h;simp only[tV,sH]at h;obtain⟨rfl,rfl⟩:=h;cases a with|nil=>cases b|cons x a=>obtain rfl:x=255:=pQ b;show XM n++(XM k++255::a)=XM n++XM k++[255]++a;simp[tJ]);·rw[if_neg b]at h;cases h3:Zr a with|none=>rw[h3]at h;cases h|some q=>obtain⟨v,d⟩:=q;rw[h3]at h;simp only[tV,sH]at h;obtain⟨rfl,rfl⟩:=h;rw[Gl h3];show XM n++(XM k++(XM v++d))=XM n++XM k++XM v++d;simp[tJ]
theorem vW:∀(n:Nat){r r2:List UInt8}{ws:List Q8},ZR n r=T (ws,r2)->r=ws.flatMap Yd++r2∧ws.length=n|0,r,r2,ws,h=>by rw[ZR]at h;simp only[tV,sH]at h;obtain⟨rfl,rfl⟩:=h;exact⟨rfl,rfl⟩|n+1,r,r2,ws,h=>by rw[ZR]at h;cases h1:Jd r with|none=>rw[h1]at h;cases h|some q=>obtain⟨w,a⟩:=q;rw[h1]at h;have h:(match ZR n a with|T (ws,r2)=>T (w::ws,r2)|none=>V)=T (ws,r2):=h;cases h2:ZR n a with|none=>rw[h2]at h;cases h|some q=>obtain⟨d,e⟩:=q;rw[h2]at h;simp only[tV,sH]at h;obtain⟨rfl,rfl⟩:=h;obtain⟨b,c⟩:=vW n h2;exact⟨by rw[M7 h1,b,rO,tJ],by simp[c]⟩
theorem xI : ∀ (n : Nat) (r : List UInt8), ZR (n + 1) r = match ZR n r with | T (ws, r1) => (match Jd r1 with | T (w, r2) => T (ws ++ [w], r2) | none => V) | none => V
  | 0, r => by
    rw [ZR]
    cases h : Jd r with
    | none => simp [ZR, h]
    | some q => obtain ⟨w, a⟩ := q; simp [ZR, h]
  | n + 1, r => by
    rw [ZR]
    cases h : Jd r with
    | none =>
      show V = _
      rw [ZR, h]
    | some q =>
      obtain ⟨w, a⟩ := q
      show (match ZR (n + 1) a with | T (ws, r2) => T (w :: ws, r2) | none => V) = _
      rw [xI n a, show ZR (n + 1) r = (match ZR n a with | T (ws, r2) => T (w :: ws, r2) | none => V) by rw [ZR, h]]
      cases h2 : ZR n a with
      | none => rfl
      | some q =>
        obtain ⟨ws, b⟩ := q
        show (match (match Jd b with | T (w, r2) => T (ws ++ [w], r2) | none => V) with | T (ws, r2) => T (w :: ws, r2) | none => V) = (match Jd b with | T (w', r2) => T (w :: ws ++ [w'], r2) | none => V)
        cases Jd b with
        | none => rfl
        | some q => rfl
def Gb(b:List UInt8):Nat:=65536*(b.getD 0 0).toNat+256*(b.getD 1 0).toNat+(b.getD 2 0).toNat
def G7(b:List UInt8):Option (List Q8×List UInt8):=ZR (b.getD 3 0).toNat (b.drop 4)
def YD(b:List UInt8):Int:=if 4000<b.length then 1 else if b.length<4then 14 else match G7 b with|none=>14|T (ws,r)=>if r.length=0then QU ⟨(Gb b:Int),ws⟩else 4
def Jx(b:List UInt8):Xo:=if YD b=0then(match G7 b with|T (ws,_)=>⟨(Gb b:Int),ws⟩|none=>Zj)else Zj
theorem PC(t n:Nat):(U6 t n).length=4:=rfl
theorem Ia(t n:Nat)(x:List UInt8)(ht:t<=1048576):Gb (U6 t n++x)=t:=by
 show 65536*(tK (t/65536)).toNat+256*(tK (t/256%256)).toNat+(tK (t%256)).toNat=t;simp only[pX];omega
theorem He(t n:Nat)(x:List UInt8)(hn:n<=10):((U6 t n++x).getD 3 0).toNat=n:=by
 show(tK n).toNat=n;simp;omega
theorem LN(t n:Nat)(x:List UInt8):(U6 t n++x).drop 4=x:=rfl
theorem AM{w:Q8}(hw:Qx w=0):(Yd w).length=3+w.name.length+w.key.length+w.value.length∧(Yd w).length<=59:=by
 obtain⟨c,d,a⟩:=(XK w).1 hw;unfold Yd Gv;by_cases b:w.gone=tD;·rw[if_pos b]at a⊢;rw[a];simp only[tF,qL,pC,List.length_nil];omega
 ·rw[if_neg b]at a⊢;simp only[tF,qL];omega
def SD(ws:List Q8):Nat:=(ws.map fun w=>3+w.name.length+w.key.length+w.value.length).sum
theorem xS:∀(ws:List Q8)(_:∀w∈ws,Qx w=0),(ws.flatMap Yd).length=SD ws∧(ws.flatMap Yd).length<=59*ws.length|[],_=>by simp[SD]|w::ws,h=>by obtain⟨b,c⟩:=xS ws (fun x a=>h x (sD _ a));obtain⟨d,e⟩:=AM (h w (r7 ..));rw[rO,tF];unfold SD at b⊢;rw[oK,List.sum_cons,pC];omega
theorem U5{c:Xo}(h:QU c=0):(Zh c).length=4+SD c.writes∧(Zh c).length<=594:=by
 obtain⟨_,b,a⟩:=(KM c).1 h;obtain⟨d,e⟩:=xS c.writes a;unfold Zh;rw[tF,PC];omega
theorem Db{c:Xo}(h:QU c=0)(x:List UInt8):G7 (Zh c++x)=T (c.writes,x)∧Gb (Zh c++x)=c.turn.toNat:=by
 obtain⟨d,a,b⟩:=(KM c).1 h;unfold G7 Zh;rw[tJ,He _ _ _ a.2,LN,Ia _ _ _ (by omega)];exact⟨Fl _ b _,rfl⟩
theorem MN{c:Xo}(h:QU c=0):YD (Zh c)=0∧Jx (Zh c)=c:=by
 obtain⟨f,g,i⟩:=(KM c).1 h;obtain⟨j,k⟩:=U5 h;obtain⟨a,b⟩:=Db h [];rw[sA]at a b;have d:(⟨(Gb (Zh c):Int),c.writes⟩:Xo)=c:=by rw[b,Int.toNat_of_nonneg (by omega)]
 have e:YD (Zh c)=0:=by rw[YD,if_neg (by omega),if_neg (by omega),a];show(if([]:List UInt8).length=0then QU ⟨(Gb (Zh c):Int),c.writes⟩else 4)=0;rw[if_pos (show([]:List UInt8).length=0from rfl),d,h]
 refine⟨e,?_⟩;rw[Jx,if_pos e,a];exact d
theorem N0{b:List UInt8}(h:YD b=0):QU (Jx b)=0∧Zh (Jx b)=b:=by
 have c:Jx b=(match G7 b with|T (a,_)=>⟨(Gb b:Int),a⟩|none=>Zj):=by rw[Jx,if_pos h]
 rw[YD]at h;by_cases g:4000<b.length;·rw[if_pos g]at h;omega
 rw[if_neg g]at h;by_cases d:b.length<4;·rw[if_pos d]at h;omega
 rw[if_neg d]at h;cases hb:G7 b with|none=>rw[hb]at h;simp at h|some q=>obtain⟨a,r⟩:=q;rw[hb]at h c;have h:(if r.length=0then QU ⟨(Gb b:Int),a⟩else 4)=0:=h;have c:Jx b=⟨(Gb b:Int),a⟩:=c;by_cases e:r.length=0;(·rw[if_pos e]at h;obtain rfl:r=[]:=tG e;rw[c];refine⟨h,?_⟩;obtain⟨n,o,p⟩:=(KM _).1 h;unfold G7 at hb;obtain⟨f,i⟩:=vW _ hb;rw[sA]at f;show U6 ((Gb b:Int)).toNat a.length++a.flatMap Yd=b;rw[<-f,i,rP];match b,d with|x0::x1::x2::x3::t,_=>show U6 (65536*x0.toNat+256*x1.toNat+x2.toNat) x3.toNat++t=_;have j:=x0.toNat_lt;have k:=x1.toNat_lt;have l:=x2.toNat_lt;have m:=x3.toNat_lt;unfold U6;rw[show(65536*x0.toNat+256*x1.toNat+x2.toNat)/65536=x0.toNat by omega,show(65536*x0.toNat+256*x1.toNat+x2.toNat)/256%256=x1.toNat by omega,show(65536*x0.toNat+256*x1.toNat+x2.toNat)%256=x2.toNat by omega];simp);·rw[if_neg e]at h;omega
def Fw(b:List UInt8):List UInt8:=tK (b.length/256)::tK (b.length%256)::b
theorem xC(b:List UInt8):(Fw b).length=b.length+2:=rfl
def ZA(D:List UInt8->List UInt8)(c:Xo):List UInt8:=Fw (Zh c)++D (Fw (Zh c))
def Zg(r:List UInt8):Nat:=256*(r.getD 0 0).toNat+(r.getD 1 0).toNat
def XF(D:List UInt8->List UInt8)(r:List UInt8):Option (Xo×List UInt8):=if r.length<6then V else if r.length<Zg r+6∨4000<Zg r+2then V else if D (r.take (Zg r+2))=(r.drop (Zg r+2)).take 4then(if YD ((r.drop 2).take (Zg r))=0then T (Jx ((r.drop 2).take (Zg r)),r.drop (Zg r+6))else V)else V
theorem Br{D:List UInt8->List UInt8}{r r2:List UInt8}{c:Xo}(h:XF D r=T (c,r2)):∃m,6<=m∧m<=r.length∧r2=r.drop m∧QU c=0:=by
 unfold XF at h;by_cases b:r.length<6;·rw[if_pos b]at h;cases h
 rw[if_neg b]at h;by_cases d:r.length<Zg r+6∨4000<Zg r+2;·rw[if_pos d]at h;cases h
 rw[if_neg d]at h;by_cases e:D (r.take (Zg r+2))=(r.drop (Zg r+2)).take 4;·rw[if_pos e]at h;by_cases a:YD ((r.drop 2).take (Zg r))=0;(·rw[if_pos a]at h;simp only[tV,sH]at h;obtain⟨rfl,rfl⟩:=h;exact⟨Zg r+6,by omega,by omega,rfl,(N0 a).1⟩);·rw[if_neg a]at h;cases h
 ·rw[if_neg e]at h;cases h
theorem EJ{b:List UInt8}(h:b.length<65536)(x:List UInt8):Zg (Fw b++x)=b.length:=by
 show 256*(tK (b.length/256)).toNat+(tK (b.length%256)).toNat=b.length;simp only[pX];omega
theorem Pt{D:List UInt8->List UInt8}(hD:∀x,(D x).length=4)(c:Xo):(ZA D c).length=(Zh c).length+6:=by
 unfold ZA;rw[tF,hD,xC]
theorem Bk{D:List UInt8->List UInt8}(hD:∀x,(D x).length=4){c:Xo}(h:QU c=0)(r:List UInt8):XF D (ZA D c++r)=T (c,r):=by
 obtain⟨l,m⟩:=U5 h;obtain⟨d,e⟩:=MN h;have a:=Pt hD c;have k:Zg (ZA D c++r)=(Zh c).length:=by unfold ZA;rw[tJ];exact EJ (by omega) _
 have j:(ZA D c++r).take ((Zh c).length+2)=Fw (Zh c):=by unfold ZA;rw[tJ];exact rU (xC _)
 have f:(ZA D c++r).drop ((Zh c).length+2)=D (Fw (Zh c))++r:=by unfold ZA;rw[tJ];exact rV (xC _)
 have i:((ZA D c++r).drop 2).take (Zh c).length=Zh c:=by unfold ZA;rw[tJ];exact rU rfl
 have g:(ZA D c++r).drop ((Zh c).length+6)=r:=rV a;have b:(ZA D c++r).length=(Zh c).length+6+r.length:=by rw[tF,a]
 unfold XF;rw[if_neg (by omega),k,if_neg (by omega),j,f,i,g,if_pos (rU (hD _)).symm,if_pos d,e]
theorem Sz{D:List UInt8->List UInt8}(hD:∀x,(D x).length=4){c:Xo}(h:QU c=0)(k:Nat)(hk:k<(ZA D c).length):XF D ((ZA D c).take k)=V:=by
 obtain⟨f,g⟩:=U5 h;have e:=Pt hD c;have b:((ZA D c).take k).length=k:=by simp;omega
 unfold XF;by_cases d:k<6;·rw[if_pos (by omega)]
 ·(have a:Zg ((ZA D c).take k)=(Zh c).length:=by(have a:Zg (ZA D c++[])=(Zh c).length:=by unfold ZA;rw[tJ];exact EJ (by omega) _);rw[sA]at a;rw[<-a];unfold Zg;simp only[List.getD_eq_getElem?_getD,pZ];rw[if_pos (by omega),if_pos (by omega)]);rw[if_neg (by omega),a,if_pos (by omega)]
def Kx(D:List UInt8->List UInt8)(turn:Nat)(r:List UInt8):List Xo×List UInt8:=match h:XF D r with|T (c,r2)=>if c.turn=(turn:Int)then(c::(Kx D (turn+1) r2).1,(Kx D (turn+1) r2).2)else([],r)|none=>([],r)termination_by r.length decreasing_by
 all_goals obtain⟨m,h1,h2,h3,_⟩:=Br h;rw[h3,oG];omega
theorem IS{D:List UInt8->List UInt8}{turn:Nat}{r r2:List UInt8}{c:Xo}(h:XF D r=T (c,r2))(ht:c.turn=(turn:Int)):Kx D turn r=(c::(Kx D (turn+1) r2).1,(Kx D (turn+1) r2).2):=by
 rw[Kx];split;·next c' r' h'=>rw[h]at h';simp only[tV,sH]at h';obtain⟨rfl,rfl⟩:=h';rw[if_pos ht]
 ·next h'=>rw[h]at h';cases h'
theorem WG{D:List UInt8->List UInt8}{turn:Nat}{r r2:List UInt8}{c:Xo}(h:XF D r=T (c,r2))(ht:c.turn≠(turn:Int)):Kx D turn r=([],r):=by
 rw[Kx];split;·next c' r' h'=>rw[h]at h';simp only[tV,sH]at h';obtain⟨rfl,rfl⟩:=h';rw[if_neg ht]
 ·rfl
theorem TN{D:List UInt8->List UInt8}{turn:Nat}{r:List UInt8}(h:XF D r=V):Kx D turn r=([],r):=by
 rw[Kx];split;·next c' r' h'=>rw[h]at h';cases h'
 ·rfl
theorem Ig(D:List UInt8->List UInt8):XF D []=V:=by
 unfold XF;rw[if_pos (by simp)]
def zA:Nat->List Xo->Prop|_,[]=>True|t,c::cs=>c.turn=(t:Int)∧QU c=0∧zA (t+1) cs
theorem zA.take:∀{t:Nat}{cs:List Xo}(_:zA t cs)(j:Nat),zA t (cs.take j)|_,[],_,j=>by rw[oL];trivial|_,c::cs,_,0=>trivial|t,c::cs,h,j+1=>⟨h.1,h.2.1,zA.take h.2.2 j⟩
def QR(D:List UInt8->List UInt8)(cs:List Xo):List UInt8:=cs.flatMap (ZA D)
theorem KG(D:List UInt8->List UInt8)(c:Xo)(cs:List Xo):QR D (c::cs)=ZA D c++QR D cs:=rO
theorem VB(D:List UInt8->List UInt8)(a b:List Xo):QR D (a++b)=QR D a++QR D b:=List.flatMap_append
theorem Pm(D:List UInt8->List UInt8)(c:Xo):QR D [c]=ZA D c:=by
 simp[QR]
def Dc(D:List UInt8->List UInt8)(r:List UInt8):Nat:=r.length-(Kx D 1 r).2.length
theorem Cz{D:List UInt8->List UInt8}(hD:∀x,(D x).length=4):∀{t:Nat}{cs:List Xo}(_:zA t cs)(k:Nat),∃j,j<=cs.length∧Kx D t ((QR D cs).take k)=(cs.take j,((QR D cs).take k).drop (QR D (cs.take j)).length)∧(QR D (cs.take j)).length<=k∧(QR D (cs.take j)).length<=(QR D cs).length∧(j<cs.length->k<(QR D (cs.take (j+1))).length)|t,[],_,k=>⟨0,by simp,by show Kx D t (([]:List UInt8).take k)=_;rw[oL,TN (Ig D)];simp[QR],by simp[QR],by simp[QR],fun h=>by simp at h⟩|t,c::cs,h,k=>by by_cases a:k<(ZA D c).length;(·refine⟨0,by simp,?_,by simp[QR],by simp[QR],fun _=>?_⟩;(·rw[KG,pE (by omega),TN (Sz hD h.2.1 k a)];simp[QR]);·show k<(QR D [c]).length;rw[Pm];exact a);·obtain⟨j,g,b,i,l,d⟩:=Cz hD h.2.2 (k-(ZA D c).length);(have f:(QR D (c::cs)).take k=ZA D c++(QR D cs).take (k-(ZA D c).length):=by rw[KG,List.take_append,pM (by omega)]);refine⟨j+1,by simp;omega,?_,?_,?_,fun e=>?_⟩;(·rw[f,IS (Bk hD h.2.1 _) h.1,b,sL,KG];rw[tF,<-List.drop_drop,rV rfl]);(·rw[sL,KG,tF];omega);(·rw[sL,KG,KG,tF,tF];omega);·have:=d (by simpa using e);rw[sL,KG,tF];omega
theorem UY(D:List UInt8->List UInt8)(cs:List Xo)(i j:Nat)(h:i<=j):(QR D (cs.take i)).length<=(QR D (cs.take j)).length:=by
 have:cs.take i=(cs.take j).take i:=by rw[List.take_take,oJ h]
 rw[this];conv=>rhs;rw[<-tL i (cs.take j),VB]
 rw[tF];omega
theorem Rn{D:List UInt8->List UInt8}{cs:List Xo}{k j i:Nat}(hi:i<=cs.length)(hj:j<cs.length->k<(QR D (cs.take (j+1))).length)(hk:(QR D (cs.take i)).length<=k):i<=j:=by
 by_cases h:i<=j;·exact h
 ·have:=UY D cs (j+1) i (by omega);have:=hj (by omega);omega
theorem EC(t:PL)(p:Pr)(h:∀q∈t,(1<=q.1.length∧q.1.length<=16)∧q.2.length<=32)(hp:(1<=p.1.length∧p.1.length<=16)∧p.2.length<=32):∀q∈JB t p,(1<=q.1.length∧q.1.length<=16)∧q.2.length<=32:=by
 intro q a;rcases Mc t p q a with rfl|a;·exact hp
 ·exact h q a
theorem Lv:∀(t:PL)(p:Pr)(k:Nat),k<=t.length->(∀j,j<k->YE (t.getD j ([],[])).1 p.1=tD)->(k<t.length->YE (t.getD k ([],[])).1 p.1=tH)->JB t p=if k<t.length∧(t.getD k ([],[])).1=p.1then t.set k p else t.take k++([p]++t.drop k)|[],p,k,a,_,_=>by(obtain rfl:k=0:=by simpa using a);simp[JB]|q::r,p,0,_,_,h2=>by have h:=h2 (by simp);simp only[sC]at h;rw[JB,if_neg (by rw[h];simp)];by_cases e:q.1=p.1;(·rw[if_pos e,if_pos ⟨by simp,by simpa using e⟩];simp);·rw[if_neg e,if_neg (fun h=>e (by simpa using h.2))];simp|q::r,p,k+1,a,h1,h2=>by have h:=h1 0 (by omega);simp only[sC]at h;rw[JB,if_pos h,Lv r p k (by simpa using a) (fun j b=>by simpa using h1 (j+1) (by omega)) (fun a=>by simpa using h2 (by simpa using a))];by_cases e:k<r.length∧(r.getD k ([],[])).1=p.1;(·rw[if_pos e,if_pos ⟨by simpa using e.1,by simpa using e.2⟩];simp);·rw[if_neg e,if_neg (fun h=>e ⟨by simpa using h.1,by simpa using h.2⟩)];simp
theorem bW(t:PL)(p:Pr)(h:Zy t)(hp:(1<=p.1.length∧p.1.length<=16)∧p.2.length<=32)(hl:t.length<60):Kb t p=0∧Vo t p=JB t p∧Zy (JB t p):=by
 have c:VZ t p=0:=by rw[VZ,if_pos ((YP t).2 h)];exact(Jv p).2 hp
 have b:=dD t p;have a:Kb t p=0:=by rw[Kb,if_pos c,if_neg (by omega)]
 exact⟨a,by rw[Vo,if_pos a],⟨by omega,EC t p h.pairs hp,Pb t p h.rises⟩⟩
def OD(m:Nat)(l:FL):Prop:=∀n,(Yi l n).length<=m
theorem Wb:OD 0 []:=fun n=>by
 rw[fN];simp
theorem eA{l:FL}{m:Nat}(h:ZN l){w:Q8}(hw:Qx w=0)(hs:OD m l)(hm:m<60):qF l w=0:=by
 obtain⟨_,c,d⟩:=(XK w).1 hw;have a:=J4 h w.name;have e:=hs w.name;unfold qF;by_cases b:w.gone=tD;·rw[if_pos b];exact jH a c
 ·rw[if_neg b]at d⊢;exact(bW _ _ a ⟨c,d⟩ (by omega)).1
theorem F9{l:FL}{m:Nat}(h:ZN l){w:Q8}(hw:Qx w=0)(hs:OD m l)(hm:m<60):XJ l w=if 8<(Ze l w).length then 11 else 0:=by
 rw[XJ,if_pos (eA h hw hs hm)]
theorem M2(l:FL)(w:Q8):(Ze l w).length<=l.length+1:=by
 unfold Ze;by_cases a:(XU l w).length=0;·rw[if_pos a];have:=Nl l w.name;omega
 ·rw[if_neg a];exact Wl _ _
theorem Cq{l:FL}(h:ZN l)(w:Q8)(n k:List UInt8):Uy (Yi (Ze l w) n) k=if w.name=n∧w.key=k then(if w.gone=tD then V else T w.value)else Uy (Yi l n) k:=by
 rw[Sd h.rises];by_cases e:w.name=n;·subst e;rw[if_pos rfl];unfold XU;by_cases b:w.gone=tD;(·rw[if_pos b,if_pos b,dF];by_cases a:w.key=k;(·rw[if_pos a,if_pos ⟨rfl,a⟩]);·rw[if_neg a,if_neg (fun h=>a h.2)]);·rw[if_neg b,if_neg b,dZ _ _ _ (J4 h _).rises];by_cases a:w.key=k;(·rw[if_pos a,if_pos ⟨rfl,a⟩]);·rw[if_neg a,if_neg (fun h=>a h.2)]
 ·rw[if_neg e,if_neg (fun h=>e h.1)]
theorem vF:∀(ws:List Q8)(l:FL),ZN l->ZK l ws=0->ZN (YI l ws)|[],l,h,_=>h|w::ws,l,h,he=>by rw[ZK]at he;by_cases b:Qx w=0;(·rw[if_pos b]at he;by_cases a:XJ l w=0;(·rw[if_pos a]at he;exact vF ws _ (V2 h b a) he);·rw[if_neg a]at he;exact absurd he a);·rw[if_neg b]at he;exact absurd he b
def GJ(l:FL)(n:List UInt8):Int:=if Q4 l=0then Qs n.length else Q4 l
theorem fT{l:FL}{n:List UInt8}(h:ZN l)(hn:1<=n.length∧n.length<=8):GJ l n=0:=by
 rw[GJ,if_pos ((Xi l).2 h)];exact(Zl _).2 hn
theorem qW{l:FL}{n:List UInt8}(h:GJ l n=0):ZN l∧(1<=n.length∧n.length<=8):=by
 unfold GJ at h;by_cases a:Q4 l=0;·rw[if_pos a]at h;exact⟨(Xi l).1 a,(Zl _).1 h⟩
 ·rw[if_neg a]at h;exact absurd h a
def U2(l:FL)(n k:List UInt8):Int:=if GJ l n=0then Xc (Yi l n) k else GJ l n
def Uo(l:FL)(n k:List UInt8):Bool:=if GJ l n=0then Tk (Yi l n) k else tH
def Ut(l:FL)(n k:List UInt8):List UInt8:=if GJ l n=0then TO (Yi l n) k else[]
theorem dG{l:FL}(h:ZN l)(n k:List UInt8)(hn:1<=n.length∧n.length<=8)(hk:1<=k.length∧k.length<=16):U2 l n k=0∧Uo l n k=(Uy (Yi l n) k).isSome∧Ut l n k=(Uy (Yi l n) k).getD []:=by
 have a:=fT h hn;have b:=jH (J4 h n) hk;refine⟨by rw[U2,if_pos a,b],by rw[Uo,if_pos a,Tk,b];rfl,by rw[Ut,if_pos a,TO,if_pos b]⟩
def Yx(l:FL)(n f t:List UInt8):Int:=if GJ l n=0then Yw (Yi l n) f t else GJ l n
def Kd(l:FL)(n f t:List UInt8):PL:=if GJ l n=0then KH (Yi l n) f t else[]
structure Rq where
  kind : Int
  name : List UInt8
  key : List UInt8
  last : List UInt8
  value : List UInt8
def V6:Rq:=⟨0,[],[],[],[]⟩
def QS(k:Int):Bool:=tN (2<=k∧k<=5)||tN (k=8)
def yX(r:Rq):Int:=if QS r.kind=tD then(if Qs r.name.length=0then(if Qn r.key.length=0then(if r.kind=3then Qn r.last.length else 0)else Qn r.key.length)else Qs r.name.length)else 0
def RI(r:Rq):Int:=if QS r.kind=tH∧0<r.name.length+r.key.length then 4 else if(r.kind≠3∧0<r.last.length)∨(r.kind≠4∧0<r.value.length)then 4 else 0
def Yf(r:Rq):Int:=if 1<=r.kind∧r.kind<=8then(if yX r=0then(if 32<r.value.length then 1 else RI r)else yX r)else 5
structure JI(r:Rq):Prop where kind:1<=r.kind∧r.kind<=8name:QS r.kind=tD->1<=r.name.length∧r.name.length<=8key:QS r.kind=tD->1<=r.key.length∧r.key.length<=16last:r.kind=3->1<=r.last.length∧r.last.length<=16value:r.value.length<=32noName:QS r.kind=tH->r.name=[]noKey:QS r.kind=tH->r.key=[]noLast:r.kind≠3->r.last=[]noValue:r.kind≠4->r.value=[]
theorem Fm(r:Rq):yX r=0↔(QS r.kind=tD->(1<=r.name.length∧r.name.length<=8)∧(1<=r.key.length∧r.key.length<=16)∧(r.kind=3->1<=r.last.length∧r.last.length<=16)):=by
 unfold yX;by_cases h:QS r.kind=tD;·rw[if_pos h];by_cases a:Qs r.name.length=0;(·rw[if_pos a];by_cases b:Qn r.key.length=0;(·rw[if_pos b];by_cases c:r.kind=3;(·rw[if_pos c,Zs];exact⟨fun e _=>⟨(Zl _).1 a,(Zs _).1 b,fun _=>e⟩,fun e=>(e h).2.2 c⟩);·rw[if_neg c];exact⟨fun _ _=>⟨(Zl _).1 a,(Zs _).1 b,fun e=>absurd e c⟩,fun _=>rfl⟩);·rw[if_neg b];exact⟨fun e=>absurd e b,fun e=>(Zs _).2 (e h).2.1⟩);·rw[if_neg a];exact⟨fun e=>absurd e a,fun e=>(Zl _).2 (e h).1⟩
 ·rw[if_neg h];exact⟨fun _ e=>absurd e h,fun _=>rfl⟩
theorem Wn{l:List UInt8}(h:¬0<l.length):l=[]:=tG (by
 omega)
theorem AH(r:Rq):RI r=0↔(QS r.kind=tH->r.name=[]∧r.key=[])∧(r.kind≠3->r.last=[])∧(r.kind≠4->r.value=[]):=by
 unfold RI;by_cases b:QS r.kind=tH∧0<r.name.length+r.key.length;·rw[if_pos b];refine⟨fun e=>(by cases e),fun e=>?_⟩;have:=e.1 b.1;rw[this.1,this.2]at b;simp at b
 ·rw[if_neg b];by_cases a:(r.kind≠3∧0<r.last.length)∨(r.kind≠4∧0<r.value.length);(·rw[if_pos a];refine⟨fun e=>(by cases e),fun e=>?_⟩;rcases a with a|a;(·rw[e.2.1 a.1]at a;simp at a);·rw[e.2.2 a.1]at a;simp at a);·rw[if_neg a];refine⟨fun _=>⟨fun h=>?_,fun h=>Wn fun e=>a (.inl ⟨h,e⟩),fun h=>Wn fun e=>a (.inr ⟨h,e⟩)⟩,fun _=>rfl⟩;have c:¬0<r.name.length+r.key.length:=fun e=>b ⟨h,e⟩;exact⟨Wn (by omega),Wn (by omega)⟩
theorem Vx(r:Rq):Yf r=0↔JI r:=by
 unfold Yf;by_cases a:1<=r.kind∧r.kind<=8;·rw[if_pos a];by_cases b:yX r=0;(·rw[if_pos b];have c:=(Fm r).1 b;by_cases f:32<r.value.length;(·rw[if_pos f];exact⟨fun e=>(by cases e),fun e=>by have:=e.value;omega⟩);·rw[if_neg f,AH];refine⟨fun⟨d,g,i⟩=>⟨a,fun h=>(c h).1,fun h=>(c h).2.1,fun h=>(c (by rw[h];decide)).2.2 h,by omega,fun h=>(d h).1,fun h=>(d h).2,g,i⟩,fun e=>⟨fun h=>⟨e.noName h,e.noKey h⟩,e.noLast,e.noValue⟩⟩);·rw[if_neg b];refine⟨fun e=>absurd e b,fun e=>(Fm r).2 fun h=>⟨e.name h,e.key h,e.last⟩⟩
 ·rw[if_neg a];exact⟨fun e=>(by cases e),fun e=>absurd e.kind a⟩
def Xl(c:Bool)(p:List UInt8):List UInt8:=if c=tD then XM p else[]
def Jh(c:Bool)(r:List UInt8):Option (List UInt8×List UInt8):=if c=tD then Zr r else T ([],r)
theorem yT(c:Bool)(p r:List UInt8)(h:c=tD->p.length<256)(h0:c=tH->p=[]):Jh c (Xl c p++r)=T (p,r):=by
 cases c with|true=>exact Vq p r (h rfl)|false=>rw[h0 rfl];rfl
theorem VO{c:Bool}{r p r2:List UInt8}(h:Jh c r=T (p,r2)):r=Xl c p++r2:=by
 cases c with|true=>exact Gl h|false=>(obtain⟨rfl,rfl⟩:[]=p∧r=r2:=by simpa[Jh]using h);rfl
theorem jJ{c:Bool}{r p r2:List UInt8}(h:Jh c r=T (p,r2))(x:List UInt8):Jh c (r++x)=T (p,r2++x):=by
 cases c with|true=>exact Bz h x|false=>(obtain⟨rfl,rfl⟩:[]=p∧r=r2:=by simpa[Jh]using h);rfl
theorem WC{c:Bool}{r p r2:List UInt8}(h:Jh c r=T (p,r2))(hc:c=tH):p=[]:=by
 subst hc;have:[]=p∧r=r2:=by simpa[Jh]using h
 exact this.1.symm
def zT(r:Rq):List UInt8:=Xl (QS r.kind) r.name++(Xl (QS r.kind) r.key++(Xl (tN (r.kind=3)) r.last++Xl (tN (r.kind=4)) r.value))
def XH(r:Rq):List UInt8:=tK r.kind.toNat::zT r
def Vj(k:Int)(n q l r:List UInt8):Option (Rq×List UInt8):=match Jh (tN (k=4)) r with|T (v,r2)=>T (⟨k,n,q,l,v⟩,r2)|none=>V
def Vk(k:Int)(n q r:List UInt8):Option (Rq×List UInt8):=match Jh (tN (k=3)) r with|T (l,r2)=>Vj k n q l r2|none=>V
def Vi(k:Int)(n r:List UInt8):Option (Rq×List UInt8):=match Jh (QS k) r with|T (q,r2)=>Vk k n q r2|none=>V
def Yb(k:Int)(r:List UInt8):Option (Rq×List UInt8):=match Jh (QS k) r with|T (n,r2)=>Vi k n r2|none=>V
theorem ER{r:Rq}(h:JI r)(x:List UInt8):Yb r.kind (zT r++x)=T (r,x):=by
 have a:=yT (QS r.kind) r.name (Xl (QS r.kind) r.key++(Xl (tN (r.kind=3)) r.last++(Xl (tN (r.kind=4)) r.value++x))) (fun e=>by have:=h.name e;omega) h.noName;have b:=yT (QS r.kind) r.key (Xl (tN (r.kind=3)) r.last++(Xl (tN (r.kind=4)) r.value++x)) (fun e=>by have:=h.key e;omega) h.noKey;have c:=yT (tN (r.kind=3)) r.last (Xl (tN (r.kind=4)) r.value++x) (fun e=>by have:=h.last (by simpa using e);omega) (fun e=>h.noLast (by simpa using e));have d:=yT (tN (r.kind=4)) r.value x (fun _=>by have:=h.value;omega) (fun e=>h.noValue (by simpa using e));rw[zT,tJ,tJ,tJ,Yb,a];show Vi _ _ _=_;rw[Vi,b];show Vk _ _ _ _=_;rw[Vk,c];show Vj _ _ _ _ _=_;rw[Vj,d]
theorem kX{k:Int}{b x:List UInt8}{r:Rq}(h:Yb k b=T (r,x)):r.kind=k∧∃r1 r2 r3,Jh (QS k) b=T (r.name,r1)∧Jh (QS k) r1=T (r.key,r2)∧Jh (tN (k=3)) r2=T (r.last,r3)∧Jh (tN (k=4)) r3=T (r.value,x):=by
 rw[Yb]at h;match h1:Jh (QS k) b with|none=>rw[h1]at h;cases h|T (n,r1)=>rw[h1]at h;replace h:Vi k n r1=T (r,x):=h;rw[Vi]at h;match h2:Jh (QS k) r1 with|none=>rw[h2]at h;cases h|T (q,r2)=>rw[h2]at h;replace h:Vk k n q r2=T (r,x):=h;rw[Vk]at h;match h3:Jh (tN (k=3)) r2 with|none=>rw[h3]at h;cases h|T (l,r3)=>rw[h3]at h;replace h:Vj k n q l r3=T (r,x):=h;rw[Vj]at h;match h4:Jh (tN (k=4)) r3 with|none=>rw[h4]at h;cases h|T (v,r4)=>rw[h4]at h;(obtain⟨rfl,rfl⟩:(⟨k,n,q,l,v⟩:Rq)=r∧r4=x:=by simpa using h);exact⟨rfl,r1,r2,r3,rfl,h2,h3,h4⟩
theorem bZ{k:Int}{b r1 r2 r3 x n q l v:List UInt8}(h1:Jh (QS k) b=T (n,r1))(h2:Jh (QS k) r1=T (q,r2))(h3:Jh (tN (k=3)) r2=T (l,r3))(h4:Jh (tN (k=4)) r3=T (v,x)):Yb k b=T (⟨k,n,q,l,v⟩,x):=by
 rw[Yb,h1];show Vi _ _ _=_;rw[Vi,h2];show Vk _ _ _ _=_;rw[Vk,h3];show Vj _ _ _ _ _=_;rw[Vj,h4]
theorem Tl{k:Int}{b x:List UInt8}{r:Rq}(h:Yb k b=T (r,x)):b=zT r++x∧r.kind=k:=by
 obtain⟨a,g,i,j,c,d,e,f⟩:=kX h;refine⟨?_,a⟩;rw[zT,a,VO c,VO d,VO e,VO f];simp[tJ]
theorem Hq{k:Int}{b y:List UInt8}{r:Rq}(h:Yb k b=T (r,y))(x:List UInt8):Yb k (b++x)=T (r,y++x):=by
 obtain⟨f,g,i,j,a,c,d,e⟩:=kX h;have:=bZ (jJ a x) (jJ c x) (jJ d x) (jJ e x);rw[this,<-f]
def Uq(b:List UInt8):Int:=((b.getD 0 0).toNat:Int)
def Xx(b:List UInt8):Int:=if 4000<b.length then 1 else if b.length=0then 14 else if 1<=Uq b∧Uq b<=8then(match Yb (Uq b) (b.drop 1)with|none=>14|T (r,x)=>if x.length=0then Yf r else 4)else 5
def JF(b:List UInt8):Rq:=if Xx b=0then(match Yb (Uq b) (b.drop 1)with|T (r,_)=>r|none=>V6)else V6
theorem E8{r:Rq}(h:JI r)(x:List UInt8):Uq (XH r++x)=r.kind∧(XH r++x).drop 1=zT r++x:=by
 have a:=h.kind;refine⟨?_,rfl⟩;show(((tK r.kind.toNat).toNat:Nat):Int)=r.kind;simp;omega
theorem KW(c:Bool)(p:List UInt8):(Xl c p).length<=p.length+1:=by
 cases c with|true=>exact sF _|false=>exact Nat.zero_le _
theorem F6{r:Rq}(h:JI r):(XH r).length<=78∧1<=(XH r).length:=by
 have f:=KW (QS r.kind) r.name;have g:=KW (QS r.kind) r.key;have i:=KW (tN (r.kind=3)) r.last;have j:=KW (tN (r.kind=4)) r.value;have a:r.name.length<=8:=by by_cases e:QS r.kind=tD;(·exact(h.name e).2);·rw[h.noName (by simpa using e)];simp
 have b:r.key.length<=16:=by by_cases e:QS r.kind=tD;(·exact(h.key e).2);·rw[h.noKey (by simpa using e)];simp
 have c:r.last.length<=16:=by by_cases e:r.kind=3;(·exact(h.last e).2);·rw[h.noLast e];simp
 have d:=h.value;have e:(XH r).length=1+(Xl (QS r.kind) r.name).length+(Xl (QS r.kind) r.key).length+(Xl (tN (r.kind=3)) r.last).length+(Xl (tN (r.kind=4)) r.value).length:=by rw[XH,zT,pC,tF,tF,tF];omega
 omega
theorem Rg{r:Rq}(h:JI r):Xx (XH r)=0∧JF (XH r)=r:=by
 have d:=F6 h;obtain⟨a,b⟩:=E8 h [];rw[sA]at a b;have c:=ER h [];have e:Xx (XH r)=0:=by rw[Xx,if_neg (by omega),if_neg (by omega),a,if_pos h.kind,b,c];show(if([]:List UInt8).length=0then Yf r else 4)=0;rw[if_pos (by simp)];exact(Vx r).2 h
 refine⟨e,?_⟩;rw[JF,if_pos e,a,b,c]
theorem iA{r:Rq}(h:JI r)(k:Nat)(hk:k<(XH r).length):Xx ((XH r).take k)=14:=by
 have j:=F6 h;have e:((XH r).take k).length=k:=by rw[List.length_take];omega
 rw[Xx,if_neg (by omega)];by_cases c:k=0;·rw[if_pos (by omega)]
 ·rw[if_neg (by omega)];have l:(XH r).take k++(XH r).drop k=XH r:=tL _ _;(have a:Uq ((XH r).take k)=r.kind:=by obtain⟨b,_⟩:=E8 h [];rw[sA]at b;rw[<-b];match k,c with|k+1,_=>rfl);rw[a,if_pos h.kind];match hD:Yb r.kind (((XH r).take k).drop 1)with|none=>rfl|T (r',y)=>have f:=Hq hD ((XH r).drop k);(have g:((XH r).take k).drop 1++(XH r).drop k=zT r:=by match k,c with|k+1,_=>show(zT r).take k++(zT r).drop k=zT r;exact tL _ _);rw[g]at f;have d:=ER h [];rw[sA,f]at d;(have i:y++(XH r).drop k=[]:=by have:=congrArg (fun o=>o.map Prod.snd) d;simpa using this);have:=congrArg List.length i;rw[tF,oG]at this;simp at this;omega
theorem EX{b:List UInt8}(h:Xx b=0):Yf (JF b)=0∧XH (JF b)=b:=by
 have j:=h;rw[Xx]at h;by_cases f:4000<b.length;·rw[if_pos f]at h;cases h
 ·rw[if_neg f]at h;by_cases a:b.length=0;(·rw[if_pos a]at h;cases h);·rw[if_neg a]at h;by_cases g:1<=Uq b∧Uq b<=8;(·rw[if_pos g]at h;match hD:Yb (Uq b) (b.drop 1)with|none=>rw[hD]at h;cases h|T (r,x)=>rw[hD]at h;replace h:(if x.length=0then Yf r else 4)=0:=h;by_cases d:x.length=0;(·rw[if_pos d]at h;(have k:JF b=r:=by rw[JF,if_pos j,hD]);rw[k];refine⟨h,?_⟩;obtain⟨e,i⟩:=Tl hD;rw[tG d,sA]at e;rw[XH,<-e,i];match b,a with|c::b,_=>show tK ((c.toNat:Nat):Int).toNat::b=c::b;simp);·rw[if_neg d]at h;cases h);·rw[if_neg g]at h;cases h
theorem jI{b:List UInt8}(h:Xx b≠0):JF b=V6:=by
 rw[JF,if_neg h]
def Uh(r:Rq):Int:=if Yf r=0then(if r.kind=2∨r.kind=3then 0 else 7)else Yf r
def Q9(r:Rq):Rd:=if Uh r=0then⟨r.name,r.key,tN (r.kind=3),r.last⟩else Zf
def YN(r:Rq):Int:=if Yf r=0then(if r.kind=4∨r.kind=5then 0 else 7)else Yf r
def ZW(r:Rq):Q8:=if YN r=0then⟨r.name,r.key,r.value,tN (r.kind=5)⟩else Qo
theorem OY{r:Rq}(h:Uh r=0):Xr (Q9 r)=0:=by
 have f:=h;unfold Uh at h;by_cases b:Yf r=0;·rw[if_pos b]at h;have d:=(Vx r).1 b;by_cases a:r.kind=2∨r.kind=3;(·(have e:QS r.kind=tD:=by rcases a with a|a<;>rw[a]<;>decide);rw[Q9,if_pos f,Em];refine⟨d.name e,d.key e,?_⟩;show if tN (r.kind=3)=tD then _ else _;by_cases c:r.kind=3;(·rw[if_pos (by simpa using c)];exact d.last c);·rw[if_neg (by simpa using c)];exact d.noLast c);·rw[if_neg a]at h;cases h
 ·rw[if_neg b]at h;exact absurd h b
theorem Ey{r:Rq}(h:YN r=0):Qx (ZW r)=0:=by
 have f:=h;unfold YN at h;by_cases b:Yf r=0;·rw[if_pos b]at h;have c:=(Vx r).1 b;by_cases a:r.kind=4∨r.kind=5;(·(have e:QS r.kind=tD:=by rcases a with a|a<;>rw[a]<;>decide);rw[ZW,if_pos f,XK];refine⟨c.name e,c.key e,?_⟩;show if tN (r.kind=5)=tD then _ else _;by_cases d:r.kind=5;(·rw[if_pos (by simpa using d)];exact c.noValue (by omega));·rw[if_neg (by simpa using d)];exact c.value);·rw[if_neg a]at h;cases h
 ·rw[if_neg b]at h;exact absurd h b
theorem EF{r:Rq}(h:JI r):Uh r=(if r.kind=2∨r.kind=3then 0 else 7)∧YN r=(if r.kind=4∨r.kind=5then 0 else 7):=by
 have:=(Vx r).2 h;exact⟨by rw[Uh,if_pos this],by rw[YN,if_pos this]⟩
def Oi(l:List Ac):List UInt8:=l.flatMap fun a=>iZ a++[10]
def K9:Nat->List Ac->Option (Nat×Int)|_,[]=>V|n,a::l=>if Y0 a=0then K9 (n+1) l else T (n,Y0 a)
def Gf(l:List Ac):Int:=if 100000<l.length then 1 else match K9 0 l with|none=>0|T (_,e)=>e
def PM(l:List Ac):Nat:=if 100000<l.length then 0 else match K9 0 l with|none=>0|T (i,_)=>i
def Fc(l:List Ac):List UInt8:=if Gf l=0then Oi l else[]
theorem E9:∀(l:List Ac)(n:Nat),K9 n l=V↔∀a∈l,XT a|[],_=>by simp[K9]|a::l,n=>by rw[K9];by_cases b:Y0 a=0;(·rw[if_pos b,E9 l (n+1)];simp only[tY,forall_eq_or_imp];exact⟨fun h=>⟨(uD a).1 b,h⟩,fun h=>h.2⟩);·rw[if_neg b];exact⟨fun h=>(by cases h),fun h=>absurd ((uD a).2 (h a (by simp))) b⟩
theorem Hi(l:List Ac)(m:Nat)(hm:m<l.length):K9 m (l.drop m)=if Y0 (l.getD m UR)=0then K9 (m+1) (l.drop (m+1))else T (m,Y0 (l.getD m UR)):=by
 rw[sI hm,K9,show l[m]=l.getD m UR by simp[hm]]
theorem i7{l:List Ac}(h:∀a∈l,XT a)(hl:l.length<=100000):Gf l=0∧PM l=0∧Fc l=Oi l:=by
 have b:=(E9 l 0).2 h;have c:Gf l=0:=by rw[Gf,if_neg (by omega),b]
 exact⟨c,by rw[PM,if_neg (by omega),b],by rw[Fc,if_pos c]⟩
theorem LY{l:List Ac}(h:100000<l.length):Gf l=1∧PM l=0∧Fc l=[]:=by
 have e:Gf l=1:=by rw[Gf,if_pos h]
 exact⟨e,by rw[PM,if_pos h],by rw[Fc,e,if_neg (by decide)]⟩
theorem Tj{l:List Ac}(h:l.length<=100000)(hb:K9 0 l=V):Gf l=0∧PM l=0∧Fc l=Oi l:=by
 have e:Gf l=0:=by rw[Gf,if_neg (by omega),hb]
 exact⟨e,by rw[PM,if_neg (by omega),hb],by rw[Fc,if_pos e]⟩
theorem aR{l:List Ac}(h:l.length<=100000){i:Nat}{e:Int}(hb:K9 0 l=T (i,e))(he:e≠0):Gf l=e∧PM l=i∧Fc l=[]:=by
 have a:Gf l=e:=by rw[Gf,if_neg (by omega),hb]
 exact⟨a,by rw[PM,if_neg (by omega),hb],by rw[Fc,a,if_neg he]⟩
theorem eF{l:List Ac}{m:Nat}(hm:m<l.length)(hb:K9 0 l=K9 m (l.drop m)):(Y0 (l.getD m UR)=0->K9 0 l=K9 (m+1) (l.drop (m+1)))∧(Y0 (l.getD m UR)≠0->K9 0 l=T (m,Y0 (l.getD m UR))):=by
 rw[hb,Hi l m hm];exact⟨fun h=>by rw[if_pos h],fun h=>by rw[if_neg h]⟩
def Ux(w:tA)(v:tE)(r:Rq):Prop:=∃vn vk vl vv,v=oC #[tR rH r.kind,vn,vk,vl,vv]∧Qe w vn r.name∧Qe w vk r.key∧Qe w vl r.last∧Qe w vv r.value
theorem Ux.grown{w w':tA}{v:tE}{r:Rq}(h:Ux w v r)(hg:tB w w' V):Ux w' v r:=by
 obtain⟨g,e,f,i,rfl,a,b,c,d⟩:=h;exact⟨g,e,f,i,rfl,a.grown hg,b.grown hg,c.grown hg,d.grown hg⟩
theorem Ux.agg{w:tA}{v:tE}{r:Rq}(h:Ux w v r):∃n1 n2 k1 k2 l1 l2 v1 v2,v=oC #[tR rH r.kind,tP n1 r.name.length n2,tP k1 r.key.length k2,tP l1 r.last.length l2,tP v1 r.value.length v2]:=by
 obtain⟨g,e,f,i,rfl,a,b,c,d⟩:=h;obtain⟨n1,n2,rfl⟩:=a.shape;obtain⟨k1,k2,rfl⟩:=b.shape;obtain⟨l1,l2,rfl⟩:=c.shape;obtain⟨v1,v2,rfl⟩:=d.shape;exact⟨n1,n2,k1,k2,l1,l2,v1,v2,rfl⟩
theorem Ux.parts{w:tA}{r:Rq}{x a b c d:tE}(h:Ux w (oC #[x,a,b,c,d]) r):x=tR rH r.kind∧Qe w a r.name∧Qe w b r.key∧Qe w c r.last∧Qe w d r.value:=by
 obtain⟨m,k,l,n,e,f,g,i,j⟩:=h;simp only[Value.agg.injEq,Array.mk.injEq,List.cons.injEq,and_true]at e;obtain⟨rfl,rfl,rfl,rfl,rfl⟩:=e;exact⟨rfl,f,g,i,j⟩
structure yQ(r:Rq):Prop where kind:-9223372036854775808<=r.kind∧r.kind<=9223372036854775807name:r.name.length<=140737488355328key:r.key.length<=140737488355328last:r.last.length<=140737488355328value:r.value.length<=140737488355328
theorem uB{r:Rq}(h:JI r):yQ r:=by
 have a:=h.kind;have b:=h.value;have c:r.name.length<=8:=by by_cases e:QS r.kind=tD;(·exact(h.name e).2);·rw[h.noName (by simpa using e)];simp
 have d:r.key.length<=16:=by by_cases e:QS r.kind=tD;(·exact(h.key e).2);·rw[h.noKey (by simpa using e)];simp
 have f:r.last.length<=16:=by by_cases e:r.kind=3;(·exact(h.last e).2);·rw[h.noLast e];simp
 exact⟨by omega,by omega,by omega,by omega,by omega⟩
theorem Qt{W w:tA}{b:Nat}{x y z u s:tE}{t:rD}(hg:tB W w V)(h:W.heap[b]?=T (tQ #[x,y,z,u,s] t)):(w.cell? ⟨b,0,V⟩=T x∧w.cell? ⟨b,1,V⟩=T y∧w.cell? ⟨b,2,V⟩=T z∧w.cell? ⟨b,3,V⟩=T u∧w.cell? ⟨b,4,V⟩=T s)∧(w.frozen? ⟨b,0,V⟩=tH∧w.frozen? ⟨b,1,V⟩=tH∧w.frozen? ⟨b,2,V⟩=tH∧w.frozen? ⟨b,3,V⟩=tH∧w.frozen? ⟨b,4,V⟩=tH)∧w.heap[b]?=T (tQ #[x,y,z,u,s] t):=by
 have a:w.heap[b]?=T (tQ #[x,y,z,u,s] t):=by rw[hg.block b (tS.1 h).1 (by simp)];exact h
 refine⟨⟨?_,?_,?_,?_,?_⟩,⟨?_,?_,?_,?_,?_⟩,a⟩;all_goals simp[sE,rC,a]
theorem Yn{w:tA}{b i:Nat}{cs:Array tE}{t:rD}{fz:Nat×Nat}{u:tE}(h:w.heap[b]?=T (tQ cs t fz)):(tM w ⟨b,i,V⟩ u).heap[b]?=T (tQ (cs.setIfInBounds i u) t fz):=by
 simp only[tM,tW,if_true,h,sV];rfl
theorem qV{w:tA}{b c i:Nat}{o:Obj}{u:tE}(h:w.heap[b]?=T o)(hne:b≠c):(tM w ⟨c,i,V⟩ u).heap[b]?=T o:=by
 simp only[tM,tW];rw[if_neg (fun e=>hne e.symm)];exact h
abbrev IW(w:tA)(b:Nat)(x y z u s:tE):tA:=((((tM w ⟨b,0,V⟩ x).setCell ⟨b,1,V⟩ y).setCell ⟨b,2,V⟩ z).setCell ⟨b,3,V⟩ u).setCell ⟨b,4,V⟩ s
theorem uZ{w:tA}{b:Nat}{x y z u s:tE}{t:rD}(h:w.heap[b]?=T (tQ #[x,y,z,u,s] t))(x' y' z' u' s':tE):(IW w b x' y' z' u' s').heap[b]?=T (tQ #[x',y',z',u',s'] t):=Yn (Yn (Yn (Yn (Yn h))))
theorem zM{w W:tA}{b:Nat}(hg:tB w W V)(hb:w.heap.size<=b)(x y z u s:tE):tB w (IW W b x y z u s) V:=Qc (Qc (Qc (Qc (Qc hg _ hb _ _) _ hb _ _) _ hb _ _) _ hb _ _) _ hb _ _
theorem Hf(W:tA)(b:Nat)(x y z u s:tE):tB W (IW W b x y z u s) (T b):=Qf (Qf (Qf (Qf (Qf (Qb W (T b)) _ _) _ _) _ _) _ _) _ _
abbrev V4(w:tA)(b:Nat)(x y z u:tE):tA:=(((tM w ⟨b,0,V⟩ x).setCell ⟨b,1,V⟩ y).setCell ⟨b,2,V⟩ z).setCell ⟨b,3,V⟩ u
theorem X9{w:tA}{b:Nat}{x y z u:tE}{t:rD}(h:w.heap[b]?=T (tQ #[x,y,z,u] t))(x' y' z' u':tE):(V4 w b x' y' z' u').heap[b]?=T (tQ #[x',y',z',u'] t):=Yn (Yn (Yn (Yn h)))
theorem Z8{w W:tA}{b:Nat}(hg:tB w W V)(hb:w.heap.size<=b)(x y z u:tE):tB w (V4 W b x y z u) V:=Qc (Qc (Qc (Qc hg _ hb _ _) _ hb _ _) _ hb _ _) _ hb _ _
theorem Yl(W:tA)(b:Nat)(x y z u:tE):tB W (V4 W b x y z u) (T b):=Qf (Qf (Qf (Qf (Qb W (T b)) _ _) _ _) _ _) _ _
theorem Q7.later{base:Nat}{w w':tA}{v:tE}{bs:List UInt8}(h:Q7 base w v bs){b:Nat}(hg:tB w w' (T b))(hb:b<base):Q7 base w' v bs:=by
 refine h.grown hg (.inr fun e=>?_);have:=(h.lt b e).1;omega
def EZ(i:Nat):Nat:=[0,0,3,7,11,3,0,0,3].getD i 0
def UC(w:tA):Prop:=∀i,i<9->w.cell? ⟨0,i,V⟩=T (tR rN ((EZ i:Nat):Int))
theorem UC.grown{w w':tA}(h:UC w)(hg:tB w w' V):UC w':=fun i hi=>hg.cell (h i hi) (by
 simp)
def QQ(k:Int):Nat->Bool|0=>QS k|1=>QS k|2=>tN (k=3)|_=>tN (k=4)
theorem eH(k j:Nat)(hk:k<9)(hj:j<4):(bits BinOp.and rN ((EZ k:Nat):Int) ((2^j:Nat):Int)!=0)=QQ (k:Int) j:=(by
 decide+kernel:∀(k:Fin 9)(j:Fin 4),(bits BinOp.and rN ((EZ k.1:Nat):Int) ((2^j.1:Nat):Int)!=0)=QQ (k.1:Int) j.1) ⟨k,hk⟩ ⟨j,hj⟩
def yB(r:Rq):List UInt8:=if Yf r=0then XH r else[]
def Oy:Prop:=∀(w:tA)(v:tE)(r:Rq),UC w->Ux w v r->yQ r->pB tI 10 #[v] w fun e w'=>∃x,e=sW (oD #[x,tR rH (Yf r)])∧Qg 0 w' x (yB r)∧tB w w' V
def Yq(w:tA)(v:tE)(r:Rd):Prop:=∃vn vk vl,v=oC #[vn,vk,pT r.wide,vl]∧Qe w vn r.name∧Qe w vk r.key∧Qe w vl r.last
theorem Yq.grown{w w':tA}{v:tE}{r:Rd}(h:Yq w v r)(hg:tB w w' V):Yq w' v r:=by
 obtain⟨f,d,e,rfl,a,b,c⟩:=h;exact⟨f,d,e,rfl,a.grown hg,b.grown hg,c.grown hg⟩
theorem Yq.agg{w:tA}{v:tE}{r:Rd}(h:Yq w v r):∃na nc ka kc la lc,v=oC #[tP na r.name.length nc,tP ka r.key.length kc,pT r.wide,tP la r.last.length lc]:=by
 obtain⟨f,d,e,rfl,a,b,c⟩:=h;obtain⟨na,nc,rfl⟩:=a.shape;obtain⟨ka,kc,rfl⟩:=b.shape;obtain⟨la,lc,rfl⟩:=c.shape;exact⟨na,nc,ka,kc,la,lc,rfl⟩
theorem Yq.parts{w:tA}{r:Rd}{x y g z:tE}(h:Yq w (oC #[x,y,g,z]) r):Qe w x r.name∧Qe w y r.key∧g=pT r.wide∧Qe w z r.last:=by
 obtain⟨i,d,f,e,a,b,c⟩:=h;simp only[Value.agg.injEq,Array.mk.injEq,List.cons.injEq,and_true]at e;obtain⟨rfl,rfl,rfl,rfl⟩:=e;exact⟨a,b,rfl,c⟩
structure PG(r:Rd):Prop where name:r.name.length<=140737488355328key:r.key.length<=140737488355328last:r.last.length<=140737488355328
structure kY where
  bit : Int
  right : Bool
  other : List UInt8
structure Dy where
  empty : Bool
  steps : List kY
  pair : Pr
def S4:kY:=⟨0,tH,[]⟩
def U9:Dy:=⟨tH,[],([],[])⟩
instance:Inhabited kY:=⟨S4⟩
instance:Inhabited Dy:=⟨U9⟩
def Us(l:PL):Nat->Int|0=>999|1=>999|m+2=>if JE (l.getD 0 ([],[])).1 (l.getD (m+1) ([],[])).1<Us l (m+1)then JE (l.getD 0 ([],[])).1 (l.getD (m+1) ([],[])).1 else Us l (m+1)
def Qw(l:PL):Int:=Us l l.length
def Y6(l:PL)(b:Nat)(x:Bool):PL:=l.filter fun q=>ZQ q.1 b==x
theorem DQ(l:PL)(b:Nat)(x:Bool):(Y6 l b x).length<=l.length:=rF _ _
theorem X0{l:PL}(h:Zy l)(b:Nat)(x:Bool):Zy (Y6 l b x):=⟨rK (DQ l b x) h.room,fun p a=>h.pairs p (pD.1 a).1,sZ _ h.rises⟩
theorem DV{l:PL}(h:Zy l)(i j:Nat)(hij:i<j)(hj:j<l.length):0<=JE (l.getD i ([],[])).1 (l.getD j ([],[])).1:=by
 have d:=UN l h.rises i j hij hj;have b:=(h.pairs l[i] (sK (by omega))).1;have c:=(h.pairs l[j] (sK hj)).1;rw[show l[i]=l.getD i ([],[])by simp[show i<l.length by omega]]at b;rw[show l[j]=l.getD j ([],[])by simp[hj]]at c;have:=BS (l.getD i ([],[])).1 (l.getD j ([],[])).1 b.2 c.2;have a:=C1 d;by_cases e:JE (l.getD i ([],[])).1 (l.getD j ([],[])).1<0;·exact absurd (this.1 e) a
 ·omega
theorem PU{l:PL}(h:Zy l):∀m,m<=l.length->0<=Us l m∧(2<=m->Us l m<=144)∧Us l m<=999|0,_=>⟨by simp[Us],by omega,by simp[Us]⟩|1,_=>⟨by simp[Us],by omega,by simp[Us]⟩|m+2,hm=>by have d:=PU h (m+1) (by omega);have b:=DV h 0 (m+1) (by omega) (by omega);have c:=PY (l.getD 0 ([],[])).1 (l.getD (m+1) ([],[])).1;rw[Us];by_cases a:JE (l.getD 0 ([],[])).1 (l.getD (m+1) ([],[])).1<Us l (m+1);(·rw[if_pos a];omega);·rw[if_neg a];omega
theorem Yh{l:PL}(h:Zy l)(h2:2<=l.length):0<=Qw l∧Qw l<=144:=by
 have:=PU h l.length (sF _);exact⟨this.1,this.2.1 h2⟩
theorem RH{l:PL}(_h:Zy l):∀m,2<=m->m<=l.length->∃j,0<j∧j<m∧Us l m=JE (l.getD 0 ([],[])).1 (l.getD j ([],[])).1|0,h,_=>by omega|1,h,_=>by omega|m+2,_,hm=>by rw[Us];by_cases a:JE (l.getD 0 ([],[])).1 (l.getD (m+1) ([],[])).1<Us l (m+1);(·rw[if_pos a];exact⟨m+1,by omega,by omega,rfl⟩);·rw[if_neg a];by_cases b:m=0;(·subst b;have f:=PY (l.getD 0 ([],[])).1 (l.getD (0+1) ([],[])).1;simp only[Us]at a;omega);·obtain⟨j,c,e,d⟩:=RH _h (m+1) (by omega) (by omega);exact⟨j,c,by omega,d⟩
theorem kL{l:PL}(h:Zy l)(h2:2<=l.length):∀x,(Y6 l (Qw l).toNat x).length<l.length:=by
 obtain⟨j,n,b,g⟩:=RH h l.length h2 (sF _);have o:=Yh h h2;have d:ZQ (l.getD 0 ([],[])).1 (Qw l).toNat≠ZQ (l.getD j ([],[])).1 (Qw l).toNat:=by rcases JM (l.getD 0 ([],[])).1 (l.getD j ([],[])).1with⟨e,_⟩|⟨m,e,_,_,d⟩;(·rw[<-g]at e;unfold Qw at o;omega);·(have:(Qw l).toNat=m:=by unfold Qw;omega);rw[this];exact d
 intro x;by_cases i:(Y6 l (Qw l).toNat x).length<l.length;·exact i
 ·(have k:(Y6 l (Qw l).toNat x).length=l.length:=by have:=DQ l (Qw l).toNat x;omega);have a:=List.length_filter_eq_length_iff.1 k;have c:=a l[0] (sK (by omega));have f:=a l[j] (sK b);rw[show l[0]=l.getD 0 ([],[])by simp[show 0<l.length by omega]]at c;rw[show l[j]=l.getD j ([],[])by simp[b]]at f;simp only[beq_iff_eq]at c f;exact absurd (c.trans f.symm) d
def JD(l:PL)(b:Nat):Nat:=(l.takeWhile fun q=>!ZQ q.1 b).length
theorem xR(l:PL):∀m j,0<j->j<m->m<=l.length->Us l m<=JE (l.getD 0 ([],[])).1 (l.getD j ([],[])).1|0,j,_,h,_=>by omega|1,j,h0,h,_=>by omega|m+2,j,h0,h,hm=>by rw[Us];by_cases a:JE (l.getD 0 ([],[])).1 (l.getD (m+1) ([],[])).1<Us l (m+1);(·rw[if_pos a];by_cases e:j=m+1;(·subst e;exact oP _);·have:=xR l (m+1) j h0 (by omega) (by omega);omega);·rw[if_neg a];by_cases e:j=m+1;(·subst e;omega);·exact xR l (m+1) j h0 (by omega) (by omega)
theorem Ph{l:PL}(h:Zy l)(h2:2<=l.length)(j:Nat)(hj:j<l.length)(b:Nat)(hb:b<(Qw l).toNat):ZQ (l.getD 0 ([],[])).1 b=ZQ (l.getD j ([],[])).1 b:=by
 by_cases c:j=0;·subst c;rfl
 ·have f:=xR l l.length j (by omega) hj (sF _);have g:=Yh h h2;rcases JM (l.getD 0 ([],[])).1 (l.getD j ([],[])).1with⟨e,a⟩|⟨m,e,d,a,_⟩;(·exact a b (by omega));·exact a b (by unfold Qw at hb;omega)
theorem No{l:PL}(h:Zy l)(h2:2<=l.length)(i j:Nat)(hij:i<j)(hj:j<l.length)(hi:ZQ (l.getD i ([],[])).1 (Qw l).toNat=tD):ZQ (l.getD j ([],[])).1 (Qw l).toNat=tD:=by
 have g:=UN l h.rises i j hij hj;have n:=DV h i j hij hj;rcases JM (l.getD i ([],[])).1 (l.getD j ([],[])).1with⟨e,_⟩|⟨m,e,k,c,b⟩;·omega
 ·(have f:(Qw l).toNat<=m:=by by_cases a:m<(Qw l).toNat;(·exact absurd ((Ph h h2 i (by omega) m a).symm.trans (Ph h h2 j hj m a)) b);·omega);by_cases d:(Qw l).toNat=m;(·rw[d];have:=F7 _ _ m c b;rw[this];exact g);·rw[<-c _ (by omega)];exact hi
theorem Nr{l:PL}(h:Zy l)(h2:2<=l.length):ZQ (l.getD 0 ([],[])).1 (Qw l).toNat=tH∧ZQ (l.getD (l.length-1) ([],[])).1 (Qw l).toNat=tD:=by
 obtain⟨j,c,d,f⟩:=RH h l.length h2 (sF _);have o:=Yh h h2;have i:=UN l h.rises 0 j c d;rcases JM (l.getD 0 ([],[])).1 (l.getD j ([],[])).1with⟨e,_⟩|⟨m,e,q,p,g⟩;·rw[<-f]at e;unfold Qw at o;omega
 ·(have b:(Qw l).toNat=m:=by unfold Qw;omega);have n:=F7 _ _ m p g;(have a:ZQ (l.getD j ([],[])).1 m=tD:=by rw[n];exact i);refine⟨?_,?_⟩;(·rw[b];cases hx:ZQ (l.getD 0 ([],[])).1 m with|false=>rfl|true=>exact absurd (hx.trans a.symm) g);·by_cases k:j=l.length-1;(·rw[<-k,b];exact a);·exact No h h2 j (l.length-1) (by omega) (by omega) (by rw[b];exact a)
theorem Nj{l:PL}(h:Zy l)(h2:2<=l.length):JE (l.getD 0 ([],[])).1 (l.getD (l.length-1) ([],[])).1=Qw l:=by
 have e:=Yh h h2;obtain⟨a,c⟩:=Nr h h2;rw[Dk _ _ (Qw l).toNat (by omega) (fun b d=>Ph h h2 _ (by omega) b d) (by rw[a,c];simp)];omega
theorem S6:∀(l:PL)(b j:Nat),j<JD l b->ZQ (l.getD j ([],[])).1 b=tH|[],b,j,h=>by simp[JD]at h|p::r,b,j,h=>by cases hk:ZQ p.1 b with|true=>simp[JD,hk]at h|false=>cases j with|zero=>simpa using hk|succ j=>have:=S6 r b j (by unfold JD at h⊢;rw[tT (p:=fun q:Pr=>!ZQ q.1 b) (by simp[hk])]at h;simpa using h);simpa using this
theorem CI:∀(l:PL)(b:Nat),JD l b<l.length->ZQ (l.getD (JD l b) ([],[])).1 b=tD|[],b,h=>by simp at h|p::r,b,h=>by cases hk:ZQ p.1 b with|true=>simp[JD,hk]|false=>(have e:JD (p::r) b=JD r b+1:=by unfold JD;rw[tT (p:=fun q:Pr=>!ZQ q.1 b) (by simp[hk])];simp);rw[e]at h⊢;have:=CI r b (by simpa using h);simpa using this
theorem GN{l:PL}(h:Zy l)(h2:2<=l.length)(j:Nat)(hj:j<l.length):ZQ (l.getD j ([],[])).1 (Qw l).toNat=tN (JD l (Qw l).toNat<=j):=by
 by_cases a:j<JD l (Qw l).toNat;·rw[decide_eq_false (by omega)];exact S6 l _ j a
 ·rw[decide_eq_true (by omega)];have b:=CI l (Qw l).toNat (by omega);by_cases e:j=JD l (Qw l).toNat;(·rw[e];exact b);·exact No h h2 _ j (by omega) hj b
theorem UB{l:PL}(h:Zy l)(h2:2<=l.length):0<JD l (Qw l).toNat∧JD l (Qw l).toNat<l.length:=by
 obtain⟨a,b⟩:=Nr h h2;rw[GN h h2 0 (by omega)]at a;rw[GN h h2 _ (by omega)]at b;simp at a b;omega
theorem kT{l:PL}(h:Zy l)(h2:2<=l.length):Y6 l (Qw l).toNat tH=l.take (JD l (Qw l).toNat):=by
 have g:=UB h h2;have f:=fun j c=>GN h h2 j c;generalize(Qw l).toNat=b at*;generalize JD l b=n at*;have e:l=l.take n++l.drop n:=(tL n l).symm;rw[Y6];conv=>lhs;rw[e]
 rw[sO,tU.2,sP.2,sA];·intro q d;obtain⟨j,c,rfl⟩:=tC.1 d;(have a:n+j<l.length:=by simp at c;omega);rw[sS,show l[n+j]=l.getD (n+j) ([],[])by simp[a],f _ a];simp
 ·intro q d;obtain⟨j,c,rfl⟩:=tC.1 d;(have a:j<n:=by simp at c;omega);rw[sJ,show l[j]'(by omega)=l.getD j ([],[])by simp[show j<l.length by omega],f _ (by omega)];simp[a]
theorem Py{l:PL}(h:Zy l)(h2:2<=l.length):Y6 l (Qw l).toNat tD=l.drop (JD l (Qw l).toNat):=by
 have g:=UB h h2;have f:=fun j c=>GN h h2 j c;generalize(Qw l).toNat=b at*;generalize JD l b=n at*;have e:l=l.take n++l.drop n:=(tL n l).symm;rw[Y6];conv=>lhs;rw[e]
 rw[sO,sP.2,tU.2,pG];·intro q d;obtain⟨j,c,rfl⟩:=tC.1 d;(have a:n+j<l.length:=by simp at c;omega);rw[sS,show l[n+j]=l.getD (n+j) ([],[])by simp[a],f _ a];simp
 ·intro q d;obtain⟨j,c,rfl⟩:=tC.1 d;(have a:j<n:=by simp at c;omega);rw[sJ,show l[j]'(by omega)=l.getD j ([],[])by simp[show j<l.length by omega],f _ (by omega)];simp[a]
def U(x:BitVec 64):Int:=(x.toNat:Int)
theorem jB(x:BitVec 64):sG 64 (U x)=x:=by
 unfold U;rw[pR];simp
theorem kM(x:BitVec 64):rM.wrap (x.toNat:Int)=U x:=by
 rw[r8];unfold U;have:=x.isLt;omega
theorem Zn(x y:BitVec 64):bits .xor .u64 (U x) (U y)=U (x^^^y):=by
 show rM.wrap ((sG 64 (U x)^^^sG 64 (U y)).toNat:Int)=_;rw[jB,jB,kM]
theorem ET(x y:BitVec 64):bits .or .u64 (U x) (U y)=U (x|||y):=by
 show rM.wrap ((sG 64 (U x)|||sG 64 (U y)).toNat:Int)=_;rw[jB,jB,kM]
theorem Kv(x y:BitVec 64):bits .andNot .u64 (U x) (U y)=U (x&&&~~~y):=by
 show rM.wrap ((sG 64 (U x)&&&~~~sG 64 (U y)).toNat:Int)=_;rw[jB,jB,kM]
theorem JN(x:BitVec 64)(k:Nat):rM.wrap (U x*2^k)=U (x<<<k):=by
 rw[r8];unfold U;rw[BitVec.toNat_shiftLeft,Nat.shiftLeft_eq];have e:((x.toNat:Int)*2^k)=((x.toNat*2^k:Nat):Int):=by simp
 rw[e];omega
theorem Nn(x:BitVec 64)(k:Nat):U x/2^k=U (x>>>k):=by
 unfold U;rw[BitVec.toNat_ushiftRight,Nat.shiftRight_eq_div_pow];simp
theorem gW(k:Int)(h0:0<=k)(h:k<64):bits .and .u64 k 63=k:=by
 obtain⟨n,rfl⟩:=Int.eq_ofNat_of_zero_le h0;show rM.wrap ((sG 64 (n:Int)&&&sG 64 63).toNat:Int)=_;rw[pR,BitVec.toNat_and];have a:(BitVec.ofNat 64 n).toNat=n:=by rw[BitVec.toNat_ofNat];omega
 have b:(sG 64 63).toNat=2^6-1:=by decide
 rw[a,b,Nat.and_two_pow_sub_one_eq_mod,r8];omega
def xL(x:BitVec 64)(k:Nat):BitVec 64:=(x<<<k)|||(x>>>(64-k))
section
theorem Lz(x:BitVec 64)(k:Int)(h0:0<=k)(h:k<64)(w:tA):pB tI 149 #[tR .u64 (U x),tR rH k] w fun e w'=>e=sW (tR .u64 (U (xL x k.toNat)))∧w'=w:=by
 have a:=gW k h0 h;go_enter Tryz.func149,Tryz.ntmps149;go_wp2;go_ret;refine⟨?_,rfl⟩;rw[show(64-k).toNat=64-k.toNat by omega,JN,Nn,ET];rfl
def J7(st:List (BitVec 64)):Array tE:=(st.map fun x=>tR .u64 (U x)).toArray
structure XW (n : Nat) (w : tA) (b : Nat) (st : List (BitVec 64)) : Prop where
  len : st.length = n
  blk : ∃ t, w.heap[b]? = T (tQ (J7 st) t (0, 0))
section
variable{n:Nat}{w:tA}{b:Nat}{st:List (BitVec 64)}
theorem XW.cell(h:XW n w b st)(i:Nat)(hi:i<n):w.cell? ⟨b,i,V⟩=T (tR .u64 (U (st.getD i 0))):=by
 obtain⟨t,a⟩:=h.blk;simp[sE,a,J7,rA,rT (show i<st.length by have:=h.len;omega)]
theorem XW.frozen(h:XW n w b st)(i:Nat):w.frozen? ⟨b,i,V⟩=tH:=by
 obtain⟨t,a⟩:=h.blk;simp[rC,a]
theorem XW.lt(h:XW n w b st):b<w.heap.size:=by
 obtain⟨t,a⟩:=h.blk;exact(tS.1 a).1
theorem MZ(st:List (BitVec 64))(i:Nat)(x:BitVec 64):(J7 st).setIfInBounds i (tR .u64 (U x))=J7 (st.set i x):=by
 simp[J7]
theorem XW.set(h:XW n w b st)(i:Nat)(x:BitVec 64):XW n (tM w ⟨b,i,V⟩ (tR .u64 (U x))) b (st.set i x):=by
 obtain⟨t,a⟩:=h.blk;refine⟨by simp[h.len],t,?_⟩;simp only[tM,tW,if_true,a,sV];simp[MZ]
theorem XW.setOther(h:XW n w b st)(c:Nat)(hc:b≠c)(i:Nat)(v:tE):XW n (tM w ⟨c,i,V⟩ v) b st:=by
 obtain⟨t,a⟩:=h.blk;exact⟨h.len,t,by rw[Below.heap_setCell _ _ _ _ hc];exact a⟩
theorem XW.drewN(h:XW n w b st)(k:Nat):XW n (w.drewN k) b st:=⟨h.len,h.blk⟩
theorem XW.drew(h:XW n w b st):XW n w.drew b st:=⟨h.len,h.blk⟩
theorem XW.alloc(h:XW n w b st)(o:Obj):XW n (w.alloc o) b st:=by
 obtain⟨t,a⟩:=h.blk;exact⟨h.len,t,by rw[Below.heap_alloc _ _ _ h.lt];exact a⟩
theorem XW.grown(h:XW n w b st){w':tA}{r:Option Nat}(hg:tB w w' r)(hr:T b≠r):XW n w' b st:=by
 obtain⟨t,a⟩:=h.blk;exact⟨h.len,t,by rw[hg.block b h.lt hr];exact a⟩
theorem XW.new(w:tA)(t:rD)(st:List (BitVec 64))(hl:st.length=n):XW n (w.alloc (tQ (J7 st) t)) w.heap.size st:=⟨hl,t,rS w _⟩
end
abbrev St:=XW 25
def La(st:List (BitVec 64))(n:Nat):List (BitVec 64):=let a:=st.getD n 0;let b:=st.getD (n+1) 0;let c:=st.getD (n+2) 0;let d:=st.getD (n+3) 0;let e:=st.getD (n+4) 0;((((st.set n (a^^^(c&&&~~~b))).set (n+1) (b^^^(d&&&~~~c))).set (n+2) (c^^^(e&&&~~~d))).set (n+3) (d^^^(a&&&~~~e))).set (n+4) (e^^^(b&&&~~~a))
def VJ(st:List (BitVec 64)):Nat->List (BitVec 64)|0=>st|k+1=>La (VJ st k) (5*k)
theorem IH(w:tA)(b:Nat)(st:List (BitVec 64))(h:St w b st):pB tI 147 #[.pointer (T ⟨b,0,V⟩)] w fun e w'=>e=sW (oD #[])∧St w' b (VJ st 5)∧tB w w' (T b):=by
 go_enter Tryz.func147,Tryz.ntmps147;go_wp2;go_loopw[2](fun y wr=>∃k:Nat,k<=5∧y=tR rH ((5*k:Nat):Int)∧St wr b (VJ st k)∧tB w wr (T b))(fun y _=>25-(intOf y).toNat);case atStart=>exact⟨0,by omega,rfl,h,Qb _ _⟩
 case round=>obtain⟨k,z,rfl,a,f⟩:=hrel;by_cases q:k<5;(·generalize hn:5*k=n;have d:Hid (5*k=n):=hn;clear hn;(have p:n+4<25:=by have:=d.out;omega);have c:=a.cell;have x:=a.frozen;have r:=c n (by omega);have s:=c (n+1) (by omega);have t:=c (n+2) (by omega);have u:=c (n+3) (by omega);have v:=c (n+4) (by omega);clear c;generalize hS:VJ st k=S at*;have o:Hid (VJ st k=S):=hS;clear hS;generalize hA:S.getD n 0=A at*;generalize hB:S.getD (n+1) 0=B at*;generalize hC:S.getD (n+2) 0=C at*;generalize hD:S.getD (n+3) 0=D at*;generalize hE:S.getD (n+4) 0=E at*;have g:Hid (S.getD n 0=A):=hA;have i:Hid (S.getD (n+1) 0=B):=hB;have j:Hid (S.getD (n+2) 0=C):=hC;have l:Hid (S.getD (n+3) 0=D):=hD;have m:Hid (S.getD (n+4) 0=E):=hE;clear hA hB hC hD hE;(have F:(n:Int)+4<25:=by omega);go_wp2;go_quiet(fail);go_wp2;go_roundw;(case rel=>refine⟨k+1,by omega,by have:=d.out;congr 1;omega,?_,?_⟩;(·rw[Kv,Kv,Kv,Kv,Kv,Zn,Zn,Zn,Zn,Zn];(have e:VJ st (k+1)=((((S.set n (A^^^(C&&&~~~B))).set (n+1) (B^^^(D&&&~~~C))).set (n+2) (C^^^(E&&&~~~D))).set (n+3) (D^^^(A&&&~~~E))).set (n+4) (E^^^(B&&&~~~A)):=by simp only[VJ,La,o.out,d.out,g.out,i.out,j.out,l.out,m.out]);rw[e];exact(((((a.drewN nq).set n _).set (n+1) _).set (n+2) _).set (n+3) _).set (n+4) _);·exact Qf (Qf (Qf (Qf (Qf (Qq f nq) n _) (n+1) _) (n+2) _) (n+3) _) (n+4) _);case measure=>simp[intOf];omega);·(obtain rfl:k=5:=by omega);go_wp2;go_end0;exact⟨rfl,a,f⟩
end
def SA(st:List (BitVec 64))(x:Nat):BitVec 64:=st.getD x 0^^^st.getD (x+5) 0^^^st.getD (x+10) 0^^^st.getD (x+15) 0^^^st.getD (x+20) 0
def Vf(st:List (BitVec 64)):Nat->List (BitVec 64)|0=>[0,0,0,0,0]|k+1=>(Vf st k).set k (SA st k)
def aV(c:List (BitVec 64)):List (BitVec 64):=[c.getD 4 0^^^xL (c.getD 1 0) 1,c.getD 0 0^^^xL (c.getD 2 0) 1,c.getD 1 0^^^xL (c.getD 3 0) 1,c.getD 2 0^^^xL (c.getD 4 0) 1,c.getD 3 0^^^xL (c.getD 0 0) 1]
def FM(d st:List (BitVec 64))(k:Nat):List (BitVec 64):=let y:=d.getD k 0;((((st.set k (st.getD k 0^^^y)).set (k+5) (st.getD (k+5) 0^^^y)).set (k+10) (st.getD (k+10) 0^^^y)).set (k+15) (st.getD (k+15) 0^^^y)).set (k+20) (st.getD (k+20) 0^^^y)
def jZ(d st:List (BitVec 64)):Nat->List (BitVec 64)|0=>st|k+1=>FM d (jZ d st k) k
theorem aP(w:tA)(b:Nat)(st:List (BitVec 64))(h:St w b st):pB tI 145 #[.pointer (T ⟨b,0,V⟩)] w fun e w'=>e=sW (oD #[])∧St w' b (jZ (aV (Vf st 5)) st 5)∧tB w w' (T b):=by
 have q:b≠w.heap.size:=Nat.ne_of_lt h.lt;have L:=h;go_enter Tryz.func145,Tryz.ntmps145;go_wp2_with fail;go_loopw[6](fun i wr=>∃k:Nat,k<=5∧i=tR rH (k:Int)∧St wr b st∧XW 5 wr w.heap.size (Vf st k)∧tB w wr (T b))(fun i _=>5-(intOf i).toNat);case atStart=>exact⟨0,by omega,rfl,h.alloc _,XW.new w 245 [0,0,0,0,0] rfl,QA (Qb _ _) _⟩
 case round=>obtain⟨k,N,rfl,a,c,j⟩:=hrel;by_cases g:k<5;(·have A:=a.cell k (by omega);have B:=a.cell (k+5) (by omega);have C:=a.cell (k+10) (by omega);have D:=a.cell (k+15) (by omega);have E:=a.cell (k+20) (by omega);have F:=c.cell k g;have M:=c.frozen k;generalize hx0:st.getD k 0=x0 at*;generalize hx1:st.getD (k+5) 0=x1 at*;generalize hx2:st.getD (k+10) 0=x2 at*;generalize hx3:st.getD (k+15) 0=x3 at*;generalize hx4:st.getD (k+20) 0=x4 at*;(have p:Hid (SA st k=x0^^^x1^^^x2^^^x3^^^x4):=by show SA st k=_;simp only[SA,hx0,hx1,hx2,hx3,hx4]);generalize hcc:Vf st k=cc at*;have n:Hid (Vf st k=cc):=hcc;generalize hy:cc.getD k 0=y at*;clear hx0 hx1 hx2 hx3 hx4 hcc hy h;(have O:(k:Int)+20<25:=by omega);(have P:(k:Int)<5:=by omega);go_wp2_with fail;go_region;(all_goals go_wp2);go_roundw;(case rel=>rw[Zn,Zn,Zn,Zn];have v:=a.lt;have x:=c.lt;refine⟨k+1,by omega,by go_num,(a.setOther _ q _ _).drew,?_,Qj (Qc j _ (sF _) _ _)⟩;simp only[Vf,n.out,p.out];exact(c.set k _).drew);case measure=>simp[intOf];omega);·(obtain rfl:k=5:=by omega);have G:=c.cell 0 (by omega);have H:=c.cell 1 (by omega);have I:=c.cell 2 (by omega);have J:=c.cell 3 (by omega);have K:=c.cell 4 (by omega);generalize hcc:Vf st 5=cc at*;have n:Hid (Vf st 5=cc):=hcc;generalize hx0:cc.getD 0 0=x0 at*;generalize hx1:cc.getD 1 0=x1 at*;generalize hx2:cc.getD 2 0=x2 at*;generalize hx3:cc.getD 3 0=x3 at*;generalize hx4:cc.getD 4 0=x4 at*;(have t:Hid (aV cc=[x4^^^xL x1 1,x0^^^xL x2 1,x1^^^xL x3 1,x2^^^xL x4 1,x3^^^xL x0 1]):=by show aV cc=_;simp only[aV,hx0,hx1,hx2,hx3,hx4]);clear hcc hx0 hx1 hx2 hx3 hx4 h;have r:=c.lt;go_upto_region 6with fail;go_cut[4](fun Q s=>Q=.pointer (T ⟨wr.heap.size,0,V⟩)∧St s b st∧XW 5 s wr.heap.size (aV cc)∧tB w s (T b));(case first=>go_region_held3(fun w'=>w'.cell? ⟨w.heap.size,0,V⟩=T (tR .u64 (U x0))∧w'.cell? ⟨w.heap.size,1,V⟩=T (tR .u64 (U x1))∧w'.cell? ⟨w.heap.size,2,V⟩=T (tR .u64 (U x2))∧w'.cell? ⟨w.heap.size,3,V⟩=T (tR .u64 (U x3))∧w'.cell? ⟨w.heap.size,4,V⟩=T (tR .u64 (U x4)))(go_keep)(first|(go_at_call 149;refine(Lz _ (1:Int) (by omega) (by omega) _).mono ?_;rintro e w'⟨rfl,rfl⟩));all_goals(go_wp2_with fail;go_meet;case rel=>(rw[t.out,Zn,Zn,Zn,Zn,Zn];exact⟨rfl,(a.alloc _).drew,(XW.new wr 245 [x4^^^xL x1 1,x0^^^xL x2 1,x1^^^xL x3 1,x2^^^xL x4 1,x3^^^xL x0 1] rfl).drew,Qj (QA j _)⟩)));case rest=>obtain⟨rfl,f,l,m⟩:=hcut;clear G H I J K a c j;(have d:b≠wr.heap.size:=by have:=L.lt;omega);generalize hD:aV cc=dd at*;have o:Hid (aV cc=dd):=hD;clear hD t;generalize hdn:wr.heap.size=db at*;clear hdn r;go_wp2_with fail;go_loopw[76](fun i wr=>∃k:Nat,k<=5∧i=tR rH (k:Int)∧St wr b (jZ dd st k)∧XW 5 wr db dd∧tB w wr (T b))(fun i _=>5-(intOf i).toNat);(case atStart=>exact⟨0,by omega,rfl,f,l,m⟩);case round=>clear f l m;obtain⟨k,N,rfl,a,u,j⟩:=hrel;by_cases g:k<5;(·have A:=a.cell k (by omega);have B:=a.cell (k+5) (by omega);have C:=a.cell (k+10) (by omega);have D:=a.cell (k+15) (by omega);have E:=a.cell (k+20) (by omega);have F:=u.cell k g;have M:=a.frozen;generalize hS:jZ dd st k=S at*;have z:Hid (jZ dd st k=S):=hS;generalize hy:dd.getD k 0=y at*;generalize hx0:S.getD k 0=x0 at*;generalize hx1:S.getD (k+5) 0=x1 at*;generalize hx2:S.getD (k+10) 0=x2 at*;generalize hx3:S.getD (k+15) 0=x3 at*;generalize hx4:S.getD (k+20) 0=x4 at*;(have p:Hid (FM dd S k=((((S.set k (x0^^^y)).set (k+5) (x1^^^y)).set (k+10) (x2^^^y)).set (k+15) (x3^^^y)).set (k+20) (x4^^^y)):=by show FM dd S k=_;simp only[FM,hy,hx0,hx1,hx2,hx3,hx4]);clear hS hy hx0 hx1 hx2 hx3 hx4;(have O:(k:Int)+20<25:=by omega);(have P:(k:Int)<5:=by omega);go_wp2_with fail;go_region;go_wp2_with fail;go_region;go_wp2_with fail;go_region;go_wp2_with fail;go_region;go_wp2_with fail;go_region;go_wp2_with fail;go_roundw;(case rel=>rw[Zn,Zn,Zn,Zn,Zn];refine⟨k+1,by omega,by go_num,?_,?_,?_⟩;(·simp only[jZ,z.out,p.out];exact(((((a.set k _).set (k+5) _).set (k+10) _).set (k+15) _).set (k+20) _).drew.drew.drew.drew.drew);(·exact(((((u.setOther b d.symm k _).setOther b d.symm (k+5) _).setOther b d.symm (k+10) _).setOther b d.symm (k+15) _).setOther b d.symm (k+20) _).drew.drew.drew.drew.drew);·exact Qj (Qj (Qj (Qj (Qj (Qf (Qf (Qf (Qf (Qf j k _) (k+5) _) (k+10) _) (k+15) _) (k+20) _))))));case measure=>simp[intOf];omega);·(obtain rfl:k=5:=by omega);go_wp2;go_end0;refine⟨rfl,?_,j⟩;rw[n.out,o.out];exact a
def Js:List Nat:=[10,7,11,17,18,3,5,16,8,21,24,4,15,23,19,13,12,2,20,14,22,9,6,1]
def JZ:List Nat:=[1,3,6,10,15,21,28,36,45,55,2,14,27,41,56,8,25,43,62,18,39,61,20,44]
def Jt:List (BitVec 64):=[0x0000000000000001,0x0000000000008082,0x800000000000808a,0x8000000080008000,0x000000000000808b,0x0000000080000001,0x8000000080008081,0x8000000000008009,0x000000000000008a,0x0000000000000088,0x0000000080008009,0x000000008000000a,0x000000008000808b,0x800000000000008b,0x8000000000008089,0x8000000000008003,0x8000000000008002,0x8000000000000080,0x000000000000800a,0x800000008000000a,0x8000000080008081,0x8000000000008080,0x0000000080000001,0x8000000080008008]
theorem dB(k:Nat)(h:k<24):Js.getD k 0<25:=(by
 decide:∀k:Fin 24,Js.getD k.1 0<25) ⟨k,h⟩
theorem IZ(k:Nat)(h:k<24):JZ.getD k 0<64:=(by
 decide:∀k:Fin 24,JZ.getD k.1 0<64) ⟨k,h⟩
structure Yz(w:tA):Prop where nums:∀i,i<24->w.cell? ⟨2,i,V⟩=T (tR .u64 (U (Jt.getD i 0)))walk:∀i,i<24->w.cell? ⟨3,i,V⟩=T (tR rH ((Js.getD i 0:Nat):Int))turns:∀i,i<24->w.cell? ⟨4,i,V⟩=T (tR rH ((JZ.getD i 0:Nat):Int))
theorem Yz.grown{w w':tA}{b:Nat}(h:Yz w)(hg:tB w w' (T b))(hb:5<=b):Yz w':=⟨fun i a=>hg.cell (h.nums i a) (by
 simp;omega),fun i a=>hg.cell (h.walk i a) (by
 simp;omega),fun i a=>hg.cell (h.turns i a) (by
 simp;omega)⟩
def JT(st:List (BitVec 64)):Nat->List (BitVec 64)×BitVec 64|0=>(st,st.getD 1 0)|k+1=>((JT st k).1.set (Js.getD k 0) (xL (JT st k).2 (JZ.getD k 0)),(JT st k).1.getD (Js.getD k 0) 0)
theorem OQ(w:tA)(b:Nat)(hb:5<=b)(st:List (BitVec 64))(h:St w b st)(ht:Yz w):pB tI 146 #[.pointer (T ⟨b,0,V⟩)] w fun e w'=>e=sW (oD #[])∧St w' b (JT st 24).1∧tB w w' (T b):=by
 have q:=h.cell 1 (by omega);go_enter Tryz.func146,Tryz.ntmps146;go_wp2;go_loopw[2,10](fun m i wr=>∃k:Nat,k<=24∧i=tR rH (k:Int)∧m=tR .u64 (U (JT st k).2)∧St wr b (JT st k).1∧tB w wr (T b))(fun _ i _=>24-(intOf i).toNat);case atStart=>exact⟨0,by omega,rfl,by simp[JT],h,Qb _ _⟩
 case round=>obtain⟨k,t,rfl,rfl,d,g⟩:=hrel;clear q;by_cases a:k<24;(·have f:=ht.grown g hb;have r:=dB k a;have u:=IZ k a;have x:=f.walk k a;have y:=f.turns k a;have c:=d.cell (Js.getD k 0) r;have s:=d.frozen;generalize hS:(JT st k).1=S at*;have j:Hid ((JT st k).1=S):=hS;generalize hM:(JT st k).2=M at*;have n:Hid ((JT st k).2=M):=hM;generalize hW:Js.getD k 0=W at*;have l:Hid (Js.getD k 0=W):=hW;generalize hR:JZ.getD k 0=R at*;have o:Hid (JZ.getD k 0=R):=hR;clear hS hM hW hR;generalize hX:S.getD W 0=X at*;have p:Hid (S.getD W 0=X):=hX;clear hX f ht h;(have v:(W:Int)<25:=by omega);go_wp2_with fail;go_region_with(go_at_call 149;refine(Lz M (R:Int) (by omega) (by omega) _).mono ?_;rintro e w'⟨rfl,rfl⟩);(all_goals go_wp2);go_roundw;(case rel=>refine⟨k+1,by omega,by go_num,?_,?_,Qj (Qf g _ _)⟩;(·simp only[JT,j.out,l.out,p.out]);·simp only[JT,j.out,n.out,l.out,o.out];exact(d.set W _).drew);case measure=>simp[intOf];omega);·(obtain rfl:k=24:=by omega);go_wp2;go_end0;exact⟨rfl,d,g⟩
def Bl(st:List (BitVec 64))(n:BitVec 64):List (BitVec 64):=let r:=VJ (JT (jZ (aV (Vf st 5)) st 5) 24).1 5;r.set 0 (r.getD 0 0^^^n)
theorem Iz(w:tA)(b:Nat)(hb:5<=b)(st:List (BitVec 64))(n:BitVec 64)(h:St w b st)(ht:Yz w):pB tI 142 #[.pointer (T ⟨b,0,V⟩),tR .u64 (U n)] w fun e w'=>e=sW (oD #[])∧St w' b (Bl st n)∧tB w w' (T b):=by
 go_enter Tryz.func142,Tryz.ntmps142;go_wp2_with fail;refine(aP _ b st h).mono ?_;rintro e k⟨rfl,c,g1⟩;go_wp2_with fail;refine(OQ _ b hb _ c (ht.grown g1 hb)).mono ?_;rintro e l⟨rfl,d,g2⟩;go_wp2_with fail;refine(IH _ b _ d).mono ?_;rintro e m⟨rfl,a,g3⟩;have g:=Qa g1 (Qa g2 g3);clear g1 g2 g3 c d h ht;have f:Hid (Bl st n=(VJ (JT (jZ (aV (Vf st 5)) st 5) 24).1 5).set 0 ((VJ (JT (jZ (aV (Vf st 5)) st 5) 24).1 5).getD 0 0^^^n)):=rfl;generalize VJ (JT (jZ (aV (Vf st 5)) st 5) 24).1 5=S at*;have i:=a.cell 0 (by omega);have j:=a.frozen 0;generalize hx:S.getD 0 0=x at*;clear hx;go_wp2_with fail;go_region;go_wp2_with fail;go_end0;refine⟨rfl,?_,Qj (Qf g 0 _)⟩;rw[f.out,Zn];exact(a.set 0 _).drew
def kJ{α:Type}(p:α->Bool):List α->Option Nat|[]=>V|a::l=>if p a=tD then T 0 else(kJ p l).map (·+1)
def ZM{α:Type}(p:α->Bool)(l:List α):Int:=match kJ p l with|T i=>(i:Int)|none=>-1
theorem F3{α:Type}(p:α->Bool)(d:α):∀(l:List α)(m:Nat),m<l.length->(l.take m).any p=tH->p (l.getD m d)=tD->kJ p l=T m|[],_,h,_,_=>by simp at h|a::l,0,_,_,h=>by have b:p a=tD:=h;rw[kJ,if_pos b]|a::l,m+1,h0,h1,h2=>by rw[sL,rY,rW]at h1;rw[kJ,if_neg (by rw[h1.1];decide),F3 p d l m (by simpa using h0) h1.2 (by simpa using h2)];rfl
theorem P5{α:Type}(p:α->Bool):∀(l:List α),l.any p=tH->kJ p l=V|[],_=>rfl|a::l,h=>by rw[rY,rW]at h;rw[kJ,if_neg (by rw[h.1];decide),P5 p l h.2];rfl
theorem qS{α:Type}(p:α->Bool)(d:α)(l:List α)(m:Nat)(h:m<l.length)(h1:(l.take m).any p=tH)(h2:p (l.getD m d)=tD):ZM p l=(m:Int):=by
 rw[ZM,F3 p d l m h h1 h2]
theorem KU{α:Type}(p:α->Bool)(l:List α)(h:l.any p=tH):ZM p l=-1:=by
 rw[ZM,P5 p l h]
theorem U8{α:Type}(p:α->Bool)(d:α):∀(l:List α),l.any p=tD->∃m,m<l.length∧(l.take m).any p=tH∧p (l.getD m d)=tD∧ZM p l=(m:Int)|[],h=>by simp at h|a::l,h=>by by_cases b:p a=tD;(·exact⟨0,by simp,by simp,b,qS p d (a::l) 0 (by simp) (by simp) b⟩);·(have g:p a=tH:=by simpa using b);rw[rY,g,Bool.false_or]at h;obtain⟨m,k,i,j,_⟩:=U8 p d l h;(have c:m+1<(a::l).length:=by simp;omega);(have e:((a::l).take (m+1)).any p=tH:=by rw[sL,rY,g,i];rfl);(have f:p ((a::l).getD (m+1) d)=tD:=by simpa using j);exact⟨m+1,c,e,f,qS p d _ _ c e f⟩
theorem kU{α:Type}(p:α->Bool)(l:List α):(ZM p l==-1)=!(l.any p):=by
 cases h:l.any p with|false=>rw[KU p l h];rfl|true=>cases l with|nil=>simp at h|cons a l=>obtain⟨m,_,_,_,e⟩:=U8 p a (a::l) h;rw[e];(have:((m:Int)==-1)=tH:=by simp);rw[this];rfl
theorem Ts{α:Type}(p:α->Bool)(l:List α):tN (0<=ZM p l)=l.any p:=by
 cases h:l.any p with|false=>rw[KU p l h];rfl|true=>cases l with|nil=>simp at h|cons a l=>obtain⟨m,_,_,_,e⟩:=U8 p a (a::l) h;rw[e];simp
theorem KZ(w:tA)(v1 v2:tE)(b1 b2:List UInt8)(h1:Qe w v1 b1)(h2:Qe w v2 b2):pB tI 78 #[v1,v2] w fun e w'=>e=sW (pT (tN (b1=b2)))∧w'=w:=by
 have a:=Tf w v1 b1 h1;have b:=Tf w v2 b2 h2;go_enter Tryz.func78,Tryz.ntmps78;go_wp2;go_ret;refine⟨?_,rfl⟩;have e:((kP b1).toList==(kP b2).toList)=tN (b1=b2):=by rw[PR,PR];by_cases h:b1=b2<;>simp[h]
 rw[<-e];rfl
theorem vT(p:Q8):QK [] [p]=Qx p:=by
 have b:Q4 []=0:=(Xi []).2 UE;rw[QK,if_pos b,if_neg (by simp),ZK];by_cases h:Qx p=0;·have a:=F9 UE h Wb (by omega);have c:(Ze [] p).length<=1:=M2 [] p;rw[if_neg (by omega)]at a;rw[if_pos h,if_pos a,ZK,h]
 ·rw[if_neg h]
def FQ:Prop:=∀(w:tA)(a:Option pJ)(n cap:Nat),pB tI 21 #[tP a n cap] w fun e w'=>e=sW (tR rH (Qn n))∧tB w w' V
theorem YM:FQ:=by
 intro w a n cap;by_cases c:1<=n;·by_cases d:n<=16;(·rw[Qn,if_pos ⟨c,d⟩];(have b:¬(n:Int)<1:=by omega);(have e:¬(n:Int)>16:=by omega);go_enter pU,pL;go_wp2;go_ret;exact⟨rfl,Qb _ _⟩);·rw[Qn,if_neg (by omega)];(have b:¬(n:Int)<1:=by omega);(have e:(n:Int)>16:=by omega);go_enter pU,pL;go_wp2;go_ret;exact⟨rfl,Qb _ _⟩
 ·rw[Qn,if_neg (by omega)];(have b:(n:Int)<1:=by omega);go_enter pU,pL;go_wp2;go_ret;exact⟨rfl,Qb _ _⟩
def Zp(l:PL)(k:List UInt8):Nat:=(l.takeWhile fun p=>YE p.1 k).length
def GS(l:PL)(k:List UInt8):Bool:=tN (Zp l k<l.length∧(l.getD (Zp l k) ([],[])).1=k)
def XP(l:PL)(k:List UInt8):Nat:=if GS l k=tD then Zp l k+1 else Zp l k
theorem yF(l:PL)(k:List UInt8):Zp l k<=l.length:=by
 induction l with|nil=>simp[Zp]|cons p r ih=>unfold Zp at ih⊢;rw[pY];cases h:YE p.1 k with|true=>simpa using ih|false=>simp
theorem Ok:∀(l:PL)(k:List UInt8)(i:Nat),i<=l.length->(∀j,j<i->YE (l.getD j ([],[])).1 k=tD)->(i<l.length->YE (l.getD i ([],[])).1 k=tH)->Zp l k=i|[],k,i,h,_,_=>by(obtain rfl:i=0:=by simpa using h);rfl|p::r,k,0,_,_,h2=>by have:=h2 (by simp);simp only[sC]at this;simp[Zp,this]|p::r,k,i+1,h,h1,h2=>by have a:=h1 0 (by omega);simp only[sC]at a;have:=Ok r k i (by simpa using h) (fun j c=>by simpa using h1 (j+1) (by omega)) (fun b=>by simpa using h2 (by simpa using b));unfold Zp at this⊢;rw[tT (p:=fun p:Pr=>YE p.1 k) a];simpa using this
theorem NH:∀(l:PL)(k:List UInt8)(j:Nat),j<Zp l k->YE (l.getD j ([],[])).1 k=tD|[],k,j,h=>by simp[Zp]at h|p::r,k,j,h=>by cases hk:YE p.1 k with|false=>simp[Zp,hk]at h|true=>cases j with|zero=>simpa using hk|succ j=>unfold Zp at h;rw[tT (p:=fun p:Pr=>YE p.1 k) hk]at h;have:=NH r k j (by unfold Zp;simpa using h);simpa using this
theorem Mg:∀(l:PL)(k:List UInt8),Zp l k<l.length->YE (l.getD (Zp l k) ([],[])).1 k=tH|[],k,h=>by simp at h|p::r,k,h=>by cases hk:YE p.1 k with|false=>simp[Zp,hk]|true=>(have e:Zp (p::r) k=Zp r k+1:=by unfold Zp;rw[tT (p:=fun p:Pr=>YE p.1 k) hk];simp);rw[e]at h⊢;have:=Mg r k (by simpa using h);simpa using this
theorem uH(l:PL)(k:List UInt8)(hr:K5 l)(j:Nat)(hj:j<l.length):YE (l.getD j ([],[])).1 k=tN (j<Zp l k):=by
 by_cases h:j<Zp l k;·rw[decide_eq_true h];exact NH l k j h
 ·rw[decide_eq_false h];have a:=Mg l k (by omega);by_cases e:j=Zp l k;(·rw[e];exact a);·cases hk:YE (l.getD j ([],[])).1 k with|false=>rfl|true=>have:=J8 _ _ _ (UN l hr (Zp l k) j (by omega) hj) hk;rw[this]at a;cases a
theorem vM{l:PL}{k:List UInt8}(h:GS l k=tD):Zp l k<l.length∧(l.getD (Zp l k) ([],[])).1=k:=by
 simpa only[GS,decide_eq_true_eq]using h
theorem yV(l:PL)(k:List UInt8):Zp l k<=XP l k∧XP l k<=l.length∧XP l k<=Zp l k+1:=by
 have:=yF l k;unfold XP;by_cases h:GS l k=tD;·rw[if_pos h];have:=(vM h).1;omega
 ·rw[if_neg h];omega
theorem FW(l:PL)(k:List UInt8)(hr:K5 l)(j:Nat)(hj:j<l.length)(he:(l.getD j ([],[])).1=k):GS l k=tD∧j=Zp l k:=by
 have a:Zp l k=j:=by refine Ok l k j (by omega) (fun i b=>?_) (fun _=>?_);(·rw[<-he];exact UN l hr i j b hj);·rw[he];exact X8 k
 refine⟨?_,a.symm⟩;rw[GS,a];exact decide_eq_true ⟨hj,he⟩
theorem bT(l:PL)(k:List UInt8)(hr:K5 l):Uy l k=if GS l k=tD then T (l.getD (Zp l k) ([],[])).2 else V:=by
 by_cases h:GS l k=tD;·rw[if_pos h];obtain⟨b,c⟩:=vM h;refine Oe l k _ b (fun j a e=>?_) c;have:=NH l k j a;rw[e,X8]at this;cases this
 ·rw[if_neg h];exact Dl l k fun j a e=>h (FW l k hr j a e).1
theorem Dz(l:PL)(p:Pr):JB l p=l.take (Zp l p.1)++([p]++l.drop (XP l p.1)):=by
 rw[Lv l p (Zp l p.1) (yF l p.1) (fun j a=>NH l p.1 j a) (Mg l p.1)];by_cases h:Zp l p.1<l.length∧(l.getD (Zp l p.1) ([],[])).1=p.1;·rw[if_pos h,XP,if_pos (by rw[GS];exact decide_eq_true h),pA,if_pos h.1];rfl
 ·rw[if_neg h,XP,if_neg (by rw[GS];simpa using h)]
theorem IR(l:PL)(p:Pr):(JB l p).length=Zp l p.1+1+(l.length-XP l p.1):=by
 rw[Dz];have a:=yF l p.1;simp;omega
theorem ID(l:PL)(p:Pr)(hl:l.length<=60):(60<(JB l p).length)↔(Zp l p.1=XP l p.1∧l.length=60):=by
 rw[IR];have:=yV l p.1;omega
theorem D5(l:PL)(f:Pr->Bool)(n:Nat)(hn:n<=l.length)(h1:∀j,j<n->f (l.getD j ([],[]))=tH)(h2:∀j,n<=j->j<l.length->f (l.getD j ([],[]))=tD):l.filter f=l.drop n:=by
 have e:l=l.take n++l.drop n:=(tL n l).symm;have d:(l.take n).filter f=[]:=by rw[sP];intro q c;obtain⟨j,b,rfl⟩:=tC.1 c;(have a:j<n:=by simp at b;omega);have:=h1 j a;rw[sJ];rw[show l[j]'(by omega)=l.getD j ([],[])by simp[show j<l.length by omega],this];simp
 have g:(l.drop n).filter f=l.drop n:=by rw[tU];intro q c;obtain⟨j,b,rfl⟩:=tC.1 c;(have a:n+j<l.length:=by simp at b;omega);rw[sS,show l[n+j]=l.getD (n+j) ([],[])by simp[a]];exact h2 _ (by omega) a
 conv=>lhs;rw[e]
 rw[sO,d,g,pG]
theorem Ch(l:PL)(f:Pr->Bool)(n:Nat)(hn:n<=l.length)(h1:∀j,j<n->f (l.getD j ([],[]))=tD)(h2:∀j,n<=j->j<l.length->f (l.getD j ([],[]))=tH):l.filter f=l.take n:=by
 have e:l=l.take n++l.drop n:=(tL n l).symm;have g:(l.drop n).filter f=[]:=by rw[sP];intro q c;obtain⟨j,b,rfl⟩:=tC.1 c;(have a:n+j<l.length:=by simp at b;omega);rw[sS,show l[n+j]=l.getD (n+j) ([],[])by simp[a],h2 _ (by omega) a];simp
 have d:(l.take n).filter f=l.take n:=by rw[tU];intro q c;obtain⟨j,b,rfl⟩:=tC.1 c;(have a:j<n:=by simp at b;omega);rw[sJ,show l[j]'(by omega)=l.getD j ([],[])by simp[show j<l.length by omega]];exact h1 j a
 conv=>lhs;rw[e]
 rw[sO,d,g,sA]
theorem Oo(l:PL)(k:List UInt8)(hr:K5 l):zX l k=l.take (Zp l k)++l.drop (XP l k):=by
 by_cases h:GS l k=tD;·obtain⟨f,g⟩:=vM h;(have e:l=l.take (Zp l k)++(l.getD (Zp l k) ([],[])::l.drop (Zp l k+1)):=by(conv=>lhs;rw[<-tL (Zp l k) l,sI f]);simp[f]);have c:∀j,j<l.length->j≠Zp l k->(l.getD j ([],[])).1≠k:=fun j a n e=>n (FW l k hr j a e).2;(have i:(l.take (Zp l k)).filter (fun q=>!(q.1==k))=l.take (Zp l k):=by rw[tU];intro q d;obtain⟨j,a,rfl⟩:=tC.1 d;(have b:j<Zp l k:=by simp at a;omega);rw[sJ,show l[j]'(by omega)=l.getD j ([],[])by simp[show j<l.length by omega]];simpa using c j (by omega) (by omega));(have m:(l.drop (Zp l k+1)).filter (fun q=>!(q.1==k))=l.drop (Zp l k+1):=by rw[tU];intro q d;obtain⟨j,a,rfl⟩:=tC.1 d;(have b:Zp l k+1+j<l.length:=by simp at a;omega);rw[sS,show l[Zp l k+1+j]=l.getD (Zp l k+1+j) ([],[])by simp[b]];simpa using c _ b (by omega));rw[XP,if_pos h,zX];(conv=>lhs;rw[e]);rw[sO,sY (by simpa using g),i,m]
 ·rw[XP,if_neg h,tL,zX,tU];intro q d;obtain⟨j,a,rfl⟩:=tC.1 d;have:=fun e=>h (FW l k hr j a e).1;rw[show l.getD j ([],[])=l[j]by simp[a]]at this;simpa using this
theorem Fe(l:PL)(k:List UInt8)(hr:K5 l)(j:Nat)(hj:j<l.length):YE k (l.getD j ([],[])).1=tN (XP l k<=j):=by
 have a:=uH l k hr j hj;have g:=yV l k;by_cases c:j<Zp l k;·rw[decide_eq_true c]at a;rw[L7 _ _ a,decide_eq_false (by omega)]
 ·rw[decide_eq_false c]at a;by_cases e:(l.getD j ([],[])).1=k;(·obtain⟨d,f⟩:=FW l k hr j hj e;rw[e,X8,XP,if_pos d,decide_eq_false (by omega)]);·rw[UH _ _ a e];by_cases h:GS l k=tD;(·rw[XP,if_pos h,decide_eq_true (by by_cases b:j=Zp l k;(·exact absurd (by rw[b];exact(vM h).2) e);·omega)]);·rw[XP,if_neg h,decide_eq_true (by omega)]
theorem Bo(l:PL)(f t:List UInt8)(hr:K5 l):Ve l f t=(l.take (max (Zp l f) (XP l t))).drop (Zp l f):=by
 have k:=yF l f;have d:=yV l t;have e:Ve l f t=(l.filter fun q=>!YE t q.1).filter fun q=>!YE q.1 f:=by rw[Ve,List.filter_filter]
 rw[e,Ch l _ (XP l t) d.2.1 (fun j a=>by rw[Fe l t hr j (by omega),decide_eq_false (by omega)];rfl) (fun j a b=>by rw[Fe l t hr j b,decide_eq_true a];rfl)];have h:∀(n:Nat),n<=l.length->(l.take n).filter (fun q=>!YE q.1 f)=(l.take n).drop (Zp l f):=by intro n m;by_cases g:Zp l f<=n;(·refine D5 _ _ _ (by simp;omega) (fun j a=>?_) (fun j a b=>?_);(·(have:(l.take n).getD j ([],[])=l.getD j ([],[]):=by simp[show j<n by omega]);rw[this,uH l f hr j (by omega),decide_eq_true a];rfl);·(have c:j<n:=by simp at b;omega);(have:(l.take n).getD j ([],[])=l.getD j ([],[]):=by simp[c]);rw[this,uH l f hr j (by omega),decide_eq_false (by omega)];rfl);·rw[sB (by simp;omega),sP];intro q i;obtain⟨j,a,rfl⟩:=tC.1 i;(have c:j<n:=by simp at a;omega);rw[sJ,show l[j]'(by omega)=l.getD j ([],[])by simp[show j<l.length by omega],uH l f hr j (by omega),decide_eq_true (by omega)];simp
 rw[h _ d.2.1];by_cases g:Zp l f<=XP l t;·rw[Nat.max_eq_right g]
 ·rw[Nat.max_eq_left (by omega),sB (by simp;omega),sB (by simp;omega)]
theorem Nq:∀(t:FL)(p:Tn)(k:Nat),k<=t.length->(∀j,j<k->YE (t.getD j ([],[])).1 p.1=tD)->(k<t.length->YE (t.getD k ([],[])).1 p.1=tH)->YH t p=if k<t.length∧(t.getD k ([],[])).1=p.1then t.set k p else t.take k++([p]++t.drop k)|[],p,k,a,_,_=>by(obtain rfl:k=0:=by simpa using a);simp[YH]|q::r,p,0,_,_,h2=>by have h:=h2 (by simp);simp only[sC]at h;rw[YH,if_neg (by rw[h];simp)];by_cases e:q.1=p.1;(·rw[if_pos e,if_pos ⟨by simp,by simpa using e⟩];simp);·rw[if_neg e,if_neg (fun h=>e (by simpa using h.2))];simp|q::r,p,k+1,a,h1,h2=>by have h:=h1 0 (by omega);simp only[sC]at h;rw[YH,if_pos h,Nq r p k (by simpa using a) (fun j b=>by simpa using h1 (j+1) (by omega)) (fun a=>by simpa using h2 (by simpa using a))];by_cases e:k<r.length∧(r.getD k ([],[])).1=p.1;(·rw[if_pos e,if_pos ⟨by simpa using e.1,by simpa using e.2⟩];simp);·rw[if_neg e,if_neg (fun h=>e ⟨by simpa using h.1,by simpa using h.2⟩)];simp
def Qy(l:FL)(k:List UInt8):Nat:=(l.takeWhile fun p=>YE p.1 k).length
def JY(l:FL)(k:List UInt8):Bool:=tN (Qy l k<l.length∧(l.getD (Qy l k) ([],[])).1=k)
def QM(l:FL)(k:List UInt8):Nat:=if JY l k=tD then Qy l k+1 else Qy l k
theorem uW(l:FL)(k:List UInt8):Qy l k<=l.length:=by
 induction l with|nil=>simp[Qy]|cons p r ih=>unfold Qy at ih⊢;rw[pY];cases h:YE p.1 k with|true=>simpa using ih|false=>simp
theorem MX:∀(l:FL)(k:List UInt8)(i:Nat),i<=l.length->(∀j,j<i->YE (l.getD j ([],[])).1 k=tD)->(i<l.length->YE (l.getD i ([],[])).1 k=tH)->Qy l k=i|[],k,i,h,_,_=>by(obtain rfl:i=0:=by simpa using h);rfl|p::r,k,0,_,_,h2=>by have:=h2 (by simp);simp only[sC]at this;simp[Qy,this]|p::r,k,i+1,h,h1,h2=>by have a:=h1 0 (by omega);simp only[sC]at a;have:=MX r k i (by simpa using h) (fun j c=>by simpa using h1 (j+1) (by omega)) (fun b=>by simpa using h2 (by simpa using b));unfold Qy at this⊢;rw[tT (p:=fun p:Tn=>YE p.1 k) a];simpa using this
theorem uU:∀(l:FL)(k:List UInt8)(j:Nat),j<Qy l k->YE (l.getD j ([],[])).1 k=tD|[],k,j,h=>by simp[Qy]at h|p::r,k,j,h=>by cases hk:YE p.1 k with|false=>simp[Qy,hk]at h|true=>cases j with|zero=>simpa using hk|succ j=>unfold Qy at h;rw[tT (p:=fun p:Tn=>YE p.1 k) hk]at h;have:=uU r k j (by unfold Qy;simpa using h);simpa using this
theorem Pu:∀(l:FL)(k:List UInt8),Qy l k<l.length->YE (l.getD (Qy l k) ([],[])).1 k=tH|[],k,h=>by simp at h|p::r,k,h=>by cases hk:YE p.1 k with|false=>simp[Qy,hk]|true=>(have e:Qy (p::r) k=Qy r k+1:=by unfold Qy;rw[tT (p:=fun p:Tn=>YE p.1 k) hk];simp);rw[e]at h⊢;have:=Pu r k (by simpa using h);simpa using this
theorem Hw(l:FL)(k:List UInt8)(hr:XX l)(j:Nat)(hj:j<l.length):YE (l.getD j ([],[])).1 k=tN (j<Qy l k):=by
 by_cases h:j<Qy l k;·rw[decide_eq_true h];exact uU l k j h
 ·rw[decide_eq_false h];have a:=Pu l k (by omega);by_cases e:j=Qy l k;(·rw[e];exact a);·cases hk:YE (l.getD j ([],[])).1 k with|false=>rfl|true=>have:=J8 _ _ _ (qY l hr (Qy l k) j (by omega) hj) hk;rw[this]at a;cases a
theorem jA{l:FL}{k:List UInt8}(h:JY l k=tD):Qy l k<l.length∧(l.getD (Qy l k) ([],[])).1=k:=by
 simpa only[JY,decide_eq_true_eq]using h
theorem Pj(l:FL)(k:List UInt8):Qy l k<=QM l k∧QM l k<=l.length∧QM l k<=Qy l k+1:=by
 have:=uW l k;unfold QM;by_cases h:JY l k=tD;·rw[if_pos h];have:=(jA h).1;omega
 ·rw[if_neg h];omega
theorem PH(l:FL)(k:List UInt8)(hr:XX l)(j:Nat)(hj:j<l.length)(he:(l.getD j ([],[])).1=k):JY l k=tD∧j=Qy l k:=by
 have a:Qy l k=j:=by refine MX l k j (by omega) (fun i b=>?_) (fun _=>?_);(·rw[<-he];exact qY l hr i j b hj);·rw[he];exact X8 k
 refine⟨?_,a.symm⟩;rw[JY,a];exact decide_eq_true ⟨hj,he⟩
theorem Hx(l:FL)(k:List UInt8)(hr:XX l):UK l k=if JY l k=tD then T (l.getD (Qy l k) ([],[])).2 else V:=by
 by_cases h:JY l k=tD;·rw[if_pos h];obtain⟨b,c⟩:=jA h;refine Cr l k _ b (fun j a e=>?_) c;have:=uU l k j a;rw[e,X8]at this;cases this
 ·rw[if_neg h];exact TP l k fun j a e=>h (PH l k hr j a e).1
theorem Rr(l:FL)(p:Tn):YH l p=l.take (Qy l p.1)++([p]++l.drop (QM l p.1)):=by
 rw[Nq l p (Qy l p.1) (uW l p.1) (fun j a=>uU l p.1 j a) (Pu l p.1)];by_cases h:Qy l p.1<l.length∧(l.getD (Qy l p.1) ([],[])).1=p.1;·rw[if_pos h,QM,if_pos (by rw[JY];exact decide_eq_true h),pA,if_pos h.1];rfl
 ·rw[if_neg h,QM,if_neg (by rw[JY];simpa using h)]
theorem Sm(l:FL)(p:Tn):(YH l p).length=Qy l p.1+1+(l.length-QM l p.1):=by
 rw[Rr];have a:=uW l p.1;simp;omega
theorem Ty(l:FL)(p:Tn)(hl:l.length<=8):(8<(YH l p).length)↔(Qy l p.1=QM l p.1∧l.length=8):=by
 rw[Sm];have:=Pj l p.1;omega
theorem BE(l:FL)(k:List UInt8)(hr:XX l):GA l k=l.take (Qy l k)++l.drop (QM l k):=by
 by_cases h:JY l k=tD;·obtain⟨f,g⟩:=jA h;(have e:l=l.take (Qy l k)++(l.getD (Qy l k) ([],[])::l.drop (Qy l k+1)):=by(conv=>lhs;rw[<-tL (Qy l k) l,sI f]);simp[f]);have c:∀j,j<l.length->j≠Qy l k->(l.getD j ([],[])).1≠k:=fun j a n e=>n (PH l k hr j a e).2;(have i:(l.take (Qy l k)).filter (fun q=>!(q.1==k))=l.take (Qy l k):=by rw[tU];intro q d;obtain⟨j,a,rfl⟩:=tC.1 d;(have b:j<Qy l k:=by simp at a;omega);rw[sJ,show l[j]'(by omega)=l.getD j ([],[])by simp[show j<l.length by omega]];simpa using c j (by omega) (by omega));(have m:(l.drop (Qy l k+1)).filter (fun q=>!(q.1==k))=l.drop (Qy l k+1):=by rw[tU];intro q d;obtain⟨j,a,rfl⟩:=tC.1 d;(have b:Qy l k+1+j<l.length:=by simp at a;omega);rw[sS,show l[Qy l k+1+j]=l.getD (Qy l k+1+j) ([],[])by simp[b]];simpa using c _ b (by omega));rw[QM,if_pos h,GA];(conv=>lhs;rw[e]);rw[sO,sY (by simpa using g),i,m]
 ·rw[QM,if_neg h,tL,GA,tU];intro q d;obtain⟨j,a,rfl⟩:=tC.1 d;have:=fun e=>h (PH l k hr j a e).1;rw[show l.getD j ([],[])=l[j]by simp[a]]at this;simpa using this
theorem fX(l:FL)(k:List UInt8)(hr:XX l):Yi l k=if JY l k=tD then(l.getD (Qy l k) ([],[])).2 else[]:=by
 unfold Yi;rw[Hx l k hr];by_cases h:JY l k=tD;·rw[if_pos h,if_pos h];rfl
 ·rw[if_neg h,if_neg h];rfl
theorem Dn(l:FL)(k:List UInt8)(hr:XX l):((l.take (QM l k)).drop (Qy l k)=[]∧Yi l k=[]∧QM l k=Qy l k)∨(∃t,(l.take (QM l k)).drop (Qy l k)=[t]∧Yi l k=t.2∧QM l k=Qy l k+1):=by
 rw[fX l k hr];by_cases h:JY l k=tD;·right;obtain⟨a,b⟩:=jA h;refine⟨l.getD (Qy l k) ([],[]),?_,by rw[if_pos h],by rw[QM,if_pos h]⟩;rw[QM,if_pos h,List.take_succ_eq_append_getElem a,pF (by simp;omega),sB (by simp;omega),pG];simp[a]
 ·left;refine⟨?_,by rw[if_neg h],by rw[QM,if_neg h]⟩;rw[QM,if_neg h,sB (by simp;omega)]
def cH:Prop:=∀(w:tA)(a:Option pJ)(n cap:Nat),pB tI 20 #[tP a n cap] w fun e w'=>e=sW (tR rH (Qs n))∧tB w w' V
def LI:Prop:=∀(w:tA)(v:tE)(r:Rq),UC w->Ux w v r->yQ r->pB tI 13 #[v] w fun e w'=>e=sW (tR rH (Yf r))∧tB w w' V
end Go.Proofs.YtpimcmbjdcjmlaaGreatDoor
