/-
  Texts of this proof, joined, with few blanks: Base, LineF, SlM, PartM, Keys, PlaceM, Trees, TreeF, FitsF, ForestF, RdF, WrM0, TapeF, TapeG, KTree, KPure, ForestK, ForestE, WireF, WireG, LineG, RqMem, RqBox, RqEn, RdM0, ProofM, Sides, ForkF, Bits, Lanes, Cols, Move, Round, IdxF, EqB, ApplyOne, CheckC, CheckP, PosF, FPosF, FCName, RqCk.
-/
import Derived.WalkKit
import Derived.WalkSpells
import Derived.WalkLawsBesides
import Derived.BigRegion
import Derived.Deep.QuietTactic
import Derived.BigQuiet
import Derived.Deep.RegionHeld3
import Derived.Deep.DeepCutAuto
import Derived.Lib.Strings
import Derived.Test.YtpdbpagohccbpaaGreatDoorChecked
set_option maxRecDepth 100000
set_option maxHeartbeats 8000000
open Array renaming getElem?_eq_some_iff->tS,getElem?_modify->tW,ext->oN
open BitVec renaming ofInt->sG,ofInt_natCast->pQ
open Bool renaming true->tE,false->tG,or_eq_false_iff->rV,and_eq_true->oE,or_eq_true->oH
open Classical renaming byContradiction->sS
open Decidable renaming decide->tN
open Go renaming World->tA,Value->tD,TypeId->rB,heap_alloc_new->rP,Calls->pA,Addr->pI,maxLen->oP,info_parts->oQ
open Go.Ending renaming returned->sV
open Go.IntKind renaming i64->rF,u64->rJ,u8->rM,wrap_u64->r7
open Go.Obj renaming cells->tQ
open Go.Op renaming bytesLess->sM
open Go.Proofs.Tryz renaming prog->tH,underlying35->sQ,ntmps28->pJ,func28->pT
open Go.Value renaming slice->tP,int->tR,bool->pS,agg->pZ,tuple->oC,ownBlock->oG
open Go.Value.slice renaming injEq->rH
open Go.World renaming grownBy->tB,setCell->tM,cell?->sE,frozen?->rA,grownBy_alloc->rW
open Int renaming toNat_natCast->rO,le_refl->oO
open List renaming mem_iff_getElem->tC,length_append->tF,append_assoc->tI,eq_nil_of_length_eq_zero->tK,take_append_drop->tL,takeWhile_cons_of_pos->tT,filter_eq_self->tU,mem_cons->tY,drop_eq_nil_of_le->sA,getD_cons_zero->sB,mem_cons_of_mem->sC,append_nil->sD,drop_eq_getElem_cons->sI,getElem_take->sJ,getElem_mem->sK,take_succ_cons->sL,filter_append->sN,filter_eq_nil_iff->sO,getElem_drop->sR,pairwise_singleton->sW,getElem?_map->sY,length_filter_le->rC,pairwise_cons->rK,flatMap_cons->rN,getElem?_eq_getElem->rS,take_left'->rT,drop_left'->rU,any_cons->rX,mem_cons_self->rY,set_eq_take_append_cons_drop->r8,length_cons->pB,mem_filter->pC,take_append_of_le_length->pD,drop_append_of_le_length->pE,nil_append->pF,getElem?_eq_some_iff->pG,pairwise_iff_getElem->pH,filter_cons_of_neg->pK,take_of_length_le->pL,find?_cons_of_pos->pN,find?_cons_of_neg->pO,drop_succ_cons->pV,takeWhile_cons->pX,getElem?_take->pY,length_drop->oF,map_cons->oJ,take_nil->oK
open List.Pairwise renaming cons->tZ,filter->sX,nil->rD
open Nat renaming lt_of_lt_of_le->tX,le_refl->sF,testBit_lt_two_pow->sZ,pow_le_pow_right->rG,le_trans->rI,testBit_div_two_pow->pM,div_div_eq_div_mul->pR,eq_of_testBit_eq->pU,min_eq_left->oI,sub_self->oL,mul_one->oM
open Option renaming some->T,none->V,map_some->sU
open Option.some renaming injEq->tV,inj->pP
open Prod.mk renaming injEq->sH
open UInt8 renaming ofNat->tJ,lt_iff_toNat_lt->sP,toNat_ofNat'->pW,toNat_inj->oD
namespace Go.Proofs.YtpdbpagohccbpaaGreatDoor
open Go.RowKit
section
theorem Qb(w:tA)(r:Option Nat):tB w w r:=⟨rfl,rfl,rfl,sF _,fun _ _ _=>rfl⟩
theorem Qa{w w1 w2:tA}{r:Option Nat}(h:tB w w1 r)(k:tB w1 w2 r):tB w w2 r:=⟨k.os.trans h.os,k.tape.trans h.tape,k.output.trans h.output,rI h.size k.size,fun i a b=>(k.block i (tX a h.size) b).trans (h.block i a b)⟩
theorem Ql{w w1:tA}{r:Option Nat}(h:tB w w1 r):tB w w1.drew r:=⟨h.os,h.tape,h.output,h.size,h.block⟩
theorem Qs{w w1:tA}{r:Option Nat}(h:tB w w1 r)(n:Nat):tB w (w1.drewN n) r:=⟨h.os,h.tape,h.output,h.size,h.block⟩
theorem Qg{w w1:tA}{b:Nat}(h:tB w w1 (T b))(i:Nat)(v:tD):tB w (tM w1 ⟨b,i,V⟩ v) (T b):=Qa h ⟨rfl,rfl,rfl,by
 simp[tM],fun k _ a=>Below.heap_setCell _ _ _ _ (by
 intro e;exact a (by rw[e]))⟩
theorem Qv{w w1:tA}{r:Option Nat}(h:tB w w1 r)(o:Obj):tB w (w1.alloc o) r:=Qa h (rW _ _ _)
theorem Xu{w w1 w2:tA}{r:Option Nat}{c:Nat}(h:tB w w1 r)(hc:w.heap.size<=c)(k:tB w1 w2 (T c)):tB w w2 r:=⟨k.os.trans h.os,k.tape.trans h.tape,k.output.trans h.output,rI h.size k.size,fun i a b=>(k.block i (tX a h.size) (by
 simp;omega)).trans (h.block i a b)⟩
theorem Qc{w w1:tA}{r:Option Nat}(h:tB w w1 r)(c:Nat)(hc:w.heap.size<=c)(i:Nat)(v:tD):tB w (tM w1 ⟨c,i,V⟩ v) r:=Xu h hc (Qg (Qb _ _) i v)
theorem ZU(b o n:Nat):(⟨b,o,V⟩:pI).add n=⟨b,o+n,V⟩:=by
 unfold Addr.add;split;·simp_all
 ·rfl
theorem OV(w:tA):(sizeOf (tH.elem 35)).run tH w=.ok 1 w:=by
 kernel_rfl
theorem aC(W:tA)(pb o len cap:Nat)(l:Int)(n:Nat)(hn:l=(n:Int))(h1:n<=len)(hc:n<cap):(Instr.slice 35 (tP (T ⟨pb,o,V⟩) len cap) (T (tR rF l)) V V).run tH W=.ok (tP (T ⟨pb,o+n,V⟩) (len-n) (cap-n)) W:=by
 subst hn;rw[run_slice_l _ _ _ _ _ (by kernel_rfl) _ _ (by omega) (by omega),OV];simp only[Result.andThen,sliced,rO,sU,oM,ZU];rw[if_neg (by omega)]
theorem Sh(W:tA)(pb o len cap:Nat)(l:Int)(n:Nat)(hn:l=(n:Int))(hc:n<=cap)(h0:0<cap):(Instr.slice 35 (tP (T ⟨pb,o,V⟩) len cap) V (T (tR rF l)) V).run tH W=.ok (tP (T ⟨pb,o,V⟩) n cap) W:=by
 subst hn;rw[run_slice_h _ _ _ _ _ (by kernel_rfl) _ _ (by omega) (by omega),OV];simp only[Result.andThen,sliced,rO,sU,oM,ZU];rw[if_neg (by omega)];simp
def Kt(w:tA)(pb o:Nat)(bs:List UInt8):Prop:=∀i,i<bs.length->w.cell? ⟨pb,o+i,V⟩=T (tR rM ((bs.getD i 0).toNat:Int))
theorem Kt.drew{w:tA}{pb o:Nat}{bs:List UInt8}(h:Kt w pb o bs):Kt w.drew pb o bs:=h
theorem Kt.grown{w w':tA}{pb o:Nat}{bs:List UInt8}{r:Option Nat}(h:Kt w pb o bs)(hg:tB w w' r)(hr:T pb≠r):Kt w' pb o bs:=fun i a=>hg.cell (h i a) hr
def ZM(bs:List UInt8):Array tD:=(bs.map fun c=>tR rM (c.toNat:Int)).toArray
def ZA(w:tA)(b:Nat)(bs:List UInt8):Prop:=∃t,w.heap[b]?=T (tQ (ZM bs) t (0,0))
section
variable{w:tA}{b:Nat}{bs:List UInt8}
theorem ZA.cell(h:ZA w b bs)(i:Nat)(hi:i<bs.length):w.cell? ⟨b,i,V⟩=T (tR rM ((bs.getD i 0).toNat:Int)):=by
 obtain⟨t,a⟩:=h;simp[sE,a,ZM,sY,rS hi]
theorem ZA.frozen(h:ZA w b bs)(i:Nat):w.frozen? ⟨b,i,V⟩=tG:=by
 obtain⟨t,a⟩:=h;simp[rA,a]
theorem ZA.lt(h:ZA w b bs):b<w.heap.size:=by
 obtain⟨t,a⟩:=h;exact(tS.1 a).1
theorem Cv(bs:List UInt8)(i:Nat)(x:UInt8):(ZM bs).setIfInBounds i (tR rM (x.toNat:Int))=ZM (bs.set i x):=by
 simp[ZM]
theorem ZA.set(h:ZA w b bs)(i:Nat)(x:UInt8):ZA (tM w ⟨b,i,V⟩ (tR rM (x.toNat:Int))) b (bs.set i x):=by
 obtain⟨t,a⟩:=h;refine⟨t,?_⟩;simp only[tM,tW,if_true,a,sU];simp[Cv]
theorem ZA.drewN(h:ZA w b bs)(k:Nat):ZA (w.drewN k) b bs:=h
theorem ZA.drew(h:ZA w b bs):ZA w.drew b bs:=h
theorem ZA.alloc(h:ZA w b bs)(o:Obj):ZA (w.alloc o) b bs:=by
 have c:=h.lt;obtain⟨t,a⟩:=h;exact⟨t,by rw[Below.heap_alloc _ _ _ c];exact a⟩
theorem ZA.grown(h:ZA w b bs){w':tA}{r:Option Nat}(hg:tB w w' r)(hr:T b≠r):ZA w' b bs:=by
 have c:=h.lt;obtain⟨t,a⟩:=h;exact⟨t,by rw[hg.block b c hr];exact a⟩
theorem ZA.new(w:tA)(t:rB)(bs:List UInt8):ZA (w.alloc (tQ (ZM bs) t)) w.heap.size bs:=⟨t,rP w _⟩
theorem ZA.at(h:ZA w b bs)(o:Nat)(cs:List UInt8)(hc:∀i,i<cs.length->o+i<bs.length∧bs.getD (o+i) 0=cs.getD i 0):Kt w b o cs:=by
 intro i a;rw[h.cell (o+i) (hc i a).1,(hc i a).2]
end
def Qe(w:tA)(v:tD)(bs:List UInt8):Prop:=∃a cap,v=tP a bs.length cap∧bs.length<=cap∧((bs=[]∧(a=V->cap=0))∨∃b o,a=T ⟨b,o,V⟩∧Kt w b o bs)
theorem Qe.grown{w w':tA}{v:tD}{bs:List UInt8}(h:Qe w v bs)(hg:tB w w' V):Qe w' v bs:=by
 obtain⟨a,cap,rfl,c,h⟩:=h;refine⟨a,cap,rfl,c,?_⟩;rcases h with h|⟨b,o,rfl,h⟩;·exact .inl h
 ·exact .inr ⟨b,o,rfl,h.grown hg (by simp)⟩
theorem Qe.alloc{w:tA}{v:tD}{bs:List UInt8}(h:Qe w v bs)(o:Obj):Qe (w.alloc o) v bs:=h.grown (rW _ _ _)
theorem Qe.drew{w:tA}{v:tD}{bs:List UInt8}(h:Qe w v bs):Qe w.drew v bs:=h
theorem Qe.drewN{w:tA}{v:tD}{bs:List UInt8}(h:Qe w v bs)(n:Nat):Qe (w.drewN n) v bs:=h
theorem ZA.slice{w:tA}{b:Nat}{bs:List UInt8}(h:ZA w b bs)(cap:Nat)(hc:bs.length<=cap):Qe w (tP (T ⟨b,0,V⟩) bs.length cap) bs:=⟨_,cap,rfl,hc,.inr ⟨b,0,rfl,h.at 0 bs fun i a=>by
 simpa using a⟩⟩
theorem QI(w:tA):Qe w (tP V 0 0) []:=⟨V,0,rfl,sF _,.inl ⟨rfl,fun _=>rfl⟩⟩
def K4(n:Nat):List UInt8:=List.replicate n 0
theorem Ew(n:Nat):(K4 n).length=n:=by
 simp[K4]
theorem At(n:Nat):madeCells (tR rM 0).cells (n*1)=ZM (K4 n):=by
 apply oN;·simp[size_madeCells,ZM,K4]
 ·intro i a b;simp[madeCells,ZM,K4,Value.cells,Nat.mod_one]
theorem dP:(tH.info? 5).map (fun i=>(i.zero,i.size,i.bytes))=T (T (tR rM 0),1,1):=by
 kernel_rfl
theorem dM:(tH.info? 5).map (·.size)=T 1:=by
 kernel_rfl
theorem Aj(W:tA)(c:Int)(n:Nat)(hc:c=(n:Int))(hn:n<=1000000):(Instr.makeSlice 35 (tR rF c) (tR rF c)).run tH W=.ok (tP (T ⟨W.heap.size,0,V⟩) n n) (W.alloc (tQ (ZM (K4 n)) 5)):=by
 subst hc;obtain⟨f,e,a,b,d⟩:=oQ dP;have h:=run_make (P:=tH) W 35 5 f (tR rM 0) sQ e a rF rF (n:Int) (n:Int) (by omega) (oO _) (by rw[d];omega) (by omega);rw[h,b,rO,At]
theorem jA(bs:List UInt8):∀v∈(bs.map fun c=>tR rM (c.toNat:Int)),v.oneCell'=tE:=by
 intro v a;obtain⟨c,_,rfl⟩:=List.mem_map.1 a;rfl
theorem No(w:tA)(X Y:Array tD)(t:rB):(w.alloc (tQ X t)).setRow w.heap.size Y=w.alloc (tQ Y t):=by
 simp only[World.setRow,World.alloc];congr 1;apply oN;·simp
 ·intro i b a;simp only[Array.getElem_modify,Array.getElem_push];(have c:i<w.heap.size+1:=by simpa using a);split<;>split<;>first|rfl|omega|(exfalso;omega)|simp_all
theorem AU(w:tA)(a:Option pI)(bs:List UInt8)(cap n m ty:Nat)(hn:bs.length<=n)(hs:Qe w (tP a bs.length cap) bs):(Builtin.copy_ #[35,35] ty #[tP (T ⟨w.heap.size,0,V⟩) n m,tP a bs.length cap]).run tH (w.alloc (tQ (ZM (K4 n)) 5))=.ok (tR rF (bs.length:Int)) (w.alloc (tQ (ZM (bs++K4 (n-bs.length))) 5)):=by
 obtain⟨k,g,e,l,h⟩:=hs.alloc (tQ (ZM (K4 n)) 5);simp only[rH,true_and]at e;obtain⟨rfl,rfl⟩:=e;by_cases i:bs=[];·subst i;have:=run_copy_none (P:=tH) (w.alloc (tQ (ZM (K4 n)) 5)) 35 35 ty 5 (T ⟨w.heap.size,0,V⟩) a n m 0 cap sQ dM (by simp);simpa[goInt]using this
 ·rcases h with h|⟨b,o,rfl,h⟩;(·exact absurd h.1 i);·have:=run_copy_row (P:=tH) (w.alloc (tQ (ZM (K4 n)) 5)) 35 35 ty 5 w.heap.size 0 n m ⟨b,o,V⟩ bs.length cap (ZM (K4 n)) 5 (bs.map fun c=>tR rM (c.toNat:Int)) sQ dM (rP w _) (by simp only[List.length_map];exact(oI hn).symm) (by intro j v d;rw[sY]at d;cases hb:bs[j]?with|none=>rw[hb]at d;simp at d|some c=>rw[hb]at d;simp at d;subst d;rw[ZU];have f:j<bs.length:=(pG.1 hb).1;rw[h j f];simp[hb]) (by simp[ZM,K4];exact hn) (jA bs);rw[this,No];simp[goInt,ZM,K4]
def Vq(bs:List UInt8):List tD:=bs.map fun c=>tR rM (c.toNat:Int)
theorem Ov(bs:List UInt8):(Vq bs).length=bs.length:=by
 simp[Vq]
theorem Mx(a b:List UInt8):Vq (a++b)=Vq a++Vq b:=by
 simp[Vq]
theorem Cl(bs:List UInt8)(j:Nat)(u:tD)(h:(Vq bs)[j]?=T u):j<bs.length∧u=tR rM ((bs.getD j 0).toNat:Int):=by
 rw[Vq,sY]at h;cases hb:bs[j]?with|none=>rw[hb]at h;simp at h|some c=>rw[hb]at h;simp at h;exact⟨(pG.1 hb).1,by simp[hb,<-h]⟩
def Q6(base:Nat)(w:tA)(v:tD)(bs:List UInt8):Prop:=w.ownsRow base 5 1 v bs.length (Vq bs)
theorem QK(base:Nat)(w:tA):Q6 base w (tP V 0 0) []:=World.ownsRow_nil _ _ _ _
theorem Q6.grown{base:Nat}{w w':tA}{v:tD}{bs:List UInt8}(h:Q6 base w v bs){row:Option Nat}(hg:tB w w' row)(hne:v.ownBlock=V∨v.ownBlock≠row):Q6 base w' v bs:=World.ownsRow.kept h hg hne
theorem Q6.grownNone{base:Nat}{w w':tA}{v:tD}{bs:List UInt8}(h:Q6 base w v bs)(hg:tB w w' V):Q6 base w' v bs:=by
 refine h.grown hg ?_;cases hv:v.ownBlock with|none=>exact .inl rfl|some k=>exact .inr (by simp)
theorem Q6.alloc{base:Nat}{w:tA}{v:tD}{bs:List UInt8}(h:Q6 base w v bs)(o:Obj):Q6 base (w.alloc o) v bs:=World.ownsRow.alloc h o
theorem Q6.slice{base:Nat}{w:tA}{v:tD}{bs:List UInt8}(h:Q6 base w v bs):Qe w v bs:=by
 obtain⟨m,d⟩:=h;rcases d with⟨rfl,c⟩|⟨g,cap,a,rfl,n,j,k,o,p,l⟩;·obtain rfl:=tK c;exact QI w
 ·refine⟨_,cap,rfl,k,.inr ⟨g,0,rfl,?_⟩⟩;intro i b;(have f:a.toList[i]?=T (tR rM ((bs.getD i 0).toNat:Int)):=by(have e:(a.toList.take (bs.length*1))[i]?=(Vq bs)[i]?:=by rw[l]);rw[pY,if_pos (by omega)]at e;rw[e,Vq,sY,rS b];simp[b]);simp[sE,j];simpa using f
theorem Q6.lt{base:Nat}{w:tA}{v:tD}{bs:List UInt8}(h:Q6 base w v bs):∀k,v.ownBlock=T k->base<=k∧k<w.heap.size:=World.ownsRow.lt h
theorem Q6.shape{base:Nat}{w:tA}{v:tD}{bs:List UInt8}(h:Q6 base w v bs):∃a cap,v=tP a bs.length cap:=by
 obtain⟨a,cap,e,_⟩:=h.slice;exact⟨a,cap,e⟩
theorem FA(base:Nat)(w:tA)(bs:List UInt8)(hb:base<=w.heap.size)(hm:bs.length<=oP):Q6 base (w.alloc (tQ (ZM bs) 5)) (tP (T ⟨w.heap.size,0,V⟩) bs.length bs.length) bs:=⟨by
 simp[Vq],.inr ⟨w.heap.size,bs.length,ZM bs,rfl,hb,rP w _,sF _,hm,by
 simp[ZM],by
 simp[ZM,Vq,pL]⟩⟩
theorem Xd{w W w1:tA}{v:tD}{bs:List UInt8}(h:tB w W V)(ho:Q6 w.heap.size W v bs)(hg:tB W w1 v.ownBlock):tB w w1 V:=⟨hg.os.trans h.os,hg.tape.trans h.tape,hg.output.trans h.output,rI h.size hg.size,fun i a b=>(hg.block i (tX a h.size) (fun e=>by
 have:=(ho.lt i e.symm).1;omega)).trans (h.block i a b)⟩
theorem Nx(w:tA)(base ty:Nat)(v:tD)(bs:List UInt8)(hown:Q6 base w v bs)(a:Option pI)(m cap:Nat)(cs:List UInt8)(hs:Qe w (tP a m cap) cs)(hbytes:bs.length+m<=140737488355328)(hbase:base<=w.heap.size):∃v' w',(Builtin.append_ #[35,35] ty #[v,tP a m cap]).run tH w=.ok v' w'∧Q6 base w' v' (bs++cs)∧tB w w' v.ownBlock:=by
 obtain⟨q,p,i,k,l⟩:=oQ dP;obtain⟨z,n,e,A,h⟩:=hs;simp only[rH]at e;obtain⟨rfl,rfl,rfl⟩:=e;have f:bs.length+cs.length<=oP:=by unfold oP;omega
 have key:∀d:pI,(∀j u,(Vq cs)[j]?=T u->w.cell? (d.add j)=T u)->∃v' w',(Builtin.append_ #[35,35] ty #[v,tP (T d) cs.length cap]).run tH w=.ok v' w'∧Q6 base w' v' (bs++cs)∧tB w w' v.ownBlock:=by intro d c;obtain⟨v',w',x,t,r,_⟩:=run_append_own (P:=tH) w base 35 ty 5 q (tR rM 0) 1 1 sQ p i k l rfl (by decide) v bs.length (Vq bs) hown d cs.length cap (Vq cs) (by simp[Vq]) c (jA cs) f (by omega) hbase;refine⟨v',w',x,?_,r⟩;unfold Q6;rw[Mx,tF];exact t
 rcases h with⟨rfl,y⟩|⟨b,o,rfl,h⟩;·cases a with|none=>obtain rfl:=y rfl;refine⟨v,w,run_append_owned_none (P:=tH) (w:=w) base 35 ty 5 q 1 sQ p v bs.length (Vq bs) hown,?_,Qb _ _⟩;rw[sD];exact hown|some d=>exact key d (by simp[Vq])
 ·refine key ⟨b,o,V⟩ fun j u s=>?_;obtain⟨g,rfl⟩:=Cl cs j u s;rw[ZU];exact h j g
theorem QH{w:tA}{ops:Array Oper}{rest:List Oper}{o:Oper}{a:Act}{Q:Exit->Act->tA->Prop}(hgd:o.guard=V)(s x:Operand)(ho:o.op=.call {callee:=.builtin .append,args:=#[s,x],argTypes:=#[35,35]})(base:Nat)(v:tD)(bs:List UInt8)(hs:a.eval s=v)(hown:Q6 base w v bs)(xa:Option pI)(m cap:Nat)(cs:List UInt8)(hx:a.eval x=tP xa m cap)(hsl:Qe w (tP xa m cap) cs)(hbytes:bs.length+m<=140737488355328)(hbase:base<=w.heap.size)(h:∀v' w',Q6 base w' v' (bs++cs)->tB w w' v.ownBlock->wpList tH ops Q rest (a.put o.dst v') w'):wpList tH ops Q (o::rest) a w:=by
 refine wpList_plain hgd fun K d=>?_;obtain⟨v',w',b,c,e⟩:=Nx w base o.type v bs hown xa m cap cs hsl hbytes hbase;unfold Oper.wp;simp[execOp,ho,resolve,invoke,builtin,hs,hx,b,Result.andThen];exact d _ _ (h v' w' c e)
theorem Qe.take{w:tA}{a:Option pI}{m cap:Nat}{bs:List UInt8}(h:Qe w (tP a m cap) bs)(k:Nat)(hk:k<=m):Qe w (tP a k cap) (bs.take k):=by
 obtain⟨j,c,e,l,h⟩:=h;simp only[rH]at e;obtain⟨rfl,rfl,rfl⟩:=e;have f:(bs.take k).length=k:=by simp;omega
 refine⟨a,cap,by rw[f],by omega,?_⟩;rcases h with⟨rfl,g⟩|⟨b,o,rfl,h⟩;·exact .inl ⟨by simp,g⟩
 ·refine .inr ⟨b,o,rfl,fun i d=>?_⟩;rw[h i (by omega)];rw[f]at d;simp[d]
theorem L5(bs:List UInt8)(s:ByteArray):((bs.map fun c=>((c.toNat:Nat):Int)).foldl (fun r n=>r.push (tJ n.toNat)) s)=⟨s.data++bs.toArray⟩:=by
 induction bs generalizing s with|nil=>simp|cons c bs ih=>simp only[oJ,List.foldl_cons];rw[ih];congr 1;simp[ByteArray.push]
def jV(bs:List UInt8):ByteArray:=⟨bs.toArray⟩
theorem Pw(bs:List UInt8):(jV bs).toList=bs:=by
 rw[Lib.toList_data];rfl
theorem F0(W:tA)(v:tD)(bs:List UInt8)(hs:Qe W v bs):(convert 35 9 v).run tH W=.ok (.string (jV bs)) W:=by
 obtain⟨a,cap,rfl,k,h⟩:=hs;rw[run_convert_bytes_string W 35 9 5 a bs.length cap sQ Tryz.underlying5 Tryz.underlying9];have key:∀e:pI,(∀j u,(Vq bs)[j]?=T u->W.cell? (e.add j)=T u)->(Conv.bytesToString (tP (T e) bs.length cap)).run tH W=.ok (.string (jV bs)) W:=by intro e d;have g:=run_loadCells_list (P:=tH) W e (Vq bs) d;rw[Ov]at g;have:=run_bytesToString (P:=tH) W e bs.length cap (bs.map fun c=>((c.toNat:Nat):Int)) (by rw[g];simp[Vq]);rw[this,L5];simp[jV]
 rcases h with⟨rfl,l⟩|⟨b,o,rfl,h⟩;·cases a with|none=>simp[Conv.bytesToString,jV];rfl|some e=>exact key e (by simp[Vq])
 ·refine key ⟨b,o,V⟩ fun j u i=>?_;obtain⟨f,rfl⟩:=Cl bs j u i;rw[ZU];exact h j f
theorem ZA.slice32{w:tA}{b:Nat}{bs:List UInt8}(h:ZA w b bs)(hl:bs.length=32):Qe w (tP (T ⟨b,0,V⟩) 32 32) bs:=by
 have:=h.slice 32 (by omega);rw[hl]at this;exact this
theorem Uw(w:tA)(x:UInt8)(t:rB):Qe (w.alloc (tQ #[tR rM (x.toNat:Int)] t)) (tP (T ⟨w.heap.size,0,V⟩) 1 1) [x]:=(ZA.new w t [x]).slice 1 (by
 simp)
theorem EQ(w:tA)(x y:UInt8)(t:rB):Qe (w.alloc (tQ #[tR rM (x.toNat:Int),tR rM (y.toNat:Int)] t)) (tP (T ⟨w.heap.size,0,V⟩) 2 2) [x,y]:=(ZA.new w t [x,y]).slice 2 (by
 simp)
theorem Kc{base base':Nat}{w:tA}{v:tD}{bs:List UInt8}(h:Q6 base w v bs)(hb:base'<=base):Q6 base' w v bs:=by
 refine⟨h.1,?_⟩;rcases h.2with b|⟨g,cap,a,c,b,d⟩;·exact .inl b
 ·exact .inr ⟨g,cap,a,c,rI hb b,d⟩
end
structure Ac where
  kind : Int
  sess : Int
  keep : Int
  data : List UInt8
def XP:Ac:=⟨0,0,0,[]⟩
def YM(a:Ac):Int:=if 1<=a.kind∧a.kind<=4then(if(a.kind=1∧¬(0<=a.sess∧a.sess<=7))∨(a.kind=3∧¬(0<=a.keep∧a.keep<=200000))then 2 else if 4000<a.data.length then 1 else if(a.kind≠1∧a.sess≠0)∨(a.kind≠3∧a.keep≠0)∨(a.kind≠1∧0<a.data.length)then 4 else 0)else 5
structure XT(a:Ac):Prop where kind:1<=a.kind∧a.kind<=4sess:a.kind=1->0<=a.sess∧a.sess<=7keep:a.kind=3->0<=a.keep∧a.keep<=200000data:a.data.length<=4000noSess:a.kind≠1->a.sess=0noKeep:a.kind≠3->a.keep=0noData:a.kind≠1->a.data=[]
theorem kN(a:Ac):YM a=0↔XT a:=by
 unfold YM;by_cases g:1<=a.kind∧a.kind<=4;·rw[if_pos g];by_cases c:(a.kind=1∧¬(0<=a.sess∧a.sess<=7))∨(a.kind=3∧¬(0<=a.keep∧a.keep<=200000));(·rw[if_pos c];refine⟨fun e=>(by cases e),fun h=>?_⟩;rcases c with⟨c,d⟩|⟨c,d⟩;(·exact absurd (h.sess c) d);·exact absurd (h.keep c) d);·rw[if_neg c];by_cases d:4000<a.data.length;(·rw[if_pos d];exact⟨fun e=>(by cases e),fun h=>by have:=h.data;omega⟩);·rw[if_neg d];by_cases b:(a.kind≠1∧a.sess≠0)∨(a.kind≠3∧a.keep≠0)∨(a.kind≠1∧0<a.data.length);(·rw[if_pos b];refine⟨fun e=>(by cases e),fun h=>?_⟩;rcases b with⟨b,f⟩|⟨b,f⟩|⟨b,f⟩;(·exact absurd (h.noSess b) f);(·exact absurd (h.noKeep b) f);·rw[h.noData b]at f;simp at f);·rw[if_neg b];refine⟨fun _=>⟨g,fun h=>?_,fun h=>?_,by omega,fun h=>?_,fun h=>?_,fun h=>?_⟩,fun _=>rfl⟩;(·exact sS fun e=>c (.inl ⟨h,e⟩));(·exact sS fun e=>c (.inr ⟨h,e⟩));(·exact sS fun e=>b (.inl ⟨h,e⟩));(·exact sS fun e=>b (.inr (.inl ⟨h,e⟩)));·refine tK ?_;have:¬0<a.data.length:=fun e=>b (.inr (.inr ⟨h,e⟩));omega
 ·rw[if_neg g];exact⟨fun e=>(by cases e),fun h=>absurd h.kind g⟩
def gJ(n:Nat):UInt8:=tJ (48+n)
def eF(n:Nat):List UInt8:=if n<10then[gJ n]else eF (n/10)++[gJ (n%10)]termination_by n decreasing_by
 omega
def f8(n:Nat):UInt8:=if n<10then tJ (48+n)else tJ (87+n)
def gU(bs:List UInt8):List UInt8:=bs.flatMap fun c=>[f8 (c.toNat/16),f8 (c.toNat%16)]
def gW:List UInt8:=[97,115,107]
def fQ:List UInt8:=[115,121,110,99]
def eQ:List UInt8:=[99,114,97,115,104]
def dY:List UInt8:=[115,116,97,114,116]
def gO(a:Ac):List UInt8:=if a.kind=1then gW++32::(eF a.sess.toNat++32::gU a.data)else if a.kind=2then fQ else if a.kind=3then eQ++32::eF a.keep.toNat else if a.kind=4then dY else[]
theorem Zi(w:tA)(o:Obj):∃W:tA,Hid (W=w.alloc o)∧tB w W V∧Hid (W.heap[w.heap.size]?=T o):=⟨w.alloc o,rfl,rW _ _ _,rP w o⟩
theorem Qe.shape{w:tA}{v:tD}{bs:List UInt8}(h:Qe w v bs):∃a cap,v=tP a bs.length cap:=by
 obtain⟨a,cap,rfl,_⟩:=h;exact⟨a,cap,rfl⟩
theorem QO{W w:tA}{b:Nat}{x y:tD}{t:rB}(hg:tB W w V)(h:W.heap[b]?=T (tQ #[x,y] t)):w.cell? ⟨b,0,V⟩=T x∧w.cell? ⟨b,1,V⟩=T y∧w.frozen? ⟨b,0,V⟩=tG∧w.frozen? ⟨b,1,V⟩=tG:=by
 have a:w.heap[b]?=T (tQ #[x,y] t):=by rw[hg.block b (tS.1 h).1 (by simp)];exact h
 refine⟨by simp[sE,a],by simp[sE,a],by simp[rA,a],by simp[rA,a]⟩
theorem zH{W w:tA}{b:Nat}{x y:tD}{t:rB}(hg:tB W w V)(h:W.heap[b]?=T (tQ #[x,y] t)){G:Prop}(k:w.heap[b]?=T (tQ #[x,y] t)->w.cell? ⟨b,0,V⟩=T x->w.cell? ⟨b,1,V⟩=T y->w.frozen? ⟨b,0,V⟩=tG->w.frozen? ⟨b,1,V⟩=tG->G):G:=by
 obtain⟨a,c,d,e⟩:=QO hg h;exact k (by rw[hg.block b (tS.1 h).1 (by simp)];exact h) a c d e
theorem Qd{W w:tA}{b:Nat}{o:Obj}(hg:tB W w V)(h:W.heap[b]?=T o):w.heap[b]?=T o:=by
 rw[hg.block b (tS.1 h).1 (by simp)];exact h
def Qh(base:Nat)(w:tA)(v:tD)(bs:List UInt8):Prop:=Qe w v bs∧(bs=[]∨∃b,v.ownBlock=T b∧b<w.heap.size∧(b<base∨∃cur fz,w.heap[b]?=T (tQ cur 5 fz)))
theorem Qh.slice{base:Nat}{w:tA}{v:tD}{bs:List UInt8}(h:Qh base w v bs):Qe w v bs:=h.1
theorem Q6.part{base base':Nat}{w:tA}{v:tD}{bs:List UInt8}(h:Q6 base' w v bs):Qh base w v bs:=by
 refine⟨h.slice,?_⟩;rcases h.2with⟨rfl,c⟩|⟨g,cap,a,rfl,d,b,_⟩;·exact .inl (tK c)
 ·exact .inr ⟨g,rfl,(tS.1 b).1,.inr ⟨a,_,b⟩⟩
theorem Vj{w:tA}{b o:Nat}{v:tD}(h:w.cell? ⟨b,o,V⟩=T v):b<w.heap.size:=by
 by_cases a:b<w.heap.size;·exact a
 ·simp[sE,Array.getElem?_eq_none (Nat.le_of_not_lt a)]at h
theorem Qe.part{w w':tA}{v:tD}{bs:List UInt8}(h:Qe w v bs)(hg:tB w w' V)(base:Nat)(hb:w.heap.size<=base):Qh base w' v bs:=by
 refine⟨h.grown hg,?_⟩;obtain⟨a,cap,rfl,e,h⟩:=h;rcases h with⟨rfl,_⟩|⟨b,o,rfl,h⟩;·exact .inl rfl
 ·by_cases c:bs=[];(·exact .inl c);·have d:0<bs.length:=List.length_pos_iff.2 c;have:=Vj (h 0 d);exact .inr ⟨b,rfl,tX this hg.size,.inl (by omega)⟩
theorem Qh.mono{base base':Nat}{w:tA}{v:tD}{bs:List UInt8}(h:Qh base w v bs)(hb:base<=base'):Qh base' w v bs:=by
 refine⟨h.1,?_⟩;rcases h.2with h|⟨b,c,d,a⟩;·exact .inl h
 ·refine .inr ⟨b,c,d,?_⟩;rcases a with a|a;(·exact .inl (by omega));·exact .inr a
theorem Zz{base:Nat}{w:tA}{v:tD}{bs:List UInt8}(h:Qh base w v bs):v.oneCell'=tE:=by
 obtain⟨⟨a,cap,rfl,_⟩,_⟩:=h;rfl
theorem Qh.keptT{base:Nat}{w w':tA}{v:tD}{bs:List UInt8}(h:Qh base w v bs){row:Option Nat}(hg:tB w w' row)(hrow:row=V∨∃g cur t fz,row=T g∧base<=g∧w.heap[g]?=T (tQ cur t fz)∧t≠5):Qh base w' v bs:=by
 obtain⟨q,x⟩:=h;rcases x with rfl|⟨b,l,j,c⟩;·obtain⟨a,cap,rfl,c,h⟩:=q;refine⟨⟨a,cap,rfl,c,?_⟩,.inl rfl⟩;rcases h with h|⟨b,o,rfl,h⟩;(·exact .inl h);·exact .inr ⟨b,o,rfl,fun i n=>by simp at n⟩
 ·(have k:T b≠row:=by intro e;rcases hrow with rfl|⟨g,cur,t,fz,rfl,u,d,y⟩;(·cases e);·cases e;rcases c with c|⟨p,s,c⟩;(·omega);·rw[c]at d;simp only[tV,Obj.cells.injEq]at d;exact y d.2.1.symm);have f:=hg.block b j k;refine⟨?_,.inr ⟨b,l,tX j hg.size,?_⟩⟩;(·obtain⟨a,cap,rfl,m,h⟩:=q;refine⟨a,cap,rfl,m,?_⟩;rcases h with h|⟨r,o,rfl,h⟩;(·exact .inl h);·refine .inr ⟨r,o,rfl,fun i n=>?_⟩;simp[oG]at l;subst l;exact hg.cell (h i n) (by simpa using k));·rcases c with c|⟨cur,fz,c⟩;(·exact .inl c);·exact .inr ⟨cur,fz,by rw[f];exact c⟩
def ZJ(k:List UInt8)(i:Nat):Bool:=if i/9<k.length then(if i%9=0then tE else(k.getD (i/9) 0).toNat.testBit (8-i%9))else tG
theorem KR(k:List UInt8)(p:Nat):ZJ k (9*p)=tN (p<k.length):=by
 unfold ZJ;rw[show 9*p/9=p by omega,show 9*p%9=0 by omega];by_cases h:p<k.length<;>simp[h]
theorem KS(k:List UInt8)(p r:Nat)(hp:p<k.length)(hr:1<=r)(hr8:r<=8):ZJ k (9*p+r)=(k.getD p 0).toNat.testBit (8-r):=by
 unfold ZJ;rw[show(9*p+r)/9=p by omega,show(9*p+r)%9=r by omega,if_pos hp,if_neg (by omega)]
theorem EC(k:List UInt8)(i:Nat)(h:k.length<=i/9):ZJ k i=tG:=by
 unfold ZJ;rw[if_neg (by omega)]
theorem D4(x y:UInt8)(h:∀j,j<8->x.toNat.testBit j=y.toNat.testBit j):x=y:=by
 apply oD.1;apply pU;intro j;by_cases a:j<8;·exact h j a
 ·rw[sZ (tX x.toNat_lt (rG (by decide) (by omega:8<=j))),sZ (tX y.toNat_lt (rG (by decide) (by omega:8<=j)))]
theorem We(a b:List UInt8)(ha:a.length<=16)(hb:b.length<=16)(h:∀i,i<145->ZJ a i=ZJ b i):a=b:=by
 have f:a.length=b.length:=by have c:=h (9*a.length) (by omega);have d:=h (9*b.length) (by omega);rw[KR,KR]at c d;simp at c d;omega
 apply List.ext_getElem f;intro p c d;have e:a.getD p 0=b.getD p 0:=by apply D4;intro j g;have:=h (9*p+(8-j)) (by omega);rw[KS a p _ c (by omega) (by omega),KS b p _ d (by omega) (by omega),show 8-(8-j)=j by omega]at this;exact this
 simpa[c,d]using e
def xH(a b:List UInt8):Nat->Nat->Int|0,_=>-1|n+1,i=>if ZJ a i=ZJ b i then xH a b n (i+1)else(i:Int)
def Jv(a b:List UInt8):Int:=xH a b 145 0
theorem Ro(a b:List UInt8)(n i:Nat):(xH a b n i=-1∧∀j,i<=j->j<i+n->ZJ a j=ZJ b j)∨∃m:Nat,xH a b n i=(m:Int)∧i<=m∧m<i+n∧(∀j,i<=j->j<m->ZJ a j=ZJ b j)∧ZJ a m≠ZJ b m:=by
 induction n generalizing i with|zero=>exact .inl ⟨rfl,fun j _ h=>by omega⟩|succ n ih=>unfold xH;by_cases d:ZJ a i=ZJ b i;(·rw[if_pos d];rcases ih (i+1)with⟨f,g⟩|⟨m,f,g,p,k,l⟩;(·refine .inl ⟨f,fun j o e=>?_⟩;by_cases c:j=i;(·subst c;exact d);·exact g j (by omega) (by omega));·refine .inr ⟨m,f,by omega,by omega,fun j o e=>?_,l⟩;by_cases c:j=i;(·subst c;exact d);·exact k j (by omega) e);·rw[if_neg d];exact .inr ⟨i,rfl,sF _,by omega,fun j f g=>by omega,d⟩
theorem JA(a b:List UInt8):(Jv a b=-1∧∀j,j<145->ZJ a j=ZJ b j)∨∃m:Nat,Jv a b=(m:Int)∧m<145∧(∀j,j<m->ZJ a j=ZJ b j)∧ZJ a m≠ZJ b m:=by
 rcases Ro a b 145 0with⟨c,e⟩|⟨m,c,_,h,f,g⟩;·exact .inl ⟨c,fun j d=>e j (by omega) (by omega)⟩
 ·exact .inr ⟨m,c,by omega,fun j d=>f j (by omega) d,g⟩
theorem M8(a b:List UInt8)(m:Nat)(hm:m<145)(h:∀j,j<m->ZJ a j=ZJ b j)(hd:ZJ a m≠ZJ b m):Jv a b=(m:Int):=by
 rcases JA a b with⟨_,f⟩|⟨e,g,f,i,k⟩;·exact absurd (f m hm) hd
 ·by_cases d:e<m;(·exact absurd (h e d) k);·by_cases c:m<e;(·exact absurd (i m c) hd);·rw[g];omega
theorem Th(a b:List UInt8)(h:∀j,j<145->ZJ a j=ZJ b j):Jv a b=-1:=by
 rcases JA a b with⟨c,_⟩|⟨f,_,d,_,e⟩;·exact c
 ·exact absurd (h f d) e
theorem PG(a b:List UInt8):-1<=Jv a b∧Jv a b<=144:=by
 rcases JA a b with⟨h,_⟩|⟨m,h,c,_⟩<;>omega
theorem Bt(a b:List UInt8)(ha:a.length<=16)(hb:b.length<=16):Jv a b<0↔a=b:=by
 constructor;·intro h;rcases JA a b with⟨_,c⟩|⟨m,d,_⟩;(·exact We a b ha hb c);·omega
 ·rintro rfl;rw[Th a a fun _ _=>rfl];decide
theorem Pb(x y:UInt8)(a b:List UInt8):sM (x::a) (y::b)=(tN (x<y)||(x==y&&sM a b)):=by
 simp[sM]
theorem EW:∀(p:Nat)(a b:List UInt8),(∀i,i<p->i<a.length∧i<b.length∧a.getD i 0=b.getD i 0)->sM a b=sM (a.drop p) (b.drop p)|0,a,b,_=>by simp|p+1,[],b,h=>by have:=(h 0 (by omega)).1;simp at this|p+1,x::a,[],h=>by have:=(h 0 (by omega)).2.1;simp at this|p+1,x::a,y::b,h=>by have c:=(h 0 (by omega)).2.2;simp at c;subst c;rw[Pb,pV,pV,<-EW p a b fun i d=>by have:=h (i+1) (by omega);simp at this;simpa using this];simp
theorem Dy(a:List UInt8):sM a []=tG:=by
 cases a<;>rfl
theorem Pu(a:List UInt8)(p:Nat)(h:p<a.length):a.drop p=a.getD p 0::a.drop (p+1):=by
 rw[sI h];simp[h]
theorem Ek(x y j:Nat)(hx:x.testBit j=tG)(hy:y.testBit j=tE)(h:∀i,j<i->x.testBit i=y.testBit i):x<y:=by
 have a:x/2^(j+1)=y/2^(j+1):=by apply pU;intro i;rw[pM,pM];exact h _ (by omega)
 rw[Nat.testBit_eq_decide_div_mod_eq]at hx hy;simp at hx hy;rw[Nat.pow_succ,<-pR,<-pR]at a;exact Nat.lt_of_div_lt_div (c:=2^j) (by omega)
theorem WC(x y:UInt8)(j:Nat)(hd:x.toNat.testBit j≠y.toNat.testBit j)(h:∀i,j<i->x.toNat.testBit i=y.toNat.testBit i):(tN (x<y)||(x==y&&tG))=y.toNat.testBit j:=by
 cases hy:y.toNat.testBit j with|true=>(have a:x.toNat.testBit j=tG:=by cases a:x.toNat.testBit j with|true=>exact absurd (a.trans hy.symm) hd|false=>rfl);have:=Ek _ _ j a hy h;simp[sP,this]|false=>(have a:x.toNat.testBit j=tE:=by cases a:x.toNat.testBit j with|true=>rfl|false=>exact absurd (a.trans hy.symm) hd);have:=Ek _ _ j hy a (fun i b=>(h i b).symm);simp[sP];omega
theorem FP(a b:List UInt8)(m:Nat)(h:∀j,j<m->ZJ a j=ZJ b j)(hd:ZJ a m≠ZJ b m):ZJ b m=sM a b:=by
 have q:m/9<a.length∨m/9<b.length:=by by_cases r:m/9<a.length;(·exact .inl r);·by_cases s:m/9<b.length;(·exact .inr s);·rw[EC a m (by omega),EC b m (by omega)]at hd;exact absurd rfl hd
 have n:∀i,i<m/9->i<a.length∧i<b.length∧a.getD i 0=b.getD i 0:=by intro i t;have k:=h (9*i) (by omega);rw[KR,KR]at k;(have c:i<a.length∧i<b.length:=by simp at k;omega);refine⟨c.1,c.2,D4 _ _ fun j v=>?_⟩;have:=h (9*i+(8-j)) (by omega);rw[KS a i _ c.1 (by omega) (by omega),KS b i _ c.2 (by omega) (by omega),show 8-(8-j)=j by omega]at this;exact this
 rw[EW (m/9) a b n];by_cases w:m%9=0;·(have o:m=9*(m/9):=by omega);have g:=KR a (m/9);have f:=KR b (m/9);rw[<-o]at g f;by_cases d:m/9<b.length;(·have l:¬m/9<a.length:=fun l=>hd (by rw[g,f];simp[l,d]);rw[f,sA (by omega),Pu b _ d];simp[d,sM]);·rw[f,sA (show b.length<=m/9by omega),Dy];simp[d]
 ·have k:=h (9*(m/9)) (by omega);rw[KR,KR]at k;(have c:m/9<a.length∧m/9<b.length:=by simp at k;omega);(have o:m=9*(m/9)+m%9:=by omega);have g:=KS a (m/9) (m%9) c.1 (by omega) (by omega);have f:=KS b (m/9) (m%9) c.2 (by omega) (by omega);rw[<-o]at g f;rw[Pu a _ c.1,Pu b _ c.2,Pb,f];rw[g,f]at hd;(have p:(a.getD (m/9) 0==b.getD (m/9) 0)=tG:=by rw[beq_eq_false_iff_ne];intro e;rw[e]at hd;exact hd rfl);rw[p,Bool.false_and];have:=WC (a.getD (m/9) 0) (b.getD (m/9) 0) (8-m%9) hd (fun i t=>by by_cases u:i<8;(·have:=h (9*(m/9)+(8-i)) (by omega);rw[KS a _ _ c.1 (by omega) (by omega),KS b _ _ c.2 (by omega) (by omega),show 8-(8-i)=i by omega]at this;exact this);·rw[sZ (tX (a.getD (m/9) 0).toNat_lt (rG (by decide) (by omega:8<=i))),sZ (tX (b.getD (m/9) 0).toNat_lt (rG (by decide) (by omega:8<=i)))]);rw[Bool.and_false]at this;exact this.symm
def Qn(n:Nat):Int:=if 1<=n∧n<=16then 0 else 1
def Bs(k:List UInt8)(i:Int):Bool×Int:=if 1<=k.length∧k.length<=16then(if 0<=i∧i<=144then(ZJ k i.toNat,0)else(tG,2))else(tG,1)
def FH(a b:List UInt8):Int×Int:=if 1<=a.length∧a.length<=16then(if 1<=b.length∧b.length<=16then(Jv a b,0)else(0,1))else(0,1)
theorem bF(k:List UInt8)(i:Nat)(hk:1<=k.length∧k.length<=16)(hi:i<145):Bs k (i:Int)=(ZJ k i,0):=by
 rw[Bs,if_pos hk,if_pos (by omega)];rfl
theorem Of(a b:List UInt8)(ha:1<=a.length∧a.length<=16)(hb:1<=b.length∧b.length<=16):FH a b=(Jv a b,0):=by
 rw[FH,if_pos ha,if_pos hb]
structure Zc where
  name : List UInt8
  key : List UInt8
  value : List UInt8
  gone : Bool
def YF(p:Zc):Prop:=p.name.length<=140737488355328∧p.key.length<=140737488355328∧p.value.length<=140737488355328
def Qo:Zc:=⟨[],[],[],tG⟩
theorem Qi{W w:tA}{b:Nat}{x y z u:tD}{t:rB}(hg:tB W w V)(h:W.heap[b]?=T (tQ #[x,y,z,u] t)):(w.cell? ⟨b,0,V⟩=T x∧w.cell? ⟨b,1,V⟩=T y∧w.cell? ⟨b,2,V⟩=T z∧w.cell? ⟨b,3,V⟩=T u)∧w.frozen? ⟨b,0,V⟩=tG∧w.frozen? ⟨b,1,V⟩=tG∧w.frozen? ⟨b,2,V⟩=tG∧w.frozen? ⟨b,3,V⟩=tG∧w.heap[b]?=T (tQ #[x,y,z,u] t):=by
 have a:w.heap[b]?=T (tQ #[x,y,z,u] t):=by rw[hg.block b (tS.1 h).1 (by simp)];exact h
 refine⟨⟨?_,?_,?_,?_⟩,?_,?_,?_,?_,a⟩;all_goals simp[sE,rA,a]
theorem Jj{w:tA}{b:Nat}{x y z u:tD}{t:rB}(h:w.heap[b]?=T (tQ #[x,y,z,u] t))(x' y' z' u':tD):((((tM w ⟨b,0,V⟩ x').setCell ⟨b,1,V⟩ y').setCell ⟨b,2,V⟩ z').setCell ⟨b,3,V⟩ u').heap[b]?=T (tQ #[x',y',z',u'] t)∧(tM w ⟨b,0,V⟩ x').cell? ⟨b,0,V⟩=T x'∧((tM w ⟨b,0,V⟩ x').setCell ⟨b,1,V⟩ y').cell? ⟨b,1,V⟩=T y'∧(((tM w ⟨b,0,V⟩ x').setCell ⟨b,1,V⟩ y').setCell ⟨b,2,V⟩ z').cell? ⟨b,2,V⟩=T z'∧((((tM w ⟨b,0,V⟩ x').setCell ⟨b,1,V⟩ y').setCell ⟨b,2,V⟩ z').setCell ⟨b,3,V⟩ u').cell? ⟨b,3,V⟩=T u':=by
 have a:(tM w ⟨b,0,V⟩ x').heap[b]?=T (tQ #[x',y,z,u] t):=by simp only[tM,tW,if_true,h,sU];first|rfl|simp
 have c:((tM w ⟨b,0,V⟩ x').setCell ⟨b,1,V⟩ y').heap[b]?=T (tQ #[x',y',z,u] t):=by rw[tM,tW,if_pos rfl,a];first|rfl|simp
 have d:(((tM w ⟨b,0,V⟩ x').setCell ⟨b,1,V⟩ y').setCell ⟨b,2,V⟩ z').heap[b]?=T (tQ #[x',y',z',u] t):=by rw[tM,tW,if_pos rfl,c];first|rfl|simp
 have e:((((tM w ⟨b,0,V⟩ x').setCell ⟨b,1,V⟩ y').setCell ⟨b,2,V⟩ z').setCell ⟨b,3,V⟩ u').heap[b]?=T (tQ #[x',y',z',u'] t):=by rw[tM,tW,if_pos rfl,d];first|rfl|simp
 exact⟨e,by simp[sE,a],by simp[sE,c],by simp[sE,d],by simp[sE,e]⟩
theorem Q6.setBlk{base:Nat}{w:tA}{v:tD}{bs:List UInt8}(h:Q6 base w v bs){b:Nat}{cur:Array tD}{t:rB}{fz:Nat×Nat}(hb:w.heap[b]?=T (tQ cur t fz))(ht:t≠5)(i:Nat)(u:tD):Q6 base (tM w ⟨b,i,V⟩ u) v bs:=by
 refine h.grown (row:=T b) (Qg (Qb _ _) i u) ?_;rcases h.2with⟨rfl,_⟩|⟨g,cap,a,rfl,_,c,_⟩;·exact .inl rfl
 ·right;intro e;simp[oG]at e;subst e;rw[c]at hb;simp at hb;exact ht hb.2.1.symm
theorem Jf{w w1:tA}(h:tB w w1 V)(b:Nat)(hb:w.heap.size<=b)(x y z u:tD):tB w ((((tM w1 ⟨b,0,V⟩ x).setCell ⟨b,1,V⟩ y).setCell ⟨b,2,V⟩ z).setCell ⟨b,3,V⟩ u) V:=Qc (Qc (Qc (Qc h _ hb _ _) _ hb _ _) _ hb _ _) _ hb _ _
abbrev Pr:=List UInt8×List UInt8
abbrev PL:=List Pr
abbrev Yy(a b:List UInt8):Bool:=sM a b
theorem Fv(a:List UInt8):Yy a []=tG:=Dy a
theorem vC(x y:UInt8)(a b:List UInt8):Yy (x::a) (y::b)=(tN (x<y)||(x==y&&Yy a b)):=Pb x y a b
theorem XX:∀a:List UInt8,Yy a a=tG|[]=>rfl|x::a=>by rw[vC,XX a];simp
theorem JW:∀a b c:List UInt8,Yy a b=tE->Yy b c=tE->Yy a c=tE|_,[],_,h,_=>by rw[Fv]at h;cases h|_,_::_,[],_,h=>by rw[Fv]at h;cases h|[],_::_,_::_,_,_=>rfl|x::a,y::b,z::c,e,d=>by rw[vC]at e d⊢;simp only[oH,decide_eq_true_eq,oE,beq_iff_eq,sP]at e d⊢;rcases e with e|⟨rfl,e⟩;(·rcases d with d|⟨rfl,d⟩;(·left;omega);·left;exact e);·rcases d with d|⟨rfl,d⟩;(·left;exact d);·right;exact⟨rfl,JW a b c e d⟩
theorem Up:∀a b:List UInt8,Yy a b=tG->a≠b->Yy b a=tE|[],[],_,h=>absurd rfl h|[],_::_,h,_=>by cases h|_::_,[],_,_=>rfl|x::a,y::b,h1,h2=>by rw[vC]at h1⊢;simp only[rV,decide_eq_false_iff_not,Bool.and_eq_false_iff,beq_eq_false_iff_ne,sP]at h1;simp only[oH,decide_eq_true_eq,oE,beq_iff_eq,sP];by_cases e:y=x;(·subst e;right;refine⟨rfl,Up a b ?_ (fun e=>h2 (by rw[e]))⟩;rcases h1.2with h|h;(·exact absurd rfl h);·exact h);·left;have:x.toNat≠y.toNat:=fun h=>e (oD.1 h.symm);omega
theorem Lq(a b:List UInt8)(h:Yy a b=tE):Yy b a=tG:=by
 cases hb:Yy b a with|false=>rfl|true=>have:=JW a b a h hb;rw[XX]at this;cases this
theorem dR{a b:List UInt8}(h:Yy a b=tE):a≠b:=by
 rintro rfl;rw[XX]at h;cases h
def QQ(p:Pr):Int:=if 32<p.2.length then 1 else Qn p.1.length
def XC(l:PL)(i:Nat):Int:=if QQ (l.getD i ([],[]))=0then(if 0<i∧Yy (l.getD (i-1) ([],[])).1 (l.getD i ([],[])).1=tG then 3 else 0)else QQ (l.getD i ([],[]))
def JS(l:PL):Nat->Nat->Int|0,_=>0|n+1,i=>if XC l i=0then JS l n (i+1)else XC l i
def Qz(l:PL):Int:=if 60<l.length then 1 else JS l l.length 0
theorem qW(l:PL)(n i:Nat)(hi:i<=n)(h:∀j,j<i->XC l j=0):JS l n 0=JS l (n-i) i:=by
 induction i with|zero=>rfl|succ i ih=>rw[ih (by omega) (fun j a=>h j (by omega)),show n-i=(n-(i+1))+1by omega,JS,if_pos (h i (by omega))]
theorem yY(l:PL)(i:Nat)(hi:i<l.length)(hl:l.length<=60)(h:∀j,j<i->XC l j=0)(hf:XC l i≠0):Qz l=XC l i:=by
 rw[Qz,if_neg (by omega),qW l _ i (by omega) h,show l.length-i=(l.length-(i+1))+1by omega,JS,if_neg hf]
theorem qV(l:PL)(hl:l.length<=60)(h:∀j,j<l.length->XC l j=0):Qz l=0:=by
 rw[Qz,if_neg (by omega),qW l _ l.length (sF _) h,oL,JS]
theorem qS(l:PL)(hl:60<l.length):Qz l=1:=by
 rw[Qz,if_pos hl]
theorem zV(l:PL):∀(n i:Nat),JS l n i=0->∀j,i<=j->j<i+n->XC l j=0|0,i,_,j,h1,h2=>by omega|n+1,i,h,j,h1,h2=>by rw[JS]at h;by_cases e:XC l i=0;(·rw[if_pos e]at h;by_cases a:j=i;(·subst a;exact e);·exact zV l n (i+1) h j (by omega) (by omega));·rw[if_neg e]at h;exact absurd h e
def Uf(l:PL):Prop:=l.Pairwise fun p q=>Yy p.1 q.1=tE
structure Zv(l:PL):Prop where room:l.length<=60pairs:∀p∈l,(1<=p.1.length∧p.1.length<=16)∧p.2.length<=32rises:Uf l
theorem Jo(p:Pr):QQ p=0↔(1<=p.1.length∧p.1.length<=16)∧p.2.length<=32:=by
 unfold QQ Qn;by_cases h:32<p.2.length;·rw[if_pos h];constructor;(·intro h;cases h);·intro h;omega
 ·rw[if_neg h];by_cases a:1<=p.1.length∧p.1.length<=16;(·rw[if_pos a];exact⟨fun _=>⟨a,by omega⟩,fun _=>rfl⟩);·rw[if_neg a];constructor;(·intro h;cases h);·intro h;exact absurd h.1 a
theorem PR(l:PL)(i:Nat):XC l i=0↔QQ (l.getD i ([],[]))=0∧(0<i->Yy (l.getD (i-1) ([],[])).1 (l.getD i ([],[])).1=tE):=by
 unfold XC;by_cases h:QQ (l.getD i ([],[]))=0;·rw[if_pos h];by_cases a:0<i∧Yy (l.getD (i-1) ([],[])).1 (l.getD i ([],[])).1=tG;(·rw[if_pos a];constructor;(·intro h;cases h);·intro b;have:=b.2 a.1;rw[a.2]at this;cases this);·rw[if_neg a];refine⟨fun _=>⟨h,fun c=>?_⟩,fun _=>rfl⟩;cases hk:Yy (l.getD (i-1) ([],[])).1 (l.getD i ([],[])).1with|true=>rfl|false=>exact absurd ⟨c,hk⟩ a
 ·rw[if_neg h];constructor;(·intro a;exact absurd a h);·intro a;exact absurd a.1 h
theorem zO:∀l:PL,(∀i,0<i->i<l.length->Yy (l.getD (i-1) ([],[])).1 (l.getD i ([],[])).1=tE)->Uf l|[],_=>rD|[_],_=>sW _ _|p::q::r,h=>by(have c:Uf (q::r):=zO (q::r) fun i e d=>by have:=h (i+1) (by omega) (by simp at d⊢;omega);rw[show i+1-1=(i-1)+1by omega]at this;simpa using this);(have a:Yy p.1 q.1=tE:=by have:=h 1 (by omega) (by simp);simpa using this);refine tZ (fun x b=>?_) c;rcases tY.1 b with rfl|b;(·exact a);·exact JW _ _ _ a ((rK.1 c).1 x b)
theorem Uv(l:PL)(h:Uf l)(i j:Nat)(hij:i<j)(hj:j<l.length):Yy (l.getD i ([],[])).1 (l.getD j ([],[])).1=tE:=by
 have:=pH.1 h i j (by omega) hj hij;simpa[hj,show i<l.length by omega]using this
theorem YE(l:PL):Qz l=0↔Zv l:=by
 constructor;·intro h;(have c:l.length<=60:=by by_cases c:60<l.length;(·rw[qS l c]at h;cases h);·omega);rw[Qz,if_neg (by omega)]at h;have e:=fun j(b:j<l.length)=>(PR l j).1 (zV l l.length 0 h j (by omega) (by omega));refine⟨c,fun p f=>?_,zO l fun i d a=>(e i a).2 d⟩;obtain⟨i,a,rfl⟩:=tC.1 f;have:=(Jo _).1 (e i a).1;simpa[a]using this
 ·intro h;refine qV l h.room fun j b=>(PR l j).2 ⟨(Jo _).2 ?_,fun d=>Uv l h.rises _ _ (by omega) b⟩;have:=h.pairs l[j] (sK b);simpa[b]using this
theorem On:Zv []:=⟨by
 simp,by
 simp,rD⟩
def Ru(l:PL)(k:List UInt8):Option (List UInt8):=(l.find? fun p=>p.1==k).map (·.2)
theorem T9(p:Pr)(l:PL)(k:List UInt8):Ru (p::l) k=if p.1=k then T p.2 else Ru l k:=by
 unfold Ru;by_cases h:p.1=k;·rw[pN (by simpa using h),if_pos h];rfl
 ·rw[pO (by simpa using h),if_neg h]
theorem IF:∀(l:PL)(k:List UInt8)(i:Nat),i<l.length->(∀j,j<i->(l.getD j ([],[])).1≠k)->(l.getD i ([],[])).1=k->Ru l k=T (l.getD i ([],[])).2|[],_,_,h,_,_=>by simp at h|p::l,k,0,_,_,h2=>by rw[T9,if_pos (by simpa using h2)];simp|p::l,k,i+1,h,h1,h2=>by rw[T9,if_neg (by simpa using h1 0 (by omega))];have:=IF l k i (by simpa using h) (fun j a=>by simpa using h1 (j+1) (by omega)) (by simpa using h2);simpa using this
theorem M9:∀(l:PL)(k:List UInt8),(∀j,j<l.length->(l.getD j ([],[])).1≠k)->Ru l k=V|[],_,_=>rfl|p::l,k,h=>by rw[T9,if_neg (by simpa using h 0 (by simp))];exact M9 l k fun j a=>by simpa using h (j+1) (by simpa using a)
def JU:PL->Pr->PL|[],p=>[p]|q::r,p=>if Yy q.1 p.1=tE then q::JU r p else if q.1=p.1then p::r else p::q::r
def jP(l:PL)(k:List UInt8):PL:=l.filter fun q=>!(q.1==k)
def UY(l:PL)(a b:List UInt8):PL:=l.filter fun q=>!Yy q.1 a&&!Yy b q.1
theorem NK(l:PL)(p x:Pr):x∈JU l p->x=p∨x∈l:=by
 induction l with|nil=>intro h;simp[JU]at h;exact .inl h|cons q r ih=>intro h;rw[JU]at h;by_cases a:Yy q.1 p.1=tE;(·rw[if_pos a]at h;rcases tY.1 h with rfl|h;(·exact .inr (by simp));·rcases ih h with h|h;(·exact .inl h);·exact .inr (sC _ h));·rw[if_neg a]at h;by_cases b:q.1=p.1;(·rw[if_pos b]at h;rcases tY.1 h with h|h;(·exact .inl h);·exact .inr (sC _ h));·rw[if_neg b]at h;rcases tY.1 h with h|h;(·exact .inl h);·exact .inr h
theorem vQ(l:PL)(p:Pr)(h:Uf l):Uf (JU l p):=by
 induction l with|nil=>exact sW _ _|cons q r ih=>have c:=rK.1 h;rw[JU];by_cases d:Yy q.1 p.1=tE;(·rw[if_pos d];refine tZ (fun x a=>?_) (ih c.2);rcases NK r p x a with rfl|a;(·exact d);·exact c.1 x a);·rw[if_neg d];by_cases e:q.1=p.1;(·rw[if_pos e];exact tZ (fun x a=>by rw[<-e];exact c.1 x a) c.2);·rw[if_neg e];have b:=Up _ _ (by simpa using d) e;refine tZ (fun x a=>?_) h;rcases tY.1 a with rfl|a;(·exact b);·exact JW _ _ _ b (c.1 x a)
theorem EO(l:PL)(k:List UInt8)(h:Uf l):Uf (jP l k):=sX _ h
theorem Ch(l:PL)(a b:List UInt8)(h:Uf l):Uf (UY l a b):=sX _ h
def Z4(l:PL)(k:List UInt8):Int:=if Qz l=0then Qn k.length else Qz l
theorem yK{l:PL}{k:List UInt8}(h:Z4 l k=0):Zv l:=by
 unfold Z4 at h;by_cases a:Qz l=0;·exact(YE l).1 a
 ·rw[if_neg a]at h;exact absurd h a
theorem Zr(n:Nat):Qn n=0↔1<=n∧n<=16:=by
 unfold Qn;by_cases h:1<=n∧n<=16;·rw[if_pos h];exact⟨fun _=>h,fun _=>rfl⟩
 ·rw[if_neg h];constructor;(·intro a;cases a);·intro a;exact absurd a h
theorem IQ{l:PL}{k:List UInt8}(h:Z4 l k=0):1<=k.length∧k.length<=16:=by
 have a:=(YE l).2 (yK h);unfold Z4 at h;rw[if_pos a]at h;exact(Zr _).1 h
theorem vH{l:PL}{k:List UInt8}(h:Zv l)(hk:1<=k.length∧k.length<=16):Z4 l k=0:=by
 unfold Z4;rw[if_pos ((YE l).2 h)];exact(Zr _).2 hk
def Rt(l:PL)(k:List UInt8):Bool:=Z4 l k==0&&(Ru l k).isSome
def Rv(l:PL)(k:List UInt8):List UInt8:=if Z4 l k=0then(Ru l k).getD []else[]
def zC(l:PL)(k:List UInt8):PL:=if Z4 l k=0then jP l k else[]
theorem Sk(l:PL)(k:List UInt8):(jP l k).length<=l.length:=rC _ _
def Ys(l:PL)(f t:List UInt8):Int:=if Z4 l f=0then Qn t.length else Z4 l f
theorem C1{l:PL}{f t:List UInt8}(h:Ys l f t=0):Z4 l f=0:=by
 unfold Ys at h;by_cases a:Z4 l f=0;·exact a
 ·rw[if_neg a]at h;exact absurd h a
def Kw(l:PL)(f t:List UInt8):PL:=if Ys l f t=0then UY l f t else[]
theorem Hn(l:PL)(f t:List UInt8):(UY l f t).length<=l.length:=rC _ _
def VK(l:PL)(p:Pr):Int:=if Qz l=0then QQ p else Qz l
def JZ(l:PL)(p:Pr):Int:=if VK l p=0then(if 60<(JU l p).length then 11 else 0)else VK l p
def U8(l:PL)(p:Pr):PL:=if JZ l p=0then JU l p else[]
theorem bO(l:PL)(p:Pr):(JU l p).length<=l.length+1:=by
 induction l with|nil=>simp[JU]|cons q r ih=>rw[JU];by_cases a:Yy q.1 p.1=tE;(·rw[if_pos a];simp;omega);·rw[if_neg a];by_cases b:q.1=p.1;(·rw[if_pos b];simp);·rw[if_neg b];simp
structure kM (l : PL) : Prop where
  many : l.length * 48 <= 140737488355328
  each : ∀ i, i < l.length -> (l.getD i ([], [])).1.length <= 140737488355328 ∧ (l.getD i ([], [])).2.length <= 140737488355328
theorem kM.len{l:PL}(h:kM l):l.length<=140737488355328:=by
 have:=h.many;omega
theorem Zv.fits{l:PL}(h:Zv l):kM l:=by
 refine⟨by have:=h.room;omega,fun i a=>?_⟩;have:=h.pairs l[i] (sK a);rw[show l[i]=l.getD i ([],[])by simp[a]]at this;omega
abbrev Tn:=List UInt8×PL
abbrev FL:=List Tn
def Yt(l:FL):Prop:=l.Pairwise fun p q=>Yy p.1 q.1=tE
def zP(l:FL)(k:List UInt8):Option PL:=(l.find? fun p=>p.1==k).map (·.2)
theorem jR(p:Tn)(l:FL)(k:List UInt8):zP (p::l) k=if p.1=k then T p.2 else zP l k:=by
 unfold zP;by_cases h:p.1=k;·rw[pN (by simpa using h),if_pos h];rfl
 ·rw[pO (by simpa using h),if_neg h]
theorem D9:∀(l:FL)(k:List UInt8)(i:Nat),i<l.length->(∀j,j<i->(l.getD j ([],[])).1≠k)->(l.getD i ([],[])).1=k->zP l k=T (l.getD i ([],[])).2|[],_,_,h,_,_=>by simp at h|p::l,k,0,_,_,h2=>by rw[jR,if_pos (by simpa using h2)];simp|p::l,k,i+1,h,h1,h2=>by rw[jR,if_neg (by simpa using h1 0 (by omega))];have:=D9 l k i (by simpa using h) (fun j a=>by simpa using h1 (j+1) (by omega)) (by simpa using h2);simpa using this
theorem Tt:∀(l:FL)(k:List UInt8),(∀j,j<l.length->(l.getD j ([],[])).1≠k)->zP l k=V|[],_,_=>rfl|p::l,k,h=>by rw[jR,if_neg (by simpa using h 0 (by simp))];exact Tt l k fun j a=>by simpa using h (j+1) (by simpa using a)
def Jg:FL->Tn->FL|[],p=>[p]|q::r,p=>if Yy q.1 p.1=tE then q::Jg r p else if q.1=p.1then p::r else p::q::r
def jX(l:FL)(k:List UInt8):FL:=l.filter fun q=>!(q.1==k)
theorem Ed(l:FL)(p x:Tn):x∈Jg l p->x=p∨x∈l:=by
 induction l with|nil=>intro h;simp[Jg]at h;exact .inl h|cons q r ih=>intro h;rw[Jg]at h;by_cases a:Yy q.1 p.1=tE;(·rw[if_pos a]at h;rcases tY.1 h with rfl|h;(·exact .inr (by simp));·rcases ih h with h|h;(·exact .inl h);·exact .inr (sC _ h));·rw[if_neg a]at h;by_cases b:q.1=p.1;(·rw[if_pos b]at h;rcases tY.1 h with h|h;(·exact .inl h);·exact .inr (sC _ h));·rw[if_neg b]at h;rcases tY.1 h with h|h;(·exact .inl h);·exact .inr h
theorem Mv(l:FL)(p:Tn)(h:Yt l):Yt (Jg l p):=by
 induction l with|nil=>exact sW _ _|cons q r ih=>have c:=rK.1 h;rw[Jg];by_cases d:Yy q.1 p.1=tE;(·rw[if_pos d];refine tZ (fun x a=>?_) (ih c.2);rcases Ed r p x a with rfl|a;(·exact d);·exact c.1 x a);·rw[if_neg d];by_cases e:q.1=p.1;(·rw[if_pos e];exact tZ (fun x a=>by rw[<-e];exact c.1 x a) c.2);·rw[if_neg e];have b:=Up _ _ (by simpa using d) e;refine tZ (fun x a=>?_) h;rcases tY.1 a with rfl|a;(·exact b);·exact JW _ _ _ b (c.1 x a)
theorem Ca(l:FL)(k:List UInt8)(h:Yt l):Yt (jX l k):=sX _ h
theorem Hh(l:FL)(p:Tn):(Jg l p).length<=l.length+1:=by
 induction l with|nil=>simp[Jg]|cons q r ih=>rw[Jg];by_cases a:Yy q.1 p.1=tE;(·rw[if_pos a];simp;omega);·rw[if_neg a];by_cases b:q.1=p.1;(·rw[if_pos b];simp);·rw[if_neg b];simp
theorem EX(l:FL)(k:List UInt8):(jX l k).length<=l.length:=rC _ _
def Qt(n:Nat):Int:=if 1<=n∧n<=8then 0 else 1
theorem Zt(n:Nat):Qt n=0↔1<=n∧n<=8:=by
 unfold Qt;by_cases h:1<=n∧n<=8;·rw[if_pos h];exact⟨fun _=>h,fun _=>rfl⟩
 ·rw[if_neg h];constructor;(·intro a;cases a);·intro a;exact absurd a h
def Xw(t:Tn):Int:=if Qt t.1.length=0then(if t.2.length=0then 4 else Qz t.2)else Qt t.1.length
theorem vF(t:Tn):Xw t=0↔(1<=t.1.length∧t.1.length<=8)∧t.2≠[]∧Zv t.2:=by
 unfold Xw;by_cases h:Qt t.1.length=0;·rw[if_pos h];by_cases a:t.2.length=0;(·rw[if_pos a];constructor;(·intro b;cases b);·intro b;exact absurd (tK a) b.2.1);·rw[if_neg a,YE];exact⟨fun b=>⟨(Zt _).1 h,fun e=>a (by rw[e];rfl),b⟩,fun b=>b.2.2⟩
 ·rw[if_neg h];constructor;(·intro a;exact absurd a h);·intro a;exact absurd ((Zt _).2 a.1) h
def J6(l:FL)(i:Nat):Int:=if Xw (l.getD i ([],[]))=0then(if 0<i∧Yy (l.getD (i-1) ([],[])).1 (l.getD i ([],[])).1=tG then 3 else 0)else Xw (l.getD i ([],[]))
def Vh(l:FL):Nat->Nat->Int|0,_=>0|n+1,i=>if J6 l i=0then Vh l n (i+1)else J6 l i
def QZ(l:FL):Int:=if 8<l.length then 1 else Vh l l.length 0
theorem yU(l:FL)(n i:Nat)(hi:i<=n)(h:∀j,j<i->J6 l j=0):Vh l n 0=Vh l (n-i) i:=by
 induction i with|zero=>rfl|succ i ih=>rw[ih (by omega) (fun j a=>h j (by omega)),show n-i=(n-(i+1))+1by omega,Vh,if_pos (h i (by omega))]
theorem Rc(l:FL)(i:Nat)(hi:i<l.length)(hl:l.length<=8)(h:∀j,j<i->J6 l j=0)(hf:J6 l i≠0):QZ l=J6 l i:=by
 rw[QZ,if_neg (by omega),yU l _ i (by omega) h,show l.length-i=(l.length-(i+1))+1by omega,Vh,if_neg hf]
theorem kZ(l:FL)(hl:l.length<=8)(h:∀j,j<l.length->J6 l j=0):QZ l=0:=by
 rw[QZ,if_neg (by omega),yU l _ l.length (sF _) h,oL,Vh]
theorem vA(l:FL)(hl:8<l.length):QZ l=1:=by
 rw[QZ,if_pos hl]
theorem uY(l:FL):∀(n i:Nat),Vh l n i=0->∀j,i<=j->j<i+n->J6 l j=0|0,i,_,j,h1,h2=>by omega|n+1,i,h,j,h1,h2=>by rw[Vh]at h;by_cases e:J6 l i=0;(·rw[if_pos e]at h;by_cases a:j=i;(·subst a;exact e);·exact uY l n (i+1) h j (by omega) (by omega));·rw[if_neg e]at h;exact absurd h e
theorem R6(l:FL)(i:Nat):J6 l i=0↔Xw (l.getD i ([],[]))=0∧(0<i->Yy (l.getD (i-1) ([],[])).1 (l.getD i ([],[])).1=tE):=by
 unfold J6;by_cases h:Xw (l.getD i ([],[]))=0;·rw[if_pos h];by_cases a:0<i∧Yy (l.getD (i-1) ([],[])).1 (l.getD i ([],[])).1=tG;(·rw[if_pos a];constructor;(·intro h;cases h);·intro b;have:=b.2 a.1;rw[a.2]at this;cases this);·rw[if_neg a];refine⟨fun _=>⟨h,fun c=>?_⟩,fun _=>rfl⟩;cases hk:Yy (l.getD (i-1) ([],[])).1 (l.getD i ([],[])).1with|true=>rfl|false=>exact absurd ⟨c,hk⟩ a
 ·rw[if_neg h];constructor;(·intro a;exact absurd a h);·intro a;exact absurd a.1 h
theorem GK:∀l:FL,(∀i,0<i->i<l.length->Yy (l.getD (i-1) ([],[])).1 (l.getD i ([],[])).1=tE)->Yt l|[],_=>rD|[_],_=>sW _ _|p::q::r,h=>by(have c:Yt (q::r):=GK (q::r) fun i e d=>by have:=h (i+1) (by omega) (by simp at d⊢;omega);rw[show i+1-1=(i-1)+1by omega]at this;simpa using this);(have a:Yy p.1 q.1=tE:=by have:=h 1 (by omega) (by simp);simpa using this);refine tZ (fun x b=>?_) c;rcases tY.1 b with rfl|b;(·exact a);·exact JW _ _ _ a ((rK.1 c).1 x b)
theorem qH(l:FL)(h:Yt l)(i j:Nat)(hij:i<j)(hj:j<l.length):Yy (l.getD i ([],[])).1 (l.getD j ([],[])).1=tE:=by
 have:=pH.1 h i j (by omega) hj hij;simpa[hj,show i<l.length by omega]using this
structure Xh(l:FL):Prop where room:l.length<=8tens:∀t∈l,(1<=t.1.length∧t.1.length<=8)∧t.2≠[]∧Zv t.2rises:Yt l
theorem XW(l:FL):QZ l=0↔Xh l:=by
 constructor;·intro h;(have c:l.length<=8:=by by_cases c:8<l.length;(·rw[vA l c]at h;cases h);·omega);rw[QZ,if_neg (by omega)]at h;have e:=fun j(b:j<l.length)=>(R6 l j).1 (uY l l.length 0 h j (by omega) (by omega));refine⟨c,fun p f=>?_,GK l fun i d a=>(e i a).2 d⟩;obtain⟨i,a,rfl⟩:=tC.1 f;have:=(vF _).1 (e i a).1;simpa[a]using this
 ·intro h;refine kZ l h.room fun j b=>(R6 l j).2 ⟨(vF _).2 ?_,fun d=>qH l h.rises _ _ (by omega) b⟩;have:=h.tens l[j] (sK b);simpa[b]using this
theorem G2:Xh []:=⟨by
 simp,by
 simp,rD⟩
def Y0(l:FL)(n:List UInt8):PL:=(zP l n).getD []
theorem dW(n:List UInt8):Y0 [] n=[]:=rfl
theorem K2{l:FL}(h:Xh l)(n:List UInt8):Zv (Y0 l n):=by
 unfold Y0 zP;cases hf:l.find? (fun p=>p.1==n)with|none=>exact On|some t=>exact(h.tens t (List.mem_of_find?_eq_some hf)).2.2
def QA(w:Zc):Int:=if Qt w.name.length=0then(if w.gone=tE then(if Qn w.key.length=0then(if 0<w.value.length then 4 else 0)else Qn w.key.length)else QQ (w.key,w.value))else Qt w.name.length
def Yn(l:FL)(w:Zc):PL:=if w.gone=tE then jP (Y0 l w.name) w.key else JU (Y0 l w.name) (w.key,w.value)
def GR(l:FL)(w:Zc):Int:=if w.gone=tE then Z4 (Y0 l w.name) w.key else JZ (Y0 l w.name) (w.key,w.value)
def Zo(l:FL)(w:Zc):FL:=if(Yn l w).length=0then jX l w.name else Jg l (w.name,Yn l w)
def Yr(l:FL)(w:Zc):Int:=if GR l w=0then(if 8<(Zo l w).length then 11 else 0)else GR l w
def Z7:FL->List Zc->Int|_,[]=>0|l,w::ws=>if QA w=0then(if Yr l w=0then Z7 (Zo l w) ws else Yr l w)else QA w
def Jh:FL->List Zc->FL|l,[]=>l|l,w::ws=>Jh (Zo l w) ws
def QT(l:FL)(ws:List Zc):Int:=if QZ l=0then(if 10<ws.length then 1 else Z7 l ws)else QZ l
def Xn(l:FL)(ws:List Zc):FL:=if QT l ws=0then Jh l ws else[]
theorem XF(w:Zc):QA w=0↔(1<=w.name.length∧w.name.length<=8)∧(1<=w.key.length∧w.key.length<=16)∧(if w.gone=tE then w.value=[]else w.value.length<=32):=by
 unfold QA;by_cases b:Qt w.name.length=0;·rw[if_pos b];have c:=(Zt _).1 b;by_cases d:w.gone=tE;(·rw[if_pos d,if_pos d];by_cases a:Qn w.key.length=0;(·rw[if_pos a];have f:=(Zr _).1 a;by_cases e:0<w.value.length;(·rw[if_pos e];constructor;(·intro h;cases h);·intro h;rw[h.2.2]at e;simp at e);·rw[if_neg e];exact⟨fun _=>⟨c,f,tK (by omega)⟩,fun _=>rfl⟩);·rw[if_neg a];constructor;(·intro h;exact absurd h a);·intro h;exact absurd ((Zr _).2 h.2.1) a);·rw[if_neg d,if_neg d,Jo];exact⟨fun h=>⟨c,h.1,h.2⟩,fun h=>⟨h.2.1,h.2.2⟩⟩
 ·rw[if_neg b];constructor;(·intro h;exact absurd h b);·intro h;exact absurd ((Zt _).2 h.1) b
theorem WD{l:FL}(h:Xh l){w:Zc}(hw:QA w=0)(he:GR l w=0):Zv (Yn l w):=by
 obtain⟨_,g,f⟩:=(XF w).1 hw;have b:=K2 h w.name;unfold Yn;unfold GR at he;by_cases e:w.gone=tE;·rw[if_pos e];exact⟨rI (Sk _ _) b.room,fun p i=>b.pairs p (pC.1 i).1,EO _ _ b.rises⟩
 ·rw[if_neg e]at he f⊢;(have a:¬60<(JU (Y0 l w.name) (w.key,w.value)).length:=by intro a;unfold JZ at he;by_cases c:VK (Y0 l w.name) (w.key,w.value)=0;(·rw[if_pos c,if_pos a]at he;cases he);·rw[if_neg c]at he;exact c he);refine⟨by omega,fun q d=>?_,vQ _ _ b.rises⟩;rcases NK _ _ q d with rfl|d;(·exact⟨g,f⟩);·exact b.pairs q d
theorem Rr{l:FL}(h:Yt l)(w:Zc):Yt (Zo l w):=by
 unfold Zo;by_cases a:(Yn l w).length=0;·rw[if_pos a];exact Ca _ _ h
 ·rw[if_neg a];exact Mv _ _ h
theorem xU{l:FL}(h:Xh l){w:Zc}(hw:QA w=0)(he:Yr l w=0):Xh (Zo l w):=by
 have c:GR l w=0:=by by_cases a:GR l w=0;(·exact a);·unfold Yr at he;rw[if_neg a]at he;exact absurd he a
 have f:(Zo l w).length<=8:=by unfold Yr at he;rw[if_pos c]at he;by_cases d:8<(Zo l w).length;(·rw[if_pos d]at he;cases he);·omega
 obtain⟨g,_,_⟩:=(XF w).1 hw;refine⟨f,fun t b=>?_,Rr h.rises w⟩;unfold Zo at b;by_cases a:(Yn l w).length=0;·rw[if_pos a]at b;exact h.tens t (pC.1 b).1
 ·rw[if_neg a]at b;rcases Ed _ _ t b with rfl|b;(·exact⟨g,fun e=>a (by rw[show Yn l w=[]from e];rfl),WD h hw c⟩);·exact h.tens t b
structure Rd where
  name : List UInt8
  key : List UInt8
  wide : Bool
  last : List UInt8
def Zb:Rd:=⟨[],[],tG,[]⟩
def Xx(r:Rd):Int:=if Qt r.name.length=0then(if Qn r.key.length=0then(if r.wide=tE then Qn r.last.length else(if 0<r.last.length then 4 else 0))else Qn r.key.length)else Qt r.name.length
theorem RZ(r:Rd):Xx r=0↔(1<=r.name.length∧r.name.length<=8)∧(1<=r.key.length∧r.key.length<=16)∧(if r.wide=tE then 1<=r.last.length∧r.last.length<=16 else r.last=[]):=by
 unfold Xx;by_cases c:Qt r.name.length=0;·rw[if_pos c];have d:=(Zt _).1 c;by_cases a:Qn r.key.length=0;(·rw[if_pos a];have b:=(Zr _).1 a;by_cases f:r.wide=tE;(·rw[if_pos f,if_pos f,Zr];exact⟨fun h=>⟨d,b,h⟩,fun h=>h.2.2⟩);·rw[if_neg f,if_neg f];by_cases e:0<r.last.length;(·rw[if_pos e];exact⟨fun h=>by omega,fun h=>by rw[h.2.2]at e;simp at e⟩);·rw[if_neg e];exact⟨fun _=>⟨d,b,tK (by omega)⟩,fun _=>rfl⟩);·rw[if_neg a];exact⟨fun h=>absurd h a,fun h=>absurd ((Zr _).2 h.2.1) a⟩
 ·rw[if_neg c];exact⟨fun h=>absurd h c,fun h=>absurd ((Zt _).2 h.1) c⟩
def ZZ(w:tA)(v:tD)(p:Zc):Prop:=∃vn vk vv,v=pZ #[vn,vk,pS p.gone,vv]∧Qe w vn p.name∧Qe w vk p.key∧Qe w vv p.value
theorem ZZ.grown{w w':tA}{v:tD}{p:Zc}(h:ZZ w v p)(hg:tB w w' V):ZZ w' v p:=by
 obtain⟨e,d,f,rfl,a,b,c⟩:=h;exact⟨e,d,f,rfl,a.grown hg,b.grown hg,c.grown hg⟩
theorem ZZ.aggW{w:tA}{v:tD}{p:Zc}(h:ZZ w v p):∃na nc ka kc va vc,v=pZ #[tP na p.name.length nc,tP ka p.key.length kc,pS p.gone,tP va p.value.length vc]:=by
 obtain⟨e,d,f,rfl,a,b,c⟩:=h;obtain⟨na,nc,rfl⟩:=a.shape;obtain⟨ka,kc,rfl⟩:=b.shape;obtain⟨va,vc,rfl⟩:=c.shape;exact⟨na,nc,ka,kc,va,vc,rfl⟩
def uO(w:tA)(b o:Nat)(p:Zc):Prop:=∃vn vk vv,w.cell? ⟨b,o,V⟩=T vn∧w.cell? ⟨b,o+1,V⟩=T vk∧w.cell? ⟨b,o+2,V⟩=T (pS p.gone)∧w.cell? ⟨b,o+3,V⟩=T vv∧Qe w vn p.name∧Qe w vk p.key∧Qe w vv p.value
theorem uO.grown{w w':tA}{b o:Nat}{p:Zc}(h:uO w b o p)(hg:tB w w' V):uO w' b o p:=by
 obtain⟨k,j,l,a,c,d,e,f,g,i⟩:=h;exact⟨k,j,l,hg.cell a (by simp),hg.cell c (by simp),hg.cell d (by simp),hg.cell e (by simp),f.grown hg,g.grown hg,i.grown hg⟩
def QN(w:tA)(v:tD)(l:List Zc):Prop:=∃a cap,v=tP a l.length cap∧l.length<=cap∧((l=[]∧(a=V->cap=0))∨∃b o,a=T ⟨b,o,V⟩∧∀i,i<l.length->uO w b (o+i*4) (l.getD i Qo))
theorem QN.shape{w:tA}{v:tD}{l:List Zc}(h:QN w v l):∃a cap,v=tP a l.length cap:=by
 obtain⟨a,cap,rfl,_⟩:=h;exact⟨a,cap,rfl⟩
theorem QN.grown{w w':tA}{v:tD}{l:List Zc}(h:QN w v l)(hg:tB w w' V):QN w' v l:=by
 obtain⟨a,cap,rfl,c,h⟩:=h;refine⟨a,cap,rfl,c,?_⟩;rcases h with h|⟨b,o,rfl,h⟩;·exact .inl h
 ·exact .inr ⟨b,o,rfl,fun i d=>(h i d).grown hg⟩
theorem QN.at{w:tA}{a:Option pI}{n cap:Nat}{l:List Zc}(h:QN w (tP a n cap) l)(i:Nat)(hi:i<l.length):∃b o,a=T ⟨b,o,V⟩∧uO w b (o+i*4) (l.getD i Qo):=by
 obtain⟨d,c,e,f,h⟩:=h;simp only[rH]at e;obtain⟨rfl,rfl,rfl⟩:=e;rcases h with⟨rfl,_⟩|⟨b,o,rfl,h⟩;·simp at hi
 ·exact⟨b,o,rfl,h i hi⟩
structure kP (l : List Zc) : Prop where
  many : l.length * 80 <= 140737488355328
  each : ∀ i, i < l.length -> YF (l.getD i Qo)
theorem kP.len{l:List Zc}(h:kP l):l.length<=140737488355328:=by
 have:=h.many;omega
structure Xy where
  turn : Int
  writes : List Zc
def Zh:Xy:=⟨0,[]⟩
def C0:Nat->List Zc->Int|_,[]=>0|i,w::ws=>if(if 10<=i then(1:Int)else QA w)=0then C0 (i+1) ws else(if 10<=i then(1:Int)else QA w)
def Q7(c:Xy):Int:=if 1<=c.turn∧c.turn<=1048576then(if c.writes.length=0then 1 else C0 0 c.writes)else 2
theorem SH:∀(ws:List Zc)(i:Nat),C0 i ws=0↔(ws=[]∨i+ws.length<=10)∧∀w∈ws,QA w=0|[],i=>by simp[C0]|w::ws,i=>by have f:=SH ws (i+1);rw[C0];by_cases b:10<=i;(·rw[if_pos b,if_neg (by omega)];constructor;(·intro h;omega);·rintro⟨h|h,_⟩;(·cases h);·simp at h;omega);·rw[if_neg b];by_cases d:QA w=0;(·rw[if_pos d,f];constructor;(·rintro⟨a,c⟩;refine⟨.inr ?_,?_⟩;(·rcases a with rfl|a;(·simp;omega);·simp;omega);·intro x e;rcases tY.1 e with rfl|e;(·exact d);·exact c x e);·rintro⟨a,c⟩;refine⟨.inr ?_,fun x e=>c x (sC _ e)⟩;rcases a with a|a;(·cases a);·simp at a;omega);·rw[if_neg d];constructor;(·intro h;exact absurd h d);·rintro⟨_,c⟩;exact absurd (c w (rY ..)) d
theorem Kz(c:Xy):Q7 c=0↔(1<=c.turn∧c.turn<=1048576)∧(1<=c.writes.length∧c.writes.length<=10)∧∀w∈c.writes,QA w=0:=by
 unfold Q7;by_cases a:1<=c.turn∧c.turn<=1048576;·rw[if_pos a];by_cases b:c.writes.length=0;(·rw[if_pos b];constructor;(·intro h;omega);·rintro⟨_,h,_⟩;omega);·rw[if_neg b,SH];constructor;(·rintro⟨d|d,e⟩;(·rw[d]at b;simp at b);·exact⟨a,⟨by omega,by omega⟩,e⟩);·rintro⟨_,d,e⟩;exact⟨.inr (by omega),e⟩
 ·rw[if_neg a];constructor;(·intro h;omega);·rintro⟨h,_⟩;exact absurd h a
theorem O9(ws:List Zc)(i:Nat)(h:i<ws.length):C0 i (ws.drop i)=if(if 10<=i then(1:Int)else QA (ws.getD i Qo))=0then C0 (i+1) (ws.drop (i+1))else(if 10<=i then(1:Int)else QA (ws.getD i Qo)):=by
 rw[sI h,C0,show ws[i]=ws.getD i Qo by simp[h]]
theorem bI(ws:List Zc):C0 ws.length (ws.drop ws.length)=0:=by
 rw[List.drop_length,C0]
def XH(p:List UInt8):List UInt8:=tJ p.length::p
theorem G0(p:List UInt8):(XH p).length=p.length+1:=rfl
def Gg(w:Zc):List UInt8:=if w.gone=tE then[255]else XH w.value
def X9(w:Zc):List UInt8:=XH w.name++XH w.key++Gg w
def UO(t n:Nat):List UInt8:=[tJ (t/65536),tJ (t/256%256),tJ (t%256),tJ n]
def Ze(c:Xy):List UInt8:=UO c.turn.toNat c.writes.length++c.writes.flatMap X9
def Zq:List UInt8->Option (List UInt8×List UInt8)|[]=>V|x::r=>if x.toNat<=r.length then T (r.take x.toNat,r.drop x.toNat)else V
def uF(n k r:List UInt8):Option (Zc×List UInt8):=if r.head?=T 255then T (⟨n,k,[],tE⟩,r.tail)else match Zq r with|T (v,r2)=>T (⟨n,k,v,tG⟩,r2)|none=>V
def Mc(n r:List UInt8):Option (Zc×List UInt8):=match Zq r with|T (k,r2)=>uF n k r2|none=>V
def YX(r:List UInt8):Option (Zc×List UInt8):=match Zq r with|T (n,r2)=>Mc n r2|none=>V
def ZK:Nat->List UInt8->Option (List Zc×List UInt8)|0,r=>T ([],r)|n+1,r=>match YX r with|T (w,r1)=>(match ZK n r1 with|T (ws,r2)=>T (w::ws,r2)|none=>V)|none=>V
theorem Db{p:List UInt8}(h:p.length<256):(tJ p.length).toNat=p.length:=by
 simp;omega
theorem U9(p r:List UInt8)(h:p.length<256):Zq (XH p++r)=T (p,r):=by
 show Zq (tJ p.length::(p++r))=_;rw[Zq,Db h,if_pos (by simp),rT,rU]<;>rfl
theorem V6{r p r2:List UInt8}(h:Zq r=T (p,r2)):r=XH p++r2:=by
 cases r with|nil=>cases h|cons x r=>rw[Zq]at h;by_cases a:x.toNat<=r.length;(·rw[if_pos a]at h;simp only[tV,sH]at h;obtain⟨rfl,rfl⟩:=h;(have b:(r.take x.toNat).length=x.toNat:=by simp;omega);show x::r=tJ (r.take x.toNat).length::(r.take x.toNat++r.drop x.toNat);rw[b,tL];simp);·rw[if_neg a]at h;cases h
theorem Bi{r p r2:List UInt8}(h:Zq r=T (p,r2))(x:List UInt8):Zq (r++x)=T (p,r2++x):=by
 cases r with|nil=>cases h|cons y r=>rw[Zq]at h;by_cases a:y.toNat<=r.length;(·rw[if_pos a]at h;simp only[tV,sH]at h;obtain⟨rfl,rfl⟩:=h;show Zq (y::(r++x))=_;rw[Zq,if_pos (by simp;omega),pD a,pE a]);·rw[if_neg a]at h;cases h
theorem By{w:Zc}(hw:QA w=0)(r:List UInt8):YX (X9 w++r)=T (w,r):=by
 obtain⟨d,f,b⟩:=(XF w).1 hw;unfold YX X9;rw[tI,tI,U9 _ _ (by omega)];show Mc w.name (XH w.key++(Gg w++r))=_;unfold Mc;rw[U9 _ _ (by omega)];show uF w.name w.key (Gg w++r)=_;unfold uF Gg;by_cases a:w.gone=tE;·rw[if_pos a]at b⊢;rw[if_pos (by rfl)];obtain⟨n,k,v,g⟩:=w;simp only at a b;subst a b;rfl
 ·rw[if_neg a]at b⊢;rw[if_neg,U9 _ _ (by omega)];(·obtain⟨n,k,v,g⟩:=w;simp only[Bool.not_eq_true]at a;subst a;rfl);·show¬(T (tJ w.value.length)=T 255);intro e;have:=congrArg UInt8.toNat (pP e);rw[Db (by omega)]at this;have c:(255:UInt8).toNat=255:=rfl;omega
theorem Fa:∀(ws:List Zc)(_:∀w∈ws,QA w=0)(r:List UInt8),ZK ws.length (ws.flatMap X9++r)=T (ws,r)|[],_,r=>rfl|w::ws,h,r=>by show ZK (ws.length+1) ((w::ws).flatMap X9++r)=_;rw[ZK,rN,tI,By (h w (rY ..))];show(match ZK ws.length (ws.flatMap X9++r)with|T (ws',r2)=>T (w::ws',r2)|none=>V)=_;rw[Fa ws (fun x a=>h x (sC _ a)) r]
theorem MS{r r2:List UInt8}{w:Zc}(h:YX r=T (w,r2)):r=X9 w++r2:=by
 unfold YX at h;cases h1:Zq r with|none=>rw[h1]at h;cases h|some q=>obtain⟨n,c⟩:=q;rw[h1]at h;have h:Mc n c=T (w,r2):=h;unfold Mc at h;cases h2:Zq c with|none=>rw[h2]at h;cases h|some q=>obtain⟨k,a⟩:=q;rw[h2]at h;have h:uF n k a=T (w,r2):=h;rw[V6 h1,V6 h2];unfold uF at h;by_cases b:a.head?=T 255;(·rw[if_pos b]at h;simp only[tV,sH]at h;obtain⟨rfl,rfl⟩:=h;cases a with|nil=>cases b|cons x a=>obtain rfl:x=255:=pP b;show XH n++(XH k++255::a)=XH n++XH k++[255]++a;simp[tI]);·rw[if_neg b]at h;cases h3:Zq a with|none=>rw[h3]at h;cases h|some q=>obtain⟨v,d⟩:=q;rw[h3]at h;simp only[tV,sH]at h;obtain⟨rfl,rfl⟩:=h;rw[V6 h3];show XH n++(XH k++(XH v++d))=XH n++XH k++XH v++d;simp[tI]
theorem vJ:∀(n:Nat){r r2:List UInt8}{ws:List Zc},ZK n r=T (ws,r2)->r=ws.flatMap X9++r2∧ws.length=n|0,r,r2,ws,h=>by rw[ZK]at h;simp only[tV,sH]at h;obtain⟨rfl,rfl⟩:=h;exact⟨rfl,rfl⟩|n+1,r,r2,ws,h=>by rw[ZK]at h;cases h1:YX r with|none=>rw[h1]at h;cases h|some q=>obtain⟨w,a⟩:=q;rw[h1]at h;have h:(match ZK n a with|T (ws,r2)=>T (w::ws,r2)|none=>V)=T (ws,r2):=h;cases h2:ZK n a with|none=>rw[h2]at h;cases h|some q=>obtain⟨d,e⟩:=q;rw[h2]at h;simp only[tV,sH]at h;obtain⟨rfl,rfl⟩:=h;obtain⟨b,c⟩:=vJ n h2;exact⟨by rw[MS h1,b,rN,tI],by simp[c]⟩
theorem zN : ∀ (n : Nat) (r : List UInt8), ZK (n + 1) r = match ZK n r with | T (ws, r1) => (match YX r1 with | T (w, r2) => T (ws ++ [w], r2) | none => V) | none => V
  | 0, r => by
    rw [ZK]
    cases h : YX r with
    | none => simp [ZK, h]
    | some q => obtain ⟨w, a⟩ := q; simp [ZK, h]
  | n + 1, r => by
    rw [ZK]
    cases h : YX r with
    | none =>
      show V = _
      rw [ZK, h]
    | some q =>
      obtain ⟨w, a⟩ := q
      show (match ZK (n + 1) a with | T (ws, r2) => T (w :: ws, r2) | none => V) = _
      rw [zN n a, show ZK (n + 1) r = (match ZK n a with | T (ws, r2) => T (w :: ws, r2) | none => V) by rw [ZK, h]]
      cases h2 : ZK n a with
      | none => rfl
      | some q =>
        obtain ⟨ws, b⟩ := q
        show (match (match YX b with | T (w, r2) => T (ws ++ [w], r2) | none => V) with | T (ws, r2) => T (w :: ws, r2) | none => V) = (match YX b with | T (w', r2) => T (w :: ws ++ [w'], r2) | none => V)
        cases YX b with
        | none => rfl
        | some q => rfl
def VT(b:List UInt8):Nat:=65536*(b.getD 0 0).toNat+256*(b.getD 1 0).toNat+(b.getD 2 0).toNat
def GI(b:List UInt8):Option (List Zc×List UInt8):=ZK (b.getD 3 0).toNat (b.drop 4)
def Yx(b:List UInt8):Int:=if 4000<b.length then 1 else if b.length<4then 14 else match GI b with|none=>14|T (ws,r)=>if r.length=0then Q7 ⟨(VT b:Int),ws⟩else 4
def Jq(b:List UInt8):Xy:=if Yx b=0then(match GI b with|T (ws,_)=>⟨(VT b:Int),ws⟩|none=>Zh)else Zh
theorem Po(t n:Nat):(UO t n).length=4:=rfl
theorem Wm(t n:Nat)(x:List UInt8)(ht:t<=1048576):VT (UO t n++x)=t:=by
 show 65536*(tJ (t/65536)).toNat+256*(tJ (t/256%256)).toNat+(tJ (t%256)).toNat=t;simp only[pW];omega
theorem Ly(t n:Nat)(x:List UInt8)(hn:n<=10):((UO t n++x).getD 3 0).toNat=n:=by
 show(tJ n).toNat=n;simp;omega
theorem Lc(t n:Nat)(x:List UInt8):(UO t n++x).drop 4=x:=rfl
theorem Ar{w:Zc}(hw:QA w=0):(X9 w).length=3+w.name.length+w.key.length+w.value.length∧(X9 w).length<=59:=by
 obtain⟨c,d,a⟩:=(XF w).1 hw;unfold X9 Gg;by_cases b:w.gone=tE;·rw[if_pos b]at a⊢;rw[a];simp only[tF,G0,pB,List.length_nil];omega
 ·rw[if_neg b]at a⊢;simp only[tF,G0];omega
def Sg(ws:List Zc):Nat:=(ws.map fun w=>3+w.name.length+w.key.length+w.value.length).sum
theorem zY:∀(ws:List Zc)(_:∀w∈ws,QA w=0),(ws.flatMap X9).length=Sg ws∧(ws.flatMap X9).length<=59*ws.length|[],_=>by simp[Sg]|w::ws,h=>by obtain⟨b,c⟩:=zY ws (fun x a=>h x (sC _ a));obtain⟨d,e⟩:=Ar (h w (rY ..));rw[rN,tF];unfold Sg at b⊢;rw[oJ,List.sum_cons,pB];omega
theorem UN{c:Xy}(h:Q7 c=0):(Ze c).length=4+Sg c.writes∧(Ze c).length<=594:=by
 obtain⟨_,b,a⟩:=(Kz c).1 h;obtain⟨d,e⟩:=zY c.writes a;unfold Ze;rw[tF,Po];omega
theorem MW{c:Xy}(h:Q7 c=0)(x:List UInt8):GI (Ze c++x)=T (c.writes,x)∧VT (Ze c++x)=c.turn.toNat:=by
 obtain⟨d,a,b⟩:=(Kz c).1 h;unfold GI Ze;rw[tI,Ly _ _ _ a.2,Lc,Wm _ _ _ (by omega)];exact⟨Fa _ b _,rfl⟩
theorem Mw{c:Xy}(h:Q7 c=0):Yx (Ze c)=0∧Jq (Ze c)=c:=by
 obtain⟨f,g,i⟩:=(Kz c).1 h;obtain⟨j,k⟩:=UN h;obtain⟨a,b⟩:=MW h [];rw[sD]at a b;have d:(⟨(VT (Ze c):Int),c.writes⟩:Xy)=c:=by rw[b,Int.toNat_of_nonneg (by omega)]
 have e:Yx (Ze c)=0:=by rw[Yx,if_neg (by omega),if_neg (by omega),a];show(if([]:List UInt8).length=0then Q7 ⟨(VT (Ze c):Int),c.writes⟩else 4)=0;rw[if_pos (show([]:List UInt8).length=0from rfl),d,h]
 refine⟨e,?_⟩;rw[Jq,if_pos e,a];exact d
theorem Nu{b:List UInt8}(h:Yx b=0):Q7 (Jq b)=0∧Ze (Jq b)=b:=by
 have c:Jq b=(match GI b with|T (a,_)=>⟨(VT b:Int),a⟩|none=>Zh):=by rw[Jq,if_pos h]
 rw[Yx]at h;by_cases g:4000<b.length;·rw[if_pos g]at h;omega
 rw[if_neg g]at h;by_cases d:b.length<4;·rw[if_pos d]at h;omega
 rw[if_neg d]at h;cases hb:GI b with|none=>rw[hb]at h;simp at h|some q=>obtain⟨a,r⟩:=q;rw[hb]at h c;have h:(if r.length=0then Q7 ⟨(VT b:Int),a⟩else 4)=0:=h;have c:Jq b=⟨(VT b:Int),a⟩:=c;by_cases e:r.length=0;(·rw[if_pos e]at h;obtain rfl:r=[]:=tK e;rw[c];refine⟨h,?_⟩;obtain⟨n,o,p⟩:=(Kz _).1 h;unfold GI at hb;obtain⟨f,i⟩:=vJ _ hb;rw[sD]at f;show UO ((VT b:Int)).toNat a.length++a.flatMap X9=b;rw[<-f,i,rO];match b,d with|x0::x1::x2::x3::t,_=>show UO (65536*x0.toNat+256*x1.toNat+x2.toNat) x3.toNat++t=_;have j:=x0.toNat_lt;have k:=x1.toNat_lt;have l:=x2.toNat_lt;have m:=x3.toNat_lt;unfold UO;rw[show(65536*x0.toNat+256*x1.toNat+x2.toNat)/65536=x0.toNat by omega,show(65536*x0.toNat+256*x1.toNat+x2.toNat)/256%256=x1.toNat by omega,show(65536*x0.toNat+256*x1.toNat+x2.toNat)%256=x2.toNat by omega];simp);·rw[if_neg e]at h;omega
def Fn(b:List UInt8):List UInt8:=tJ (b.length/256)::tJ (b.length%256)::b
theorem zI(b:List UInt8):(Fn b).length=b.length+2:=rfl
def Zy(D:List UInt8->List UInt8)(c:Xy):List UInt8:=Fn (Ze c)++D (Fn (Ze c))
def Zd(r:List UInt8):Nat:=256*(r.getD 0 0).toNat+(r.getD 1 0).toNat
def XA(D:List UInt8->List UInt8)(r:List UInt8):Option (Xy×List UInt8):=if r.length<6then V else if r.length<Zd r+6∨4000<Zd r+2then V else if D (r.take (Zd r+2))=(r.drop (Zd r+2)).take 4then(if Yx ((r.drop 2).take (Zd r))=0then T (Jq ((r.drop 2).take (Zd r)),r.drop (Zd r+6))else V)else V
theorem C9{D:List UInt8->List UInt8}{r r2:List UInt8}{c:Xy}(h:XA D r=T (c,r2)):∃m,6<=m∧m<=r.length∧r2=r.drop m∧Q7 c=0:=by
 unfold XA at h;by_cases b:r.length<6;·rw[if_pos b]at h;cases h
 rw[if_neg b]at h;by_cases d:r.length<Zd r+6∨4000<Zd r+2;·rw[if_pos d]at h;cases h
 rw[if_neg d]at h;by_cases e:D (r.take (Zd r+2))=(r.drop (Zd r+2)).take 4;·rw[if_pos e]at h;by_cases a:Yx ((r.drop 2).take (Zd r))=0;(·rw[if_pos a]at h;simp only[tV,sH]at h;obtain⟨rfl,rfl⟩:=h;exact⟨Zd r+6,by omega,by omega,rfl,(Nu a).1⟩);·rw[if_neg a]at h;cases h
 ·rw[if_neg e]at h;cases h
theorem Ep{b:List UInt8}(h:b.length<65536)(x:List UInt8):Zd (Fn b++x)=b.length:=by
 show 256*(tJ (b.length/256)).toNat+(tJ (b.length%256)).toNat=b.length;simp only[pW];omega
theorem Pf{D:List UInt8->List UInt8}(hD:∀x,(D x).length=4)(c:Xy):(Zy D c).length=(Ze c).length+6:=by
 unfold Zy;rw[tF,hD,zI]
theorem C3{D:List UInt8->List UInt8}(hD:∀x,(D x).length=4){c:Xy}(h:Q7 c=0)(r:List UInt8):XA D (Zy D c++r)=T (c,r):=by
 obtain⟨l,m⟩:=UN h;obtain⟨d,e⟩:=Mw h;have a:=Pf hD c;have k:Zd (Zy D c++r)=(Ze c).length:=by unfold Zy;rw[tI];exact Ep (by omega) _
 have j:(Zy D c++r).take ((Ze c).length+2)=Fn (Ze c):=by unfold Zy;rw[tI];exact rT (zI _)
 have f:(Zy D c++r).drop ((Ze c).length+2)=D (Fn (Ze c))++r:=by unfold Zy;rw[tI];exact rU (zI _)
 have i:((Zy D c++r).drop 2).take (Ze c).length=Ze c:=by unfold Zy;rw[tI];exact rT rfl
 have g:(Zy D c++r).drop ((Ze c).length+6)=r:=rU a;have b:(Zy D c++r).length=(Ze c).length+6+r.length:=by rw[tF,a]
 unfold XA;rw[if_neg (by omega),k,if_neg (by omega),j,f,i,g,if_pos (rT (hD _)).symm,if_pos d,e]
theorem Sc{D:List UInt8->List UInt8}(hD:∀x,(D x).length=4){c:Xy}(h:Q7 c=0)(k:Nat)(hk:k<(Zy D c).length):XA D ((Zy D c).take k)=V:=by
 obtain⟨f,g⟩:=UN h;have e:=Pf hD c;have b:((Zy D c).take k).length=k:=by simp;omega
 unfold XA;by_cases d:k<6;·rw[if_pos (by omega)]
 ·(have a:Zd ((Zy D c).take k)=(Ze c).length:=by(have a:Zd (Zy D c++[])=(Ze c).length:=by unfold Zy;rw[tI];exact Ep (by omega) _);rw[sD]at a;rw[<-a];unfold Zd;simp only[List.getD_eq_getElem?_getD,pY];rw[if_pos (by omega),if_pos (by omega)]);rw[if_neg (by omega),a,if_pos (by omega)]
def Kj(D:List UInt8->List UInt8)(turn:Nat)(r:List UInt8):List Xy×List UInt8:=match h:XA D r with|T (c,r2)=>if c.turn=(turn:Int)then(c::(Kj D (turn+1) r2).1,(Kj D (turn+1) r2).2)else([],r)|none=>([],r)termination_by r.length decreasing_by
 all_goals obtain⟨m,h1,h2,h3,_⟩:=C9 h;rw[h3,oF];omega
theorem Ih{D:List UInt8->List UInt8}{turn:Nat}{r r2:List UInt8}{c:Xy}(h:XA D r=T (c,r2))(ht:c.turn=(turn:Int)):Kj D turn r=(c::(Kj D (turn+1) r2).1,(Kj D (turn+1) r2).2):=by
 rw[Kj];split;·next c' r' h'=>rw[h]at h';simp only[tV,sH]at h';obtain⟨rfl,rfl⟩:=h';rw[if_pos ht]
 ·next h'=>rw[h]at h';cases h'
theorem Hw{D:List UInt8->List UInt8}{turn:Nat}{r r2:List UInt8}{c:Xy}(h:XA D r=T (c,r2))(ht:c.turn≠(turn:Int)):Kj D turn r=([],r):=by
 rw[Kj];split;·next c' r' h'=>rw[h]at h';simp only[tV,sH]at h';obtain⟨rfl,rfl⟩:=h';rw[if_neg ht]
 ·rfl
theorem Ts{D:List UInt8->List UInt8}{turn:Nat}{r:List UInt8}(h:XA D r=V):Kj D turn r=([],r):=by
 rw[Kj];split;·next c' r' h'=>rw[h]at h';cases h'
 ·rfl
theorem Wq(D:List UInt8->List UInt8):XA D []=V:=by
 unfold XA;rw[if_pos (by simp)]
def qJ:Nat->List Xy->Prop|_,[]=>True|t,c::cs=>c.turn=(t:Int)∧Q7 c=0∧qJ (t+1) cs
theorem qJ.take:∀{t:Nat}{cs:List Xy}(_:qJ t cs)(j:Nat),qJ t (cs.take j)|_,[],_,j=>by rw[oK];trivial|_,c::cs,_,0=>trivial|t,c::cs,h,j+1=>⟨h.1,h.2.1,qJ.take h.2.2 j⟩
def QV(D:List UInt8->List UInt8)(cs:List Xy):List UInt8:=cs.flatMap (Zy D)
theorem Ku(D:List UInt8->List UInt8)(c:Xy)(cs:List Xy):QV D (c::cs)=Zy D c++QV D cs:=rN
theorem Vi(D:List UInt8->List UInt8)(a b:List Xy):QV D (a++b)=QV D a++QV D b:=List.flatMap_append
theorem Pa(D:List UInt8->List UInt8)(c:Xy):QV D [c]=Zy D c:=by
 simp[QV]
def MY(D:List UInt8->List UInt8)(r:List UInt8):Nat:=r.length-(Kj D 1 r).2.length
theorem Cg{D:List UInt8->List UInt8}(hD:∀x,(D x).length=4):∀{t:Nat}{cs:List Xy}(_:qJ t cs)(k:Nat),∃j,j<=cs.length∧Kj D t ((QV D cs).take k)=(cs.take j,((QV D cs).take k).drop (QV D (cs.take j)).length)∧(QV D (cs.take j)).length<=k∧(QV D (cs.take j)).length<=(QV D cs).length∧(j<cs.length->k<(QV D (cs.take (j+1))).length)|t,[],_,k=>⟨0,by simp,by show Kj D t (([]:List UInt8).take k)=_;rw[oK,Ts (Wq D)];simp[QV],by simp[QV],by simp[QV],fun h=>by simp at h⟩|t,c::cs,h,k=>by by_cases a:k<(Zy D c).length;(·refine⟨0,by simp,?_,by simp[QV],by simp[QV],fun _=>?_⟩;(·rw[Ku,pD (by omega),Ts (Sc hD h.2.1 k a)];simp[QV]);·show k<(QV D [c]).length;rw[Pa];exact a);·obtain⟨j,g,b,i,l,d⟩:=Cg hD h.2.2 (k-(Zy D c).length);(have f:(QV D (c::cs)).take k=Zy D c++(QV D cs).take (k-(Zy D c).length):=by rw[Ku,List.take_append,pL (by omega)]);refine⟨j+1,by simp;omega,?_,?_,?_,fun e=>?_⟩;(·rw[f,Ih (C3 hD h.2.1 _) h.1,b,sL,Ku];rw[tF,<-List.drop_drop,rU rfl]);(·rw[sL,Ku,tF];omega);(·rw[sL,Ku,Ku,tF,tF];omega);·have:=d (by simpa using e);rw[sL,Ku,tF];omega
theorem UG(D:List UInt8->List UInt8)(cs:List Xy)(i j:Nat)(h:i<=j):(QV D (cs.take i)).length<=(QV D (cs.take j)).length:=by
 have:cs.take i=(cs.take j).take i:=by rw[List.take_take,oI h]
 rw[this];conv=>rhs;rw[<-tL i (cs.take j),Vi]
 rw[tF];omega
theorem T5{D:List UInt8->List UInt8}{cs:List Xy}{k j i:Nat}(hi:i<=cs.length)(hj:j<cs.length->k<(QV D (cs.take (j+1))).length)(hk:(QV D (cs.take i)).length<=k):i<=j:=by
 by_cases h:i<=j;·exact h
 ·have:=UG D cs (j+1) i (by omega);have:=hj (by omega);omega
theorem El(t:PL)(p:Pr)(h:∀q∈t,(1<=q.1.length∧q.1.length<=16)∧q.2.length<=32)(hp:(1<=p.1.length∧p.1.length<=16)∧p.2.length<=32):∀q∈JU t p,(1<=q.1.length∧q.1.length<=16)∧q.2.length<=32:=by
 intro q a;rcases NK t p q a with rfl|a;·exact hp
 ·exact h q a
theorem SU:∀(t:PL)(p:Pr)(k:Nat),k<=t.length->(∀j,j<k->Yy (t.getD j ([],[])).1 p.1=tE)->(k<t.length->Yy (t.getD k ([],[])).1 p.1=tG)->JU t p=if k<t.length∧(t.getD k ([],[])).1=p.1then t.set k p else t.take k++([p]++t.drop k)|[],p,k,a,_,_=>by(obtain rfl:k=0:=by simpa using a);simp[JU]|q::r,p,0,_,_,h2=>by have h:=h2 (by simp);simp only[sB]at h;rw[JU,if_neg (by rw[h];simp)];by_cases e:q.1=p.1;(·rw[if_pos e,if_pos ⟨by simp,by simpa using e⟩];simp);·rw[if_neg e,if_neg (fun h=>e (by simpa using h.2))];simp|q::r,p,k+1,a,h1,h2=>by have h:=h1 0 (by omega);simp only[sB]at h;rw[JU,if_pos h,SU r p k (by simpa using a) (fun j b=>by simpa using h1 (j+1) (by omega)) (fun a=>by simpa using h2 (by simpa using a))];by_cases e:k<r.length∧(r.getD k ([],[])).1=p.1;(·rw[if_pos e,if_pos ⟨by simpa using e.1,by simpa using e.2⟩];simp);·rw[if_neg e,if_neg (fun h=>e ⟨by simpa using h.1,by simpa using h.2⟩)];simp
theorem aJ(t:PL)(p:Pr)(h:Zv t)(hp:(1<=p.1.length∧p.1.length<=16)∧p.2.length<=32)(hl:t.length<60):JZ t p=0∧U8 t p=JU t p∧Zv (JU t p):=by
 have c:VK t p=0:=by rw[VK,if_pos ((YE t).2 h)];exact(Jo p).2 hp
 have b:=bO t p;have a:JZ t p=0:=by rw[JZ,if_pos c,if_neg (by omega)]
 exact⟨a,by rw[U8,if_pos a],⟨by omega,El t p h.pairs hp,vQ t p h.rises⟩⟩
def I9(m:Nat)(l:FL):Prop:=∀n,(Y0 l n).length<=m
theorem L8:I9 0 []:=fun n=>by
 rw[dW];simp
theorem cN{l:FL}{m:Nat}(h:Xh l){w:Zc}(hw:QA w=0)(hs:I9 m l)(hm:m<60):GR l w=0:=by
 obtain⟨_,c,d⟩:=(XF w).1 hw;have a:=K2 h w.name;have e:=hs w.name;unfold GR;by_cases b:w.gone=tE;·rw[if_pos b];exact vH a c
 ·rw[if_neg b]at d⊢;exact(aJ _ _ a ⟨c,d⟩ (by omega)).1
theorem FU{l:FL}{m:Nat}(h:Xh l){w:Zc}(hw:QA w=0)(hs:I9 m l)(hm:m<60):Yr l w=if 8<(Zo l w).length then 11 else 0:=by
 rw[Yr,if_pos (cN h hw hs hm)]
theorem ML(l:FL)(w:Zc):(Zo l w).length<=l.length+1:=by
 unfold Zo;by_cases a:(Yn l w).length=0;·rw[if_pos a];have:=EX l w.name;omega
 ·rw[if_neg a];exact Hh _ _
theorem uT:∀(ws:List Zc)(l:FL),Xh l->Z7 l ws=0->Xh (Jh l ws)|[],l,h,_=>h|w::ws,l,h,he=>by rw[Z7]at he;by_cases b:QA w=0;(·rw[if_pos b]at he;by_cases a:Yr l w=0;(·rw[if_pos a]at he;exact uT ws _ (xU h b a) he);·rw[if_neg a]at he;exact absurd he a);·rw[if_neg b]at he;exact absurd he b
def GU(l:FL)(n:List UInt8):Int:=if QZ l=0then Qt n.length else QZ l
theorem qG{l:FL}{n:List UInt8}(h:GU l n=0):Xh l∧(1<=n.length∧n.length<=8):=by
 unfold GU at h;by_cases a:QZ l=0;·rw[if_pos a]at h;exact⟨(XW l).1 a,(Zt _).1 h⟩
 ·rw[if_neg a]at h;exact absurd h a
def Vr(l:FL)(n k:List UInt8):Int:=if GU l n=0then Z4 (Y0 l n) k else GU l n
def UU(l:FL)(n k:List UInt8):Bool:=if GU l n=0then Rt (Y0 l n) k else tG
def UV(l:FL)(n k:List UInt8):List UInt8:=if GU l n=0then Rv (Y0 l n) k else[]
def Yu(l:FL)(n f t:List UInt8):Int:=if GU l n=0then Ys (Y0 l n) f t else GU l n
def J4(l:FL)(n f t:List UInt8):PL:=if GU l n=0then Kw (Y0 l n) f t else[]
structure Rq where
  kind : Int
  name : List UInt8
  key : List UInt8
  last : List UInt8
  value : List UInt8
def VR:Rq:=⟨0,[],[],[],[]⟩
def QS(k:Int):Bool:=tN (2<=k∧k<=5)||tN (k=8)
def yA(r:Rq):Int:=if QS r.kind=tE then(if Qt r.name.length=0then(if Qn r.key.length=0then(if r.kind=3then Qn r.last.length else 0)else Qn r.key.length)else Qt r.name.length)else 0
def Rk(r:Rq):Int:=if QS r.kind=tG∧0<r.name.length+r.key.length then 4 else if(r.kind≠3∧0<r.last.length)∨(r.kind≠4∧0<r.value.length)then 4 else 0
def Yj(r:Rq):Int:=if 1<=r.kind∧r.kind<=8then(if yA r=0then(if 32<r.value.length then 1 else Rk r)else yA r)else 5
structure VA(r:Rq):Prop where kind:1<=r.kind∧r.kind<=8name:QS r.kind=tE->1<=r.name.length∧r.name.length<=8key:QS r.kind=tE->1<=r.key.length∧r.key.length<=16last:r.kind=3->1<=r.last.length∧r.last.length<=16value:r.value.length<=32noName:QS r.kind=tG->r.name=[]noKey:QS r.kind=tG->r.key=[]noLast:r.kind≠3->r.last=[]noValue:r.kind≠4->r.value=[]
theorem Fb(r:Rq):yA r=0↔(QS r.kind=tE->(1<=r.name.length∧r.name.length<=8)∧(1<=r.key.length∧r.key.length<=16)∧(r.kind=3->1<=r.last.length∧r.last.length<=16)):=by
 unfold yA;by_cases h:QS r.kind=tE;·rw[if_pos h];by_cases a:Qt r.name.length=0;(·rw[if_pos a];by_cases b:Qn r.key.length=0;(·rw[if_pos b];by_cases c:r.kind=3;(·rw[if_pos c,Zr];exact⟨fun e _=>⟨(Zt _).1 a,(Zr _).1 b,fun _=>e⟩,fun e=>(e h).2.2 c⟩);·rw[if_neg c];exact⟨fun _ _=>⟨(Zt _).1 a,(Zr _).1 b,fun e=>absurd e c⟩,fun _=>rfl⟩);·rw[if_neg b];exact⟨fun e=>absurd e b,fun e=>(Zr _).2 (e h).2.1⟩);·rw[if_neg a];exact⟨fun e=>absurd e a,fun e=>(Zt _).2 (e h).1⟩
 ·rw[if_neg h];exact⟨fun _ e=>absurd e h,fun _=>rfl⟩
theorem Hj{l:List UInt8}(h:¬0<l.length):l=[]:=tK (by
 omega)
theorem Am(r:Rq):Rk r=0↔(QS r.kind=tG->r.name=[]∧r.key=[])∧(r.kind≠3->r.last=[])∧(r.kind≠4->r.value=[]):=by
 unfold Rk;by_cases b:QS r.kind=tG∧0<r.name.length+r.key.length;·rw[if_pos b];refine⟨fun e=>(by cases e),fun e=>?_⟩;have:=e.1 b.1;rw[this.1,this.2]at b;simp at b
 ·rw[if_neg b];by_cases a:(r.kind≠3∧0<r.last.length)∨(r.kind≠4∧0<r.value.length);(·rw[if_pos a];refine⟨fun e=>(by cases e),fun e=>?_⟩;rcases a with a|a;(·rw[e.2.1 a.1]at a;simp at a);·rw[e.2.2 a.1]at a;simp at a);·rw[if_neg a];refine⟨fun _=>⟨fun h=>?_,fun h=>Hj fun e=>a (.inl ⟨h,e⟩),fun h=>Hj fun e=>a (.inr ⟨h,e⟩)⟩,fun _=>rfl⟩;have c:¬0<r.name.length+r.key.length:=fun e=>b ⟨h,e⟩;exact⟨Hj (by omega),Hj (by omega)⟩
theorem qD(r:Rq):Yj r=0↔VA r:=by
 unfold Yj;by_cases a:1<=r.kind∧r.kind<=8;·rw[if_pos a];by_cases b:yA r=0;(·rw[if_pos b];have c:=(Fb r).1 b;by_cases f:32<r.value.length;(·rw[if_pos f];exact⟨fun e=>(by cases e),fun e=>by have:=e.value;omega⟩);·rw[if_neg f,Am];refine⟨fun⟨d,g,i⟩=>⟨a,fun h=>(c h).1,fun h=>(c h).2.1,fun h=>(c (by rw[h];decide)).2.2 h,by omega,fun h=>(d h).1,fun h=>(d h).2,g,i⟩,fun e=>⟨fun h=>⟨e.noName h,e.noKey h⟩,e.noLast,e.noValue⟩⟩);·rw[if_neg b];refine⟨fun e=>absurd e b,fun e=>(Fb r).2 fun h=>⟨e.name h,e.key h,e.last⟩⟩
 ·rw[if_neg a];exact⟨fun e=>(by cases e),fun e=>absurd e.kind a⟩
def Xf(c:Bool)(p:List UInt8):List UInt8:=if c=tE then XH p else[]
def Y5(c:Bool)(r:List UInt8):Option (List UInt8×List UInt8):=if c=tE then Zq r else T ([],r)
theorem xX(c:Bool)(p r:List UInt8)(h:c=tE->p.length<256)(h0:c=tG->p=[]):Y5 c (Xf c p++r)=T (p,r):=by
 cases c with|true=>exact U9 p r (h rfl)|false=>rw[h0 rfl];rfl
theorem Vz{c:Bool}{r p r2:List UInt8}(h:Y5 c r=T (p,r2)):r=Xf c p++r2:=by
 cases c with|true=>exact V6 h|false=>(obtain⟨rfl,rfl⟩:[]=p∧r=r2:=by simpa[Y5]using h);rfl
theorem yM{c:Bool}{r p r2:List UInt8}(h:Y5 c r=T (p,r2))(x:List UInt8):Y5 c (r++x)=T (p,r2++x):=by
 cases c with|true=>exact Bi h x|false=>(obtain⟨rfl,rfl⟩:[]=p∧r=r2:=by simpa[Y5]using h);rfl
theorem Hu{c:Bool}{r p r2:List UInt8}(h:Y5 c r=T (p,r2))(hc:c=tG):p=[]:=by
 subst hc;have:[]=p∧r=r2:=by simpa[Y5]using h
 exact this.1.symm
def qX(r:Rq):List UInt8:=Xf (QS r.kind) r.name++(Xf (QS r.kind) r.key++(Xf (tN (r.kind=3)) r.last++Xf (tN (r.kind=4)) r.value))
def Vb(r:Rq):List UInt8:=tJ r.kind.toNat::qX r
def U5(k:Int)(n q l r:List UInt8):Option (Rq×List UInt8):=match Y5 (tN (k=4)) r with|T (v,r2)=>T (⟨k,n,q,l,v⟩,r2)|none=>V
def U6(k:Int)(n q r:List UInt8):Option (Rq×List UInt8):=match Y5 (tN (k=3)) r with|T (l,r2)=>U5 k n q l r2|none=>V
def U4(k:Int)(n r:List UInt8):Option (Rq×List UInt8):=match Y5 (QS k) r with|T (q,r2)=>U6 k n q r2|none=>V
def X5(k:Int)(r:List UInt8):Option (Rq×List UInt8):=match Y5 (QS k) r with|T (n,r2)=>U4 k n r2|none=>V
theorem LX{r:Rq}(h:VA r)(x:List UInt8):X5 r.kind (qX r++x)=T (r,x):=by
 have a:=xX (QS r.kind) r.name (Xf (QS r.kind) r.key++(Xf (tN (r.kind=3)) r.last++(Xf (tN (r.kind=4)) r.value++x))) (fun e=>by have:=h.name e;omega) h.noName;have b:=xX (QS r.kind) r.key (Xf (tN (r.kind=3)) r.last++(Xf (tN (r.kind=4)) r.value++x)) (fun e=>by have:=h.key e;omega) h.noKey;have c:=xX (tN (r.kind=3)) r.last (Xf (tN (r.kind=4)) r.value++x) (fun e=>by have:=h.last (by simpa using e);omega) (fun e=>h.noLast (by simpa using e));have d:=xX (tN (r.kind=4)) r.value x (fun _=>by have:=h.value;omega) (fun e=>h.noValue (by simpa using e));rw[qX,tI,tI,tI,X5,a];show U4 _ _ _=_;rw[U4,b];show U6 _ _ _ _=_;rw[U6,c];show U5 _ _ _ _ _=_;rw[U5,d]
theorem kE{k:Int}{b x:List UInt8}{r:Rq}(h:X5 k b=T (r,x)):r.kind=k∧∃r1 r2 r3,Y5 (QS k) b=T (r.name,r1)∧Y5 (QS k) r1=T (r.key,r2)∧Y5 (tN (k=3)) r2=T (r.last,r3)∧Y5 (tN (k=4)) r3=T (r.value,x):=by
 rw[X5]at h;match h1:Y5 (QS k) b with|none=>rw[h1]at h;cases h|T (n,r1)=>rw[h1]at h;replace h:U4 k n r1=T (r,x):=h;rw[U4]at h;match h2:Y5 (QS k) r1 with|none=>rw[h2]at h;cases h|T (q,r2)=>rw[h2]at h;replace h:U6 k n q r2=T (r,x):=h;rw[U6]at h;match h3:Y5 (tN (k=3)) r2 with|none=>rw[h3]at h;cases h|T (l,r3)=>rw[h3]at h;replace h:U5 k n q l r3=T (r,x):=h;rw[U5]at h;match h4:Y5 (tN (k=4)) r3 with|none=>rw[h4]at h;cases h|T (v,r4)=>rw[h4]at h;(obtain⟨rfl,rfl⟩:(⟨k,n,q,l,v⟩:Rq)=r∧r4=x:=by simpa using h);exact⟨rfl,r1,r2,r3,rfl,h2,h3,h4⟩
theorem aO{k:Int}{b r1 r2 r3 x n q l v:List UInt8}(h1:Y5 (QS k) b=T (n,r1))(h2:Y5 (QS k) r1=T (q,r2))(h3:Y5 (tN (k=3)) r2=T (l,r3))(h4:Y5 (tN (k=4)) r3=T (v,x)):X5 k b=T (⟨k,n,q,l,v⟩,x):=by
 rw[X5,h1];show U4 _ _ _=_;rw[U4,h2];show U6 _ _ _ _=_;rw[U6,h3];show U5 _ _ _ _ _=_;rw[U5,h4]
theorem F8{k:Int}{b x:List UInt8}{r:Rq}(h:X5 k b=T (r,x)):b=qX r++x∧r.kind=k:=by
 obtain⟨a,g,i,j,c,d,e,f⟩:=kE h;refine⟨?_,a⟩;rw[qX,a,Vz c,Vz d,Vz e,Vz f];simp[tI]
theorem LW{k:Int}{b y:List UInt8}{r:Rq}(h:X5 k b=T (r,y))(x:List UInt8):X5 k (b++x)=T (r,y++x):=by
 obtain⟨f,g,i,j,a,c,d,e⟩:=kE h;have:=aO (yM a x) (yM c x) (yM d x) (yM e x);rw[this,<-f]
def Ug(b:List UInt8):Int:=((b.getD 0 0).toNat:Int)
def Xc(b:List UInt8):Int:=if 4000<b.length then 1 else if b.length=0then 14 else if 1<=Ug b∧Ug b<=8then(match X5 (Ug b) (b.drop 1)with|none=>14|T (r,x)=>if x.length=0then Yj r else 4)else 5
def YI(b:List UInt8):Rq:=if Xc b=0then(match X5 (Ug b) (b.drop 1)with|T (r,_)=>r|none=>VR)else VR
theorem Hb{r:Rq}(h:VA r)(x:List UInt8):Ug (Vb r++x)=r.kind∧(Vb r++x).drop 1=qX r++x:=by
 have a:=h.kind;refine⟨?_,rfl⟩;show(((tJ r.kind.toNat).toNat:Nat):Int)=r.kind;simp;omega
theorem KI(c:Bool)(p:List UInt8):(Xf c p).length<=p.length+1:=by
 cases c with|true=>exact sF _|false=>exact Nat.zero_le _
theorem MB{r:Rq}(h:VA r):(Vb r).length<=78∧1<=(Vb r).length:=by
 have f:=KI (QS r.kind) r.name;have g:=KI (QS r.kind) r.key;have i:=KI (tN (r.kind=3)) r.last;have j:=KI (tN (r.kind=4)) r.value;have a:r.name.length<=8:=by by_cases e:QS r.kind=tE;(·exact(h.name e).2);·rw[h.noName (by simpa using e)];simp
 have b:r.key.length<=16:=by by_cases e:QS r.kind=tE;(·exact(h.key e).2);·rw[h.noKey (by simpa using e)];simp
 have c:r.last.length<=16:=by by_cases e:r.kind=3;(·exact(h.last e).2);·rw[h.noLast e];simp
 have d:=h.value;have e:(Vb r).length=1+(Xf (QS r.kind) r.name).length+(Xf (QS r.kind) r.key).length+(Xf (tN (r.kind=3)) r.last).length+(Xf (tN (r.kind=4)) r.value).length:=by rw[Vb,qX,pB,tF,tF,tF];omega
 omega
theorem fR{r:Rq}(h:VA r)(k:Nat)(hk:k<(Vb r).length):Xc ((Vb r).take k)=14:=by
 have j:=MB h;have e:((Vb r).take k).length=k:=by rw[List.length_take];omega
 rw[Xc,if_neg (by omega)];by_cases c:k=0;·rw[if_pos (by omega)]
 ·rw[if_neg (by omega)];have l:(Vb r).take k++(Vb r).drop k=Vb r:=tL _ _;(have a:Ug ((Vb r).take k)=r.kind:=by obtain⟨b,_⟩:=Hb h [];rw[sD]at b;rw[<-b];match k,c with|k+1,_=>rfl);rw[a,if_pos h.kind];match hD:X5 r.kind (((Vb r).take k).drop 1)with|none=>rfl|T (r',y)=>have f:=LW hD ((Vb r).drop k);(have g:((Vb r).take k).drop 1++(Vb r).drop k=qX r:=by match k,c with|k+1,_=>show(qX r).take k++(qX r).drop k=qX r;exact tL _ _);rw[g]at f;have d:=LX h [];rw[sD,f]at d;(have i:y++(Vb r).drop k=[]:=by have:=congrArg (fun o=>o.map Prod.snd) d;simpa using this);have:=congrArg List.length i;rw[tF,oF]at this;simp at this;omega
theorem Ey{b:List UInt8}(h:Xc b=0):Yj (YI b)=0∧Vb (YI b)=b:=by
 have j:=h;rw[Xc]at h;by_cases f:4000<b.length;·rw[if_pos f]at h;cases h
 ·rw[if_neg f]at h;by_cases a:b.length=0;(·rw[if_pos a]at h;cases h);·rw[if_neg a]at h;by_cases g:1<=Ug b∧Ug b<=8;(·rw[if_pos g]at h;match hD:X5 (Ug b) (b.drop 1)with|none=>rw[hD]at h;cases h|T (r,x)=>rw[hD]at h;replace h:(if x.length=0then Yj r else 4)=0:=h;by_cases d:x.length=0;(·rw[if_pos d]at h;(have k:YI b=r:=by rw[YI,if_pos j,hD]);rw[k];refine⟨h,?_⟩;obtain⟨e,i⟩:=F8 hD;rw[tK d,sD]at e;rw[Vb,<-e,i];match b,a with|c::b,_=>show tJ ((c.toNat:Nat):Int).toNat::b=c::b;simp);·rw[if_neg d]at h;cases h);·rw[if_neg g]at h;cases h
theorem yL{b:List UInt8}(h:Xc b≠0):YI b=VR:=by
 rw[YI,if_neg h]
def K6(r:Rq):Int:=if Yj r=0then(if r.kind=2∨r.kind=3then 0 else 7)else Yj r
def Zp(r:Rq):Rd:=if K6 r=0then⟨r.name,r.key,tN (r.kind=3),r.last⟩else Zb
def Je(r:Rq):Int:=if Yj r=0then(if r.kind=4∨r.kind=5then 0 else 7)else Yj r
def Xr(r:Rq):Zc:=if Je r=0then⟨r.name,r.key,r.value,tN (r.kind=5)⟩else Qo
theorem Ot{r:Rq}(h:K6 r=0):Xx (Zp r)=0:=by
 have f:=h;unfold K6 at h;by_cases b:Yj r=0;·rw[if_pos b]at h;have d:=(qD r).1 b;by_cases a:r.kind=2∨r.kind=3;(·(have e:QS r.kind=tE:=by rcases a with a|a<;>rw[a]<;>decide);rw[Zp,if_pos f,RZ];refine⟨d.name e,d.key e,?_⟩;show if tN (r.kind=3)=tE then _ else _;by_cases c:r.kind=3;(·rw[if_pos (by simpa using c)];exact d.last c);·rw[if_neg (by simpa using c)];exact d.noLast c);·rw[if_neg a]at h;cases h
 ·rw[if_neg b]at h;exact absurd h b
theorem Ef{r:Rq}(h:Je r=0):QA (Xr r)=0:=by
 have f:=h;unfold Je at h;by_cases b:Yj r=0;·rw[if_pos b]at h;have c:=(qD r).1 b;by_cases a:r.kind=4∨r.kind=5;(·(have e:QS r.kind=tE:=by rcases a with a|a<;>rw[a]<;>decide);rw[Xr,if_pos f,XF];refine⟨c.name e,c.key e,?_⟩;show if tN (r.kind=5)=tE then _ else _;by_cases d:r.kind=5;(·rw[if_pos (by simpa using d)];exact c.noValue (by omega));·rw[if_neg (by simpa using d)];exact c.value);·rw[if_neg a]at h;cases h
 ·rw[if_neg b]at h;exact absurd h b
theorem M4{r:Rq}(h:VA r):K6 r=(if r.kind=2∨r.kind=3then 0 else 7)∧Je r=(if r.kind=4∨r.kind=5then 0 else 7):=by
 have:=(qD r).2 h;exact⟨by rw[K6,if_pos this],by rw[Je,if_pos this]⟩
def IJ(l:List Ac):List UInt8:=l.flatMap fun a=>gO a++[10]
def KU:Nat->List Ac->Option (Nat×Int)|_,[]=>V|n,a::l=>if YM a=0then KU (n+1) l else T (n,YM a)
def VY(l:List Ac):Int:=if 100000<l.length then 1 else match KU 0 l with|none=>0|T (_,e)=>e
def PU(l:List Ac):Nat:=if 100000<l.length then 0 else match KU 0 l with|none=>0|T (i,_)=>i
def PW(l:List Ac):List UInt8:=if VY l=0then IJ l else[]
theorem EF:∀(l:List Ac)(n:Nat),KU n l=V↔∀a∈l,XT a|[],_=>by simp[KU]|a::l,n=>by rw[KU];by_cases b:YM a=0;(·rw[if_pos b,EF l (n+1)];simp only[tY,forall_eq_or_imp];exact⟨fun h=>⟨(kN a).1 b,h⟩,fun h=>h.2⟩);·rw[if_neg b];exact⟨fun h=>(by cases h),fun h=>absurd ((kN a).2 (h a (by simp))) b⟩
theorem LI(l:List Ac)(m:Nat)(hm:m<l.length):KU m (l.drop m)=if YM (l.getD m XP)=0then KU (m+1) (l.drop (m+1))else T (m,YM (l.getD m XP)):=by
 rw[sI hm,KU,show l[m]=l.getD m XP by simp[hm]]
theorem gS{l:List Ac}(h:∀a∈l,XT a)(hl:l.length<=100000):VY l=0∧PU l=0∧PW l=IJ l:=by
 have b:=(EF l 0).2 h;have c:VY l=0:=by rw[VY,if_neg (by omega),b]
 exact⟨c,by rw[PU,if_neg (by omega),b],by rw[PW,if_pos c]⟩
theorem Ll{l:List Ac}(h:100000<l.length):VY l=1∧PU l=0∧PW l=[]:=by
 have e:VY l=1:=by rw[VY,if_pos h]
 exact⟨e,by rw[PU,if_pos h],by rw[PW,e,if_neg (by decide)]⟩
theorem F7{l:List Ac}(h:l.length<=100000)(hb:KU 0 l=V):VY l=0∧PU l=0∧PW l=IJ l:=by
 have e:VY l=0:=by rw[VY,if_neg (by omega),hb]
 exact⟨e,by rw[PU,if_neg (by omega),hb],by rw[PW,if_pos e]⟩
theorem OS{l:List Ac}(h:l.length<=100000){i:Nat}{e:Int}(hb:KU 0 l=T (i,e))(he:e≠0):VY l=e∧PU l=i∧PW l=[]:=by
 have a:VY l=e:=by rw[VY,if_neg (by omega),hb]
 exact⟨a,by rw[PU,if_neg (by omega),hb],by rw[PW,a,if_neg he]⟩
theorem cR{l:List Ac}{m:Nat}(hm:m<l.length)(hb:KU 0 l=KU m (l.drop m)):(YM (l.getD m XP)=0->KU 0 l=KU (m+1) (l.drop (m+1)))∧(YM (l.getD m XP)≠0->KU 0 l=T (m,YM (l.getD m XP))):=by
 rw[hb,LI l m hm];exact⟨fun h=>by rw[if_pos h],fun h=>by rw[if_neg h]⟩
def KZ(w:tA)(v:tD)(r:Rq):Prop:=∃vn vk vl vv,v=pZ #[tR rF r.kind,vn,vk,vl,vv]∧Qe w vn r.name∧Qe w vk r.key∧Qe w vl r.last∧Qe w vv r.value
theorem KZ.grown{w w':tA}{v:tD}{r:Rq}(h:KZ w v r)(hg:tB w w' V):KZ w' v r:=by
 obtain⟨g,e,f,i,rfl,a,b,c,d⟩:=h;exact⟨g,e,f,i,rfl,a.grown hg,b.grown hg,c.grown hg,d.grown hg⟩
theorem KZ.agg{w:tA}{v:tD}{r:Rq}(h:KZ w v r):∃n1 n2 k1 k2 l1 l2 v1 v2,v=pZ #[tR rF r.kind,tP n1 r.name.length n2,tP k1 r.key.length k2,tP l1 r.last.length l2,tP v1 r.value.length v2]:=by
 obtain⟨g,e,f,i,rfl,a,b,c,d⟩:=h;obtain⟨n1,n2,rfl⟩:=a.shape;obtain⟨k1,k2,rfl⟩:=b.shape;obtain⟨l1,l2,rfl⟩:=c.shape;obtain⟨v1,v2,rfl⟩:=d.shape;exact⟨n1,n2,k1,k2,l1,l2,v1,v2,rfl⟩
theorem KZ.parts{w:tA}{r:Rq}{x a b c d:tD}(h:KZ w (pZ #[x,a,b,c,d]) r):x=tR rF r.kind∧Qe w a r.name∧Qe w b r.key∧Qe w c r.last∧Qe w d r.value:=by
 obtain⟨m,k,l,n,e,f,g,i,j⟩:=h;simp only[Value.agg.injEq,Array.mk.injEq,List.cons.injEq,and_true]at e;obtain⟨rfl,rfl,rfl,rfl,rfl⟩:=e;exact⟨rfl,f,g,i,j⟩
structure xT(r:Rq):Prop where kind:-9223372036854775808<=r.kind∧r.kind<=9223372036854775807name:r.name.length<=140737488355328key:r.key.length<=140737488355328last:r.last.length<=140737488355328value:r.value.length<=140737488355328
theorem kL{r:Rq}(h:VA r):xT r:=by
 have a:=h.kind;have b:=h.value;have c:r.name.length<=8:=by by_cases e:QS r.kind=tE;(·exact(h.name e).2);·rw[h.noName (by simpa using e)];simp
 have d:r.key.length<=16:=by by_cases e:QS r.kind=tE;(·exact(h.key e).2);·rw[h.noKey (by simpa using e)];simp
 have f:r.last.length<=16:=by by_cases e:r.kind=3;(·exact(h.last e).2);·rw[h.noLast e];simp
 exact⟨by omega,by omega,by omega,by omega,by omega⟩
theorem Qp{W w:tA}{b:Nat}{x y z u s:tD}{t:rB}(hg:tB W w V)(h:W.heap[b]?=T (tQ #[x,y,z,u,s] t)):(w.cell? ⟨b,0,V⟩=T x∧w.cell? ⟨b,1,V⟩=T y∧w.cell? ⟨b,2,V⟩=T z∧w.cell? ⟨b,3,V⟩=T u∧w.cell? ⟨b,4,V⟩=T s)∧(w.frozen? ⟨b,0,V⟩=tG∧w.frozen? ⟨b,1,V⟩=tG∧w.frozen? ⟨b,2,V⟩=tG∧w.frozen? ⟨b,3,V⟩=tG∧w.frozen? ⟨b,4,V⟩=tG)∧w.heap[b]?=T (tQ #[x,y,z,u,s] t):=by
 have a:w.heap[b]?=T (tQ #[x,y,z,u,s] t):=by rw[hg.block b (tS.1 h).1 (by simp)];exact h
 refine⟨⟨?_,?_,?_,?_,?_⟩,⟨?_,?_,?_,?_,?_⟩,a⟩;all_goals simp[sE,rA,a]
theorem Yh{w:tA}{b i:Nat}{cs:Array tD}{t:rB}{fz:Nat×Nat}{u:tD}(h:w.heap[b]?=T (tQ cs t fz)):(tM w ⟨b,i,V⟩ u).heap[b]?=T (tQ (cs.setIfInBounds i u) t fz):=by
 simp only[tM,tW,if_true,h,sU];rfl
theorem qF{w:tA}{b c i:Nat}{o:Obj}{u:tD}(h:w.heap[b]?=T o)(hne:b≠c):(tM w ⟨c,i,V⟩ u).heap[b]?=T o:=by
 simp only[tM,tW];rw[if_neg (fun e=>hne e.symm)];exact h
abbrev Im(w:tA)(b:Nat)(x y z u s:tD):tA:=((((tM w ⟨b,0,V⟩ x).setCell ⟨b,1,V⟩ y).setCell ⟨b,2,V⟩ z).setCell ⟨b,3,V⟩ u).setCell ⟨b,4,V⟩ s
theorem uL{w:tA}{b:Nat}{x y z u s:tD}{t:rB}(h:w.heap[b]?=T (tQ #[x,y,z,u,s] t))(x' y' z' u' s':tD):(Im w b x' y' z' u' s').heap[b]?=T (tQ #[x',y',z',u',s'] t):=Yh (Yh (Yh (Yh (Yh h))))
theorem qR{w W:tA}{b:Nat}(hg:tB w W V)(hb:w.heap.size<=b)(x y z u s:tD):tB w (Im W b x y z u s) V:=Qc (Qc (Qc (Qc (Qc hg _ hb _ _) _ hb _ _) _ hb _ _) _ hb _ _) _ hb _ _
theorem Lz(W:tA)(b:Nat)(x y z u s:tD):tB W (Im W b x y z u s) (T b):=Qg (Qg (Qg (Qg (Qg (Qb W (T b)) _ _) _ _) _ _) _ _) _ _
abbrev VO(w:tA)(b:Nat)(x y z u:tD):tA:=(((tM w ⟨b,0,V⟩ x).setCell ⟨b,1,V⟩ y).setCell ⟨b,2,V⟩ z).setCell ⟨b,3,V⟩ u
theorem XY{w:tA}{b:Nat}{x y z u:tD}{t:rB}(h:w.heap[b]?=T (tQ #[x,y,z,u] t))(x' y' z' u':tD):(VO w b x' y' z' u').heap[b]?=T (tQ #[x',y',z',u'] t):=Yh (Yh (Yh (Yh h)))
theorem ZX{w W:tA}{b:Nat}(hg:tB w W V)(hb:w.heap.size<=b)(x y z u:tD):tB w (VO W b x y z u) V:=Qc (Qc (Qc (Qc hg _ hb _ _) _ hb _ _) _ hb _ _) _ hb _ _
theorem Yf(W:tA)(b:Nat)(x y z u:tD):tB W (VO W b x y z u) (T b):=Qg (Qg (Qg (Qg (Qb W (T b)) _ _) _ _) _ _) _ _
theorem Q6.later{base:Nat}{w w':tA}{v:tD}{bs:List UInt8}(h:Q6 base w v bs){b:Nat}(hg:tB w w' (T b))(hb:b<base):Q6 base w' v bs:=by
 refine h.grown hg (.inr fun e=>?_);have:=(h.lt b e).1;omega
def EA(i:Nat):Nat:=[0,0,3,7,11,3,0,0,3].getD i 0
def KV(w:tA):Prop:=∀i,i<9->w.cell? ⟨0,i,V⟩=T (tR rM ((EA i:Nat):Int))
theorem KV.grown{w w':tA}(h:KV w)(hg:tB w w' V):KV w':=fun i hi=>hg.cell (h i hi) (by
 simp)
def QP(k:Int):Nat->Bool|0=>QS k|1=>QS k|2=>tN (k=3)|_=>tN (k=4)
theorem cT(k j:Nat)(hk:k<9)(hj:j<4):(bits BinOp.and rM ((EA k:Nat):Int) ((2^j:Nat):Int)!=0)=QP (k:Int) j:=(by
 decide+kernel:∀(k:Fin 9)(j:Fin 4),(bits BinOp.and rM ((EA k.1:Nat):Int) ((2^j.1:Nat):Int)!=0)=QP (k.1:Int) j.1) ⟨k,hk⟩ ⟨j,hj⟩
def JN(r:Rq):List UInt8:=if Yj r=0then Vb r else[]
def I6:Prop:=∀(w:tA)(v:tD)(r:Rq),KV w->KZ w v r->xT r->pA tH 21 #[v] w fun e w'=>∃x,e=sV (oC #[x,tR rF (Yj r)])∧Qh 0 w' x (JN r)∧tB w w' V
def Yl(w:tA)(v:tD)(r:Rd):Prop:=∃vn vk vl,v=pZ #[vn,vk,pS r.wide,vl]∧Qe w vn r.name∧Qe w vk r.key∧Qe w vl r.last
theorem Yl.grown{w w':tA}{v:tD}{r:Rd}(h:Yl w v r)(hg:tB w w' V):Yl w' v r:=by
 obtain⟨f,d,e,rfl,a,b,c⟩:=h;exact⟨f,d,e,rfl,a.grown hg,b.grown hg,c.grown hg⟩
theorem Yl.agg{w:tA}{v:tD}{r:Rd}(h:Yl w v r):∃na nc ka kc la lc,v=pZ #[tP na r.name.length nc,tP ka r.key.length kc,pS r.wide,tP la r.last.length lc]:=by
 obtain⟨f,d,e,rfl,a,b,c⟩:=h;obtain⟨na,nc,rfl⟩:=a.shape;obtain⟨ka,kc,rfl⟩:=b.shape;obtain⟨la,lc,rfl⟩:=c.shape;exact⟨na,nc,ka,kc,la,lc,rfl⟩
theorem Yl.parts{w:tA}{r:Rd}{x y g z:tD}(h:Yl w (pZ #[x,y,g,z]) r):Qe w x r.name∧Qe w y r.key∧g=pS r.wide∧Qe w z r.last:=by
 obtain⟨i,d,f,e,a,b,c⟩:=h;simp only[Value.agg.injEq,Array.mk.injEq,List.cons.injEq,and_true]at e;obtain⟨rfl,rfl,rfl,rfl⟩:=e;exact⟨a,b,rfl,c⟩
structure Pq(r:Rd):Prop where name:r.name.length<=140737488355328key:r.key.length<=140737488355328last:r.last.length<=140737488355328
structure kI where
  bit : Int
  right : Bool
  other : List UInt8
structure Dl where
  empty : Bool
  steps : List kI
  pair : Pr
def Ss:kI:=⟨0,tG,[]⟩
def UT:Dl:=⟨tG,[],([],[])⟩
instance:Inhabited kI:=⟨Ss⟩
instance:Inhabited Dl:=⟨UT⟩
def Ui(l:PL):Nat->Int|0=>999|1=>999|m+2=>if Jv (l.getD 0 ([],[])).1 (l.getD (m+1) ([],[])).1<Ui l (m+1)then Jv (l.getD 0 ([],[])).1 (l.getD (m+1) ([],[])).1 else Ui l (m+1)
def Qx(l:PL):Int:=Ui l l.length
def YP(l:PL)(b:Nat)(x:Bool):PL:=l.filter fun q=>ZJ q.1 b==x
theorem Dx(l:PL)(b:Nat)(x:Bool):(YP l b x).length<=l.length:=rC _ _
theorem XV{l:PL}(h:Zv l)(b:Nat)(x:Bool):Zv (YP l b x):=⟨rI (Dx l b x) h.room,fun p a=>h.pairs p (pC.1 a).1,sX _ h.rises⟩
theorem DD{l:PL}(h:Zv l)(i j:Nat)(hij:i<j)(hj:j<l.length):0<=Jv (l.getD i ([],[])).1 (l.getD j ([],[])).1:=by
 have d:=Uv l h.rises i j hij hj;have b:=(h.pairs l[i] (sK (by omega))).1;have c:=(h.pairs l[j] (sK hj)).1;rw[show l[i]=l.getD i ([],[])by simp[show i<l.length by omega]]at b;rw[show l[j]=l.getD j ([],[])by simp[hj]]at c;have:=Bt (l.getD i ([],[])).1 (l.getD j ([],[])).1 b.2 c.2;have a:=dR d;by_cases e:Jv (l.getD i ([],[])).1 (l.getD j ([],[])).1<0;·exact absurd (this.1 e) a
 ·omega
theorem Py{l:PL}(h:Zv l):∀m,m<=l.length->0<=Ui l m∧(2<=m->Ui l m<=144)∧Ui l m<=999|0,_=>⟨by simp[Ui],by omega,by simp[Ui]⟩|1,_=>⟨by simp[Ui],by omega,by simp[Ui]⟩|m+2,hm=>by have d:=Py h (m+1) (by omega);have b:=DD h 0 (m+1) (by omega) (by omega);have c:=PG (l.getD 0 ([],[])).1 (l.getD (m+1) ([],[])).1;rw[Ui];by_cases a:Jv (l.getD 0 ([],[])).1 (l.getD (m+1) ([],[])).1<Ui l (m+1);(·rw[if_pos a];omega);·rw[if_neg a];omega
theorem Yc{l:PL}(h:Zv l)(h2:2<=l.length):0<=Qx l∧Qx l<=144:=by
 have:=Py h l.length (sF _);exact⟨this.1,this.2.1 h2⟩
theorem Rj{l:PL}(_h:Zv l):∀m,2<=m->m<=l.length->∃j,0<j∧j<m∧Ui l m=Jv (l.getD 0 ([],[])).1 (l.getD j ([],[])).1|0,h,_=>by omega|1,h,_=>by omega|m+2,_,hm=>by rw[Ui];by_cases a:Jv (l.getD 0 ([],[])).1 (l.getD (m+1) ([],[])).1<Ui l (m+1);(·rw[if_pos a];exact⟨m+1,by omega,by omega,rfl⟩);·rw[if_neg a];by_cases b:m=0;(·subst b;have f:=PG (l.getD 0 ([],[])).1 (l.getD (0+1) ([],[])).1;simp only[Ui]at a;omega);·obtain⟨j,c,e,d⟩:=Rj _h (m+1) (by omega) (by omega);exact⟨j,c,by omega,d⟩
theorem jQ{l:PL}(h:Zv l)(h2:2<=l.length):∀x,(YP l (Qx l).toNat x).length<l.length:=by
 obtain⟨j,n,b,g⟩:=Rj h l.length h2 (sF _);have o:=Yc h h2;have d:ZJ (l.getD 0 ([],[])).1 (Qx l).toNat≠ZJ (l.getD j ([],[])).1 (Qx l).toNat:=by rcases JA (l.getD 0 ([],[])).1 (l.getD j ([],[])).1with⟨e,_⟩|⟨m,e,_,_,d⟩;(·rw[<-g]at e;unfold Qx at o;omega);·(have:(Qx l).toNat=m:=by unfold Qx;omega);rw[this];exact d
 intro x;by_cases i:(YP l (Qx l).toNat x).length<l.length;·exact i
 ·(have k:(YP l (Qx l).toNat x).length=l.length:=by have:=Dx l (Qx l).toNat x;omega);have a:=List.length_filter_eq_length_iff.1 k;have c:=a l[0] (sK (by omega));have f:=a l[j] (sK b);rw[show l[0]=l.getD 0 ([],[])by simp[show 0<l.length by omega]]at c;rw[show l[j]=l.getD j ([],[])by simp[b]]at f;simp only[beq_iff_eq]at c f;exact absurd (c.trans f.symm) d
def Ju(l:PL)(b:Nat):Nat:=(l.takeWhile fun q=>!ZJ q.1 b).length
theorem zX(l:PL):∀m j,0<j->j<m->m<=l.length->Ui l m<=Jv (l.getD 0 ([],[])).1 (l.getD j ([],[])).1|0,j,_,h,_=>by omega|1,j,h0,h,_=>by omega|m+2,j,h0,h,hm=>by rw[Ui];by_cases a:Jv (l.getD 0 ([],[])).1 (l.getD (m+1) ([],[])).1<Ui l (m+1);(·rw[if_pos a];by_cases e:j=m+1;(·subst e;exact oO _);·have:=zX l (m+1) j h0 (by omega) (by omega);omega);·rw[if_neg a];by_cases e:j=m+1;(·subst e;omega);·exact zX l (m+1) j h0 (by omega) (by omega)
theorem vX{l:PL}(h:Zv l)(h2:2<=l.length)(j:Nat)(hj:j<l.length)(b:Nat)(hb:b<(Qx l).toNat):ZJ (l.getD 0 ([],[])).1 b=ZJ (l.getD j ([],[])).1 b:=by
 by_cases c:j=0;·subst c;rfl
 ·have f:=zX l l.length j (by omega) hj (sF _);have g:=Yc h h2;rcases JA (l.getD 0 ([],[])).1 (l.getD j ([],[])).1with⟨e,a⟩|⟨m,e,d,a,_⟩;(·exact a b (by omega));·exact a b (by unfold Qx at hb;omega)
theorem E0{l:PL}(h:Zv l)(h2:2<=l.length)(i j:Nat)(hij:i<j)(hj:j<l.length)(hi:ZJ (l.getD i ([],[])).1 (Qx l).toNat=tE):ZJ (l.getD j ([],[])).1 (Qx l).toNat=tE:=by
 have g:=Uv l h.rises i j hij hj;have n:=DD h i j hij hj;rcases JA (l.getD i ([],[])).1 (l.getD j ([],[])).1with⟨e,_⟩|⟨m,e,k,c,b⟩;·omega
 ·(have f:(Qx l).toNat<=m:=by by_cases a:m<(Qx l).toNat;(·exact absurd ((vX h h2 i (by omega) m a).symm.trans (vX h h2 j hj m a)) b);·omega);by_cases d:(Qx l).toNat=m;(·rw[d];have:=FP _ _ m c b;rw[this];exact g);·rw[<-c _ (by omega)];exact hi
theorem E9{l:PL}(h:Zv l)(h2:2<=l.length):ZJ (l.getD 0 ([],[])).1 (Qx l).toNat=tG∧ZJ (l.getD (l.length-1) ([],[])).1 (Qx l).toNat=tE:=by
 obtain⟨j,c,d,f⟩:=Rj h l.length h2 (sF _);have o:=Yc h h2;have i:=Uv l h.rises 0 j c d;rcases JA (l.getD 0 ([],[])).1 (l.getD j ([],[])).1with⟨e,_⟩|⟨m,e,q,p,g⟩;·rw[<-f]at e;unfold Qx at o;omega
 ·(have b:(Qx l).toNat=m:=by unfold Qx;omega);have n:=FP _ _ m p g;(have a:ZJ (l.getD j ([],[])).1 m=tE:=by rw[n];exact i);refine⟨?_,?_⟩;(·rw[b];cases hx:ZJ (l.getD 0 ([],[])).1 m with|false=>rfl|true=>exact absurd (hx.trans a.symm) g);·by_cases k:j=l.length-1;(·rw[<-k,b];exact a);·exact E0 h h2 j (l.length-1) (by omega) (by omega) (by rw[b];exact a)
theorem EV{l:PL}(h:Zv l)(h2:2<=l.length):Jv (l.getD 0 ([],[])).1 (l.getD (l.length-1) ([],[])).1=Qx l:=by
 have e:=Yc h h2;obtain⟨a,c⟩:=E9 h h2;rw[M8 _ _ (Qx l).toNat (by omega) (fun b d=>vX h h2 _ (by omega) b d) (by rw[a,c];simp)];omega
theorem Sw:∀(l:PL)(b j:Nat),j<Ju l b->ZJ (l.getD j ([],[])).1 b=tG|[],b,j,h=>by simp[Ju]at h|p::r,b,j,h=>by cases hk:ZJ p.1 b with|true=>simp[Ju,hk]at h|false=>cases j with|zero=>simpa using hk|succ j=>have:=Sw r b j (by unfold Ju at h⊢;rw[tT (p:=fun q:Pr=>!ZJ q.1 b) (by simp[hk])]at h;simpa using h);simpa using this
theorem Cn:∀(l:PL)(b:Nat),Ju l b<l.length->ZJ (l.getD (Ju l b) ([],[])).1 b=tE|[],b,h=>by simp at h|p::r,b,h=>by cases hk:ZJ p.1 b with|true=>simp[Ju,hk]|false=>(have e:Ju (p::r) b=Ju r b+1:=by unfold Ju;rw[tT (p:=fun q:Pr=>!ZJ q.1 b) (by simp[hk])];simp);rw[e]at h⊢;have:=Cn r b (by simpa using h);simpa using this
theorem Gu{l:PL}(h:Zv l)(h2:2<=l.length)(j:Nat)(hj:j<l.length):ZJ (l.getD j ([],[])).1 (Qx l).toNat=tN (Ju l (Qx l).toNat<=j):=by
 by_cases a:j<Ju l (Qx l).toNat;·rw[decide_eq_false (by omega)];exact Sw l _ j a
 ·rw[decide_eq_true (by omega)];have b:=Cn l (Qx l).toNat (by omega);by_cases e:j=Ju l (Qx l).toNat;(·rw[e];exact b);·exact E0 h h2 _ j (by omega) hj b
theorem Um{l:PL}(h:Zv l)(h2:2<=l.length):0<Ju l (Qx l).toNat∧Ju l (Qx l).toNat<l.length:=by
 obtain⟨a,b⟩:=E9 h h2;rw[Gu h h2 0 (by omega)]at a;rw[Gu h h2 _ (by omega)]at b;simp at a b;omega
theorem j9{l:PL}(h:Zv l)(h2:2<=l.length):YP l (Qx l).toNat tG=l.take (Ju l (Qx l).toNat):=by
 have g:=Um h h2;have f:=fun j c=>Gu h h2 j c;generalize(Qx l).toNat=b at*;generalize Ju l b=n at*;have e:l=l.take n++l.drop n:=(tL n l).symm;rw[YP];conv=>lhs;rw[e]
 rw[sN,tU.2,sO.2,sD];·intro q d;obtain⟨j,c,rfl⟩:=tC.1 d;(have a:n+j<l.length:=by simp at c;omega);rw[sR,show l[n+j]=l.getD (n+j) ([],[])by simp[a],f _ a];simp
 ·intro q d;obtain⟨j,c,rfl⟩:=tC.1 d;(have a:j<n:=by simp at c;omega);rw[sJ,show l[j]'(by omega)=l.getD j ([],[])by simp[show j<l.length by omega],f _ (by omega)];simp[a]
theorem Pk{l:PL}(h:Zv l)(h2:2<=l.length):YP l (Qx l).toNat tE=l.drop (Ju l (Qx l).toNat):=by
 have g:=Um h h2;have f:=fun j c=>Gu h h2 j c;generalize(Qx l).toNat=b at*;generalize Ju l b=n at*;have e:l=l.take n++l.drop n:=(tL n l).symm;rw[YP];conv=>lhs;rw[e]
 rw[sN,sO.2,tU.2,pF];·intro q d;obtain⟨j,c,rfl⟩:=tC.1 d;(have a:n+j<l.length:=by simp at c;omega);rw[sR,show l[n+j]=l.getD (n+j) ([],[])by simp[a],f _ a];simp
 ·intro q d;obtain⟨j,c,rfl⟩:=tC.1 d;(have a:j<n:=by simp at c;omega);rw[sJ,show l[j]'(by omega)=l.getD j ([],[])by simp[show j<l.length by omega],f _ (by omega)];simp[a]
def U(x:BitVec 64):Int:=(x.toNat:Int)
theorem yE(x:BitVec 64):sG 64 (U x)=x:=by
 unfold U;rw[pQ];simp
theorem jS(x:BitVec 64):rJ.wrap (x.toNat:Int)=U x:=by
 rw[r7];unfold U;have:=x.isLt;omega
theorem Zk(x y:BitVec 64):bits .xor .u64 (U x) (U y)=U (x^^^y):=by
 show rJ.wrap ((sG 64 (U x)^^^sG 64 (U y)).toNat:Int)=_;rw[yE,yE,jS]
theorem Eu(x y:BitVec 64):bits .or .u64 (U x) (U y)=U (x|||y):=by
 show rJ.wrap ((sG 64 (U x)|||sG 64 (U y)).toNat:Int)=_;rw[yE,yE,jS]
theorem Kh(x y:BitVec 64):bits .andNot .u64 (U x) (U y)=U (x&&&~~~y):=by
 show rJ.wrap ((sG 64 (U x)&&&~~~sG 64 (U y)).toNat:Int)=_;rw[yE,yE,jS]
theorem JB(x:BitVec 64)(k:Nat):rJ.wrap (U x*2^k)=U (x<<<k):=by
 rw[r7];unfold U;rw[BitVec.toNat_shiftLeft,Nat.shiftLeft_eq];have e:((x.toNat:Int)*2^k)=((x.toNat*2^k:Nat):Int):=by simp
 rw[e];omega
theorem EZ(x:BitVec 64)(k:Nat):U x/2^k=U (x>>>k):=by
 unfold U;rw[BitVec.toNat_ushiftRight,Nat.shiftRight_eq_div_pow];simp
theorem fN(k:Int)(h0:0<=k)(h:k<64):bits .and .u64 k 63=k:=by
 obtain⟨n,rfl⟩:=Int.eq_ofNat_of_zero_le h0;show rJ.wrap ((sG 64 (n:Int)&&&sG 64 63).toNat:Int)=_;rw[pQ,BitVec.toNat_and];have a:(BitVec.ofNat 64 n).toNat=n:=by rw[BitVec.toNat_ofNat];omega
 have b:(sG 64 63).toNat=2^6-1:=by decide
 rw[a,b,Nat.and_two_pow_sub_one_eq_mod,r7];omega
def zR(x:BitVec 64)(k:Nat):BitVec 64:=(x<<<k)|||(x>>>(64-k))
section
theorem S5(x:BitVec 64)(k:Int)(h0:0<=k)(h:k<64)(w:tA):pA tH 151 #[tR .u64 (U x),tR rF k] w fun e w'=>e=sV (tR .u64 (U (zR x k.toNat)))∧w'=w:=by
 have a:=fN k h0 h;go_enter Tryz.func151,Tryz.ntmps151;go_wp2;go_ret;refine⟨?_,rfl⟩;rw[show(64-k).toNat=64-k.toNat by omega,JB,EZ,Eu];rfl
def JV(st:List (BitVec 64)):Array tD:=(st.map fun x=>tR .u64 (U x)).toArray
structure XS (n : Nat) (w : tA) (b : Nat) (st : List (BitVec 64)) : Prop where
  len : st.length = n
  blk : ∃ t, w.heap[b]? = T (tQ (JV st) t (0, 0))
section
variable{n:Nat}{w:tA}{b:Nat}{st:List (BitVec 64)}
theorem XS.cell(h:XS n w b st)(i:Nat)(hi:i<n):w.cell? ⟨b,i,V⟩=T (tR .u64 (U (st.getD i 0))):=by
 obtain⟨t,a⟩:=h.blk;simp[sE,a,JV,sY,rS (show i<st.length by have:=h.len;omega)]
theorem XS.frozen(h:XS n w b st)(i:Nat):w.frozen? ⟨b,i,V⟩=tG:=by
 obtain⟨t,a⟩:=h.blk;simp[rA,a]
theorem XS.lt(h:XS n w b st):b<w.heap.size:=by
 obtain⟨t,a⟩:=h.blk;exact(tS.1 a).1
theorem MK(st:List (BitVec 64))(i:Nat)(x:BitVec 64):(JV st).setIfInBounds i (tR .u64 (U x))=JV (st.set i x):=by
 simp[JV]
theorem XS.set(h:XS n w b st)(i:Nat)(x:BitVec 64):XS n (tM w ⟨b,i,V⟩ (tR .u64 (U x))) b (st.set i x):=by
 obtain⟨t,a⟩:=h.blk;refine⟨by simp[h.len],t,?_⟩;simp only[tM,tW,if_true,a,sU];simp[MK]
theorem XS.setOther(h:XS n w b st)(c:Nat)(hc:b≠c)(i:Nat)(v:tD):XS n (tM w ⟨c,i,V⟩ v) b st:=by
 obtain⟨t,a⟩:=h.blk;exact⟨h.len,t,by rw[Below.heap_setCell _ _ _ _ hc];exact a⟩
theorem XS.drewN(h:XS n w b st)(k:Nat):XS n (w.drewN k) b st:=⟨h.len,h.blk⟩
theorem XS.drew(h:XS n w b st):XS n w.drew b st:=⟨h.len,h.blk⟩
theorem XS.alloc(h:XS n w b st)(o:Obj):XS n (w.alloc o) b st:=by
 obtain⟨t,a⟩:=h.blk;exact⟨h.len,t,by rw[Below.heap_alloc _ _ _ h.lt];exact a⟩
theorem XS.grown(h:XS n w b st){w':tA}{r:Option Nat}(hg:tB w w' r)(hr:T b≠r):XS n w' b st:=by
 obtain⟨t,a⟩:=h.blk;exact⟨h.len,t,by rw[hg.block b h.lt hr];exact a⟩
theorem XS.new(w:tA)(t:rB)(st:List (BitVec 64))(hl:st.length=n):XS n (w.alloc (tQ (JV st) t)) w.heap.size st:=⟨hl,t,rP w _⟩
end
abbrev St:=XS 25
def Sx(st:List (BitVec 64))(n:Nat):List (BitVec 64):=let a:=st.getD n 0;let b:=st.getD (n+1) 0;let c:=st.getD (n+2) 0;let d:=st.getD (n+3) 0;let e:=st.getD (n+4) 0;((((st.set n (a^^^(c&&&~~~b))).set (n+1) (b^^^(d&&&~~~c))).set (n+2) (c^^^(e&&&~~~d))).set (n+3) (d^^^(a&&&~~~e))).set (n+4) (e^^^(b&&&~~~a))
def Vt(st:List (BitVec 64)):Nat->List (BitVec 64)|0=>st|k+1=>Sx (Vt st k) (5*k)
theorem WX(w:tA)(b:Nat)(st:List (BitVec 64))(h:St w b st):pA tH 149 #[.pointer (T ⟨b,0,V⟩)] w fun e w'=>e=sV (oC #[])∧St w' b (Vt st 5)∧tB w w' (T b):=by
 go_enter Tryz.func149,Tryz.ntmps149;go_wp2;go_loopw[2](fun y wr=>∃k:Nat,k<=5∧y=tR rF ((5*k:Nat):Int)∧St wr b (Vt st k)∧tB w wr (T b))(fun y _=>25-(intOf y).toNat);case atStart=>exact⟨0,by omega,rfl,h,Qb _ _⟩
 case round=>obtain⟨k,z,rfl,a,f⟩:=hrel;by_cases q:k<5;(·generalize hn:5*k=n;have d:Hid (5*k=n):=hn;clear hn;(have p:n+4<25:=by have:=d.out;omega);have c:=a.cell;have x:=a.frozen;have r:=c n (by omega);have s:=c (n+1) (by omega);have t:=c (n+2) (by omega);have u:=c (n+3) (by omega);have v:=c (n+4) (by omega);clear c;generalize hS:Vt st k=S at*;have o:Hid (Vt st k=S):=hS;clear hS;generalize hA:S.getD n 0=A at*;generalize hB:S.getD (n+1) 0=B at*;generalize hC:S.getD (n+2) 0=C at*;generalize hD:S.getD (n+3) 0=D at*;generalize hE:S.getD (n+4) 0=E at*;have g:Hid (S.getD n 0=A):=hA;have i:Hid (S.getD (n+1) 0=B):=hB;have j:Hid (S.getD (n+2) 0=C):=hC;have l:Hid (S.getD (n+3) 0=D):=hD;have m:Hid (S.getD (n+4) 0=E):=hE;clear hA hB hC hD hE;(have F:(n:Int)+4<25:=by omega);go_wp2;go_quiet(fail);go_wp2;go_roundw;(case rel=>refine⟨k+1,by omega,by have:=d.out;congr 1;omega,?_,?_⟩;(·rw[Kh,Kh,Kh,Kh,Kh,Zk,Zk,Zk,Zk,Zk];(have e:Vt st (k+1)=((((S.set n (A^^^(C&&&~~~B))).set (n+1) (B^^^(D&&&~~~C))).set (n+2) (C^^^(E&&&~~~D))).set (n+3) (D^^^(A&&&~~~E))).set (n+4) (E^^^(B&&&~~~A)):=by simp only[Vt,Sx,o.out,d.out,g.out,i.out,j.out,l.out,m.out]);rw[e];exact(((((a.drewN nq).set n _).set (n+1) _).set (n+2) _).set (n+3) _).set (n+4) _);·exact Qg (Qg (Qg (Qg (Qg (Qs f nq) n _) (n+1) _) (n+2) _) (n+3) _) (n+4) _);case measure=>simp[intOf];omega);·(obtain rfl:k=5:=by omega);go_wp2;go_end0;exact⟨rfl,a,f⟩
end
def Sd(st:List (BitVec 64))(x:Nat):BitVec 64:=st.getD x 0^^^st.getD (x+5) 0^^^st.getD (x+10) 0^^^st.getD (x+15) 0^^^st.getD (x+20) 0
def UZ(st:List (BitVec 64)):Nat->List (BitVec 64)|0=>[0,0,0,0,0]|k+1=>(UZ st k).set k (Sd st k)
def OY(c:List (BitVec 64)):List (BitVec 64):=[c.getD 4 0^^^zR (c.getD 1 0) 1,c.getD 0 0^^^zR (c.getD 2 0) 1,c.getD 1 0^^^zR (c.getD 3 0) 1,c.getD 2 0^^^zR (c.getD 4 0) 1,c.getD 3 0^^^zR (c.getD 0 0) 1]
def Fu(d st:List (BitVec 64))(k:Nat):List (BitVec 64):=let y:=d.getD k 0;((((st.set k (st.getD k 0^^^y)).set (k+5) (st.getD (k+5) 0^^^y)).set (k+10) (st.getD (k+10) 0^^^y)).set (k+15) (st.getD (k+15) 0^^^y)).set (k+20) (st.getD (k+20) 0^^^y)
def yZ(d st:List (BitVec 64)):Nat->List (BitVec 64)|0=>st|k+1=>Fu d (yZ d st k) k
theorem OQ(w:tA)(b:Nat)(st:List (BitVec 64))(h:St w b st):pA tH 147 #[.pointer (T ⟨b,0,V⟩)] w fun e w'=>e=sV (oC #[])∧St w' b (yZ (OY (UZ st 5)) st 5)∧tB w w' (T b):=by
 have q:b≠w.heap.size:=Nat.ne_of_lt h.lt;have L:=h;go_enter Tryz.func147,Tryz.ntmps147;go_wp2_with fail;go_loopw[6](fun i wr=>∃k:Nat,k<=5∧i=tR rF (k:Int)∧St wr b st∧XS 5 wr w.heap.size (UZ st k)∧tB w wr (T b))(fun i _=>5-(intOf i).toNat);case atStart=>exact⟨0,by omega,rfl,h.alloc _,XS.new w 250 [0,0,0,0,0] rfl,Qv (Qb _ _) _⟩
 case round=>obtain⟨k,N,rfl,a,c,j⟩:=hrel;by_cases g:k<5;(·have A:=a.cell k (by omega);have B:=a.cell (k+5) (by omega);have C:=a.cell (k+10) (by omega);have D:=a.cell (k+15) (by omega);have E:=a.cell (k+20) (by omega);have F:=c.cell k g;have M:=c.frozen k;generalize hx0:st.getD k 0=x0 at*;generalize hx1:st.getD (k+5) 0=x1 at*;generalize hx2:st.getD (k+10) 0=x2 at*;generalize hx3:st.getD (k+15) 0=x3 at*;generalize hx4:st.getD (k+20) 0=x4 at*;(have p:Hid (Sd st k=x0^^^x1^^^x2^^^x3^^^x4):=by show Sd st k=_;simp only[Sd,hx0,hx1,hx2,hx3,hx4]);generalize hcc:UZ st k=cc at*;have n:Hid (UZ st k=cc):=hcc;generalize hy:cc.getD k 0=y at*;clear hx0 hx1 hx2 hx3 hx4 hcc hy h;(have O:(k:Int)+20<25:=by omega);(have P:(k:Int)<5:=by omega);go_wp2_with fail;go_region;(all_goals go_wp2);go_roundw;(case rel=>rw[Zk,Zk,Zk,Zk];have v:=a.lt;have x:=c.lt;refine⟨k+1,by omega,by go_num,(a.setOther _ q _ _).drew,?_,Ql (Qc j _ (sF _) _ _)⟩;simp only[UZ,n.out,p.out];exact(c.set k _).drew);case measure=>simp[intOf];omega);·(obtain rfl:k=5:=by omega);have G:=c.cell 0 (by omega);have H:=c.cell 1 (by omega);have I:=c.cell 2 (by omega);have J:=c.cell 3 (by omega);have K:=c.cell 4 (by omega);generalize hcc:UZ st 5=cc at*;have n:Hid (UZ st 5=cc):=hcc;generalize hx0:cc.getD 0 0=x0 at*;generalize hx1:cc.getD 1 0=x1 at*;generalize hx2:cc.getD 2 0=x2 at*;generalize hx3:cc.getD 3 0=x3 at*;generalize hx4:cc.getD 4 0=x4 at*;(have t:Hid (OY cc=[x4^^^zR x1 1,x0^^^zR x2 1,x1^^^zR x3 1,x2^^^zR x4 1,x3^^^zR x0 1]):=by show OY cc=_;simp only[OY,hx0,hx1,hx2,hx3,hx4]);clear hcc hx0 hx1 hx2 hx3 hx4 h;have r:=c.lt;go_upto_region 6with fail;go_cut[4](fun Q s=>Q=.pointer (T ⟨wr.heap.size,0,V⟩)∧St s b st∧XS 5 s wr.heap.size (OY cc)∧tB w s (T b));(case first=>go_region_held3(fun w'=>w'.cell? ⟨w.heap.size,0,V⟩=T (tR .u64 (U x0))∧w'.cell? ⟨w.heap.size,1,V⟩=T (tR .u64 (U x1))∧w'.cell? ⟨w.heap.size,2,V⟩=T (tR .u64 (U x2))∧w'.cell? ⟨w.heap.size,3,V⟩=T (tR .u64 (U x3))∧w'.cell? ⟨w.heap.size,4,V⟩=T (tR .u64 (U x4)))(go_keep)(first|(go_at_call 151;refine(S5 _ (1:Int) (by omega) (by omega) _).mono ?_;rintro e w'⟨rfl,rfl⟩));all_goals(go_wp2_with fail;go_meet;case rel=>(rw[t.out,Zk,Zk,Zk,Zk,Zk];exact⟨rfl,(a.alloc _).drew,(XS.new wr 250 [x4^^^zR x1 1,x0^^^zR x2 1,x1^^^zR x3 1,x2^^^zR x4 1,x3^^^zR x0 1] rfl).drew,Ql (Qv j _)⟩)));case rest=>obtain⟨rfl,f,l,m⟩:=hcut;clear G H I J K a c j;(have d:b≠wr.heap.size:=by have:=L.lt;omega);generalize hD:OY cc=dd at*;have o:Hid (OY cc=dd):=hD;clear hD t;generalize hdn:wr.heap.size=db at*;clear hdn r;go_wp2_with fail;go_loopw[76](fun i wr=>∃k:Nat,k<=5∧i=tR rF (k:Int)∧St wr b (yZ dd st k)∧XS 5 wr db dd∧tB w wr (T b))(fun i _=>5-(intOf i).toNat);(case atStart=>exact⟨0,by omega,rfl,f,l,m⟩);case round=>clear f l m;obtain⟨k,N,rfl,a,u,j⟩:=hrel;by_cases g:k<5;(·have A:=a.cell k (by omega);have B:=a.cell (k+5) (by omega);have C:=a.cell (k+10) (by omega);have D:=a.cell (k+15) (by omega);have E:=a.cell (k+20) (by omega);have F:=u.cell k g;have M:=a.frozen;generalize hS:yZ dd st k=S at*;have z:Hid (yZ dd st k=S):=hS;generalize hy:dd.getD k 0=y at*;generalize hx0:S.getD k 0=x0 at*;generalize hx1:S.getD (k+5) 0=x1 at*;generalize hx2:S.getD (k+10) 0=x2 at*;generalize hx3:S.getD (k+15) 0=x3 at*;generalize hx4:S.getD (k+20) 0=x4 at*;(have p:Hid (Fu dd S k=((((S.set k (x0^^^y)).set (k+5) (x1^^^y)).set (k+10) (x2^^^y)).set (k+15) (x3^^^y)).set (k+20) (x4^^^y)):=by show Fu dd S k=_;simp only[Fu,hy,hx0,hx1,hx2,hx3,hx4]);clear hS hy hx0 hx1 hx2 hx3 hx4;(have O:(k:Int)+20<25:=by omega);(have P:(k:Int)<5:=by omega);go_wp2_with fail;go_region;go_wp2_with fail;go_region;go_wp2_with fail;go_region;go_wp2_with fail;go_region;go_wp2_with fail;go_region;go_wp2_with fail;go_roundw;(case rel=>rw[Zk,Zk,Zk,Zk,Zk];refine⟨k+1,by omega,by go_num,?_,?_,?_⟩;(·simp only[yZ,z.out,p.out];exact(((((a.set k _).set (k+5) _).set (k+10) _).set (k+15) _).set (k+20) _).drew.drew.drew.drew.drew);(·exact(((((u.setOther b d.symm k _).setOther b d.symm (k+5) _).setOther b d.symm (k+10) _).setOther b d.symm (k+15) _).setOther b d.symm (k+20) _).drew.drew.drew.drew.drew);·exact Ql (Ql (Ql (Ql (Ql (Qg (Qg (Qg (Qg (Qg j k _) (k+5) _) (k+10) _) (k+15) _) (k+20) _))))));case measure=>simp[intOf];omega);·(obtain rfl:k=5:=by omega);go_wp2;go_end0;refine⟨rfl,?_,j⟩;rw[n.out,o.out];exact a
def Jm:List Nat:=[10,7,11,17,18,3,5,16,8,21,24,4,15,23,19,13,12,2,20,14,22,9,6,1]
def JQ:List Nat:=[1,3,6,10,15,21,28,36,45,55,2,14,27,41,56,8,25,43,62,18,39,61,20,44]
def Jn:List (BitVec 64):=[0x0000000000000001,0x0000000000008082,0x800000000000808a,0x8000000080008000,0x000000000000808b,0x0000000080000001,0x8000000080008081,0x8000000000008009,0x000000000000008a,0x0000000000000088,0x0000000080008009,0x000000008000000a,0x000000008000808b,0x800000000000008b,0x8000000000008089,0x8000000000008003,0x8000000000008002,0x8000000000000080,0x000000000000800a,0x800000008000000a,0x8000000080008081,0x8000000000008080,0x0000000080000001,0x8000000080008008]
theorem bN(k:Nat)(h:k<24):Jm.getD k 0<25:=(by
 decide:∀k:Fin 24,Jm.getD k.1 0<25) ⟨k,h⟩
theorem Ip(k:Nat)(h:k<24):JQ.getD k 0<64:=(by
 decide:∀k:Fin 24,JQ.getD k.1 0<64) ⟨k,h⟩
structure X8(w:tA):Prop where nums:∀i,i<24->w.cell? ⟨2,i,V⟩=T (tR .u64 (U (Jn.getD i 0)))walk:∀i,i<24->w.cell? ⟨3,i,V⟩=T (tR rF ((Jm.getD i 0:Nat):Int))turns:∀i,i<24->w.cell? ⟨4,i,V⟩=T (tR rF ((JQ.getD i 0:Nat):Int))
theorem X8.grown{w w':tA}{b:Nat}(h:X8 w)(hg:tB w w' (T b))(hb:5<=b):X8 w':=⟨fun i a=>hg.cell (h.nums i a) (by
 simp;omega),fun i a=>hg.cell (h.walk i a) (by
 simp;omega),fun i a=>hg.cell (h.turns i a) (by
 simp;omega)⟩
def JG(st:List (BitVec 64)):Nat->List (BitVec 64)×BitVec 64|0=>(st,st.getD 1 0)|k+1=>((JG st k).1.set (Jm.getD k 0) (zR (JG st k).2 (JQ.getD k 0)),(JG st k).1.getD (Jm.getD k 0) 0)
theorem Ok(w:tA)(b:Nat)(hb:5<=b)(st:List (BitVec 64))(h:St w b st)(ht:X8 w):pA tH 148 #[.pointer (T ⟨b,0,V⟩)] w fun e w'=>e=sV (oC #[])∧St w' b (JG st 24).1∧tB w w' (T b):=by
 have q:=h.cell 1 (by omega);go_enter Tryz.func148,Tryz.ntmps148;go_wp2;go_loopw[2,10](fun m i wr=>∃k:Nat,k<=24∧i=tR rF (k:Int)∧m=tR .u64 (U (JG st k).2)∧St wr b (JG st k).1∧tB w wr (T b))(fun _ i _=>24-(intOf i).toNat);case atStart=>exact⟨0,by omega,rfl,by simp[JG],h,Qb _ _⟩
 case round=>obtain⟨k,t,rfl,rfl,d,g⟩:=hrel;clear q;by_cases a:k<24;(·have f:=ht.grown g hb;have r:=bN k a;have u:=Ip k a;have x:=f.walk k a;have y:=f.turns k a;have c:=d.cell (Jm.getD k 0) r;have s:=d.frozen;generalize hS:(JG st k).1=S at*;have j:Hid ((JG st k).1=S):=hS;generalize hM:(JG st k).2=M at*;have n:Hid ((JG st k).2=M):=hM;generalize hW:Jm.getD k 0=W at*;have l:Hid (Jm.getD k 0=W):=hW;generalize hR:JQ.getD k 0=R at*;have o:Hid (JQ.getD k 0=R):=hR;clear hS hM hW hR;generalize hX:S.getD W 0=X at*;have p:Hid (S.getD W 0=X):=hX;clear hX f ht h;(have v:(W:Int)<25:=by omega);go_wp2_with fail;go_region_with(go_at_call 151;refine(S5 M (R:Int) (by omega) (by omega) _).mono ?_;rintro e w'⟨rfl,rfl⟩);(all_goals go_wp2);go_roundw;(case rel=>refine⟨k+1,by omega,by go_num,?_,?_,Ql (Qg g _ _)⟩;(·simp only[JG,j.out,l.out,p.out]);·simp only[JG,j.out,n.out,l.out,o.out];exact(d.set W _).drew);case measure=>simp[intOf];omega);·(obtain rfl:k=24:=by omega);go_wp2;go_end0;exact⟨rfl,d,g⟩
def C4(st:List (BitVec 64))(n:BitVec 64):List (BitVec 64):=let r:=Vt (JG (yZ (OY (UZ st 5)) st 5) 24).1 5;r.set 0 (r.getD 0 0^^^n)
theorem WL(w:tA)(b:Nat)(hb:5<=b)(st:List (BitVec 64))(n:BitVec 64)(h:St w b st)(ht:X8 w):pA tH 144 #[.pointer (T ⟨b,0,V⟩),tR .u64 (U n)] w fun e w'=>e=sV (oC #[])∧St w' b (C4 st n)∧tB w w' (T b):=by
 go_enter Tryz.func144,Tryz.ntmps144;go_wp2_with fail;refine(OQ _ b st h).mono ?_;rintro e k⟨rfl,c,g1⟩;go_wp2_with fail;refine(Ok _ b hb _ c (ht.grown g1 hb)).mono ?_;rintro e l⟨rfl,d,g2⟩;go_wp2_with fail;refine(WX _ b _ d).mono ?_;rintro e m⟨rfl,a,g3⟩;have g:=Qa g1 (Qa g2 g3);clear g1 g2 g3 c d h ht;have f:Hid (C4 st n=(Vt (JG (yZ (OY (UZ st 5)) st 5) 24).1 5).set 0 ((Vt (JG (yZ (OY (UZ st 5)) st 5) 24).1 5).getD 0 0^^^n)):=rfl;generalize Vt (JG (yZ (OY (UZ st 5)) st 5) 24).1 5=S at*;have i:=a.cell 0 (by omega);have j:=a.frozen 0;generalize hx:S.getD 0 0=x at*;clear hx;go_wp2_with fail;go_region;go_wp2_with fail;go_end0;refine⟨rfl,?_,Ql (Qg g 0 _)⟩;rw[f.out,Zk];exact(a.set 0 _).drew
def jO{α:Type}(p:α->Bool):List α->Option Nat|[]=>V|a::l=>if p a=tE then T 0 else(jO p l).map (·+1)
def ZG{α:Type}(p:α->Bool)(l:List α):Int:=match jO p l with|T i=>(i:Int)|none=>-1
theorem FO{α:Type}(p:α->Bool)(d:α):∀(l:List α)(m:Nat),m<l.length->(l.take m).any p=tG->p (l.getD m d)=tE->jO p l=T m|[],_,h,_,_=>by simp at h|a::l,0,_,_,h=>by have b:p a=tE:=h;rw[jO,if_pos b]|a::l,m+1,h0,h1,h2=>by rw[sL,rX,rV]at h1;rw[jO,if_neg (by rw[h1.1];decide),FO p d l m (by simpa using h0) h1.2 (by simpa using h2)];rfl
theorem PJ{α:Type}(p:α->Bool):∀(l:List α),l.any p=tG->jO p l=V|[],_=>rfl|a::l,h=>by rw[rX,rV]at h;rw[jO,if_neg (by rw[h.1];decide),PJ p l h.2];rfl
theorem G9{α:Type}(p:α->Bool)(d:α)(l:List α)(m:Nat)(h:m<l.length)(h1:(l.take m).any p=tG)(h2:p (l.getD m d)=tE):ZG p l=(m:Int):=by
 rw[ZG,FO p d l m h h1 h2]
theorem KH{α:Type}(p:α->Bool)(l:List α)(h:l.any p=tG):ZG p l=-1:=by
 rw[ZG,PJ p l h]
theorem UR{α:Type}(p:α->Bool)(d:α):∀(l:List α),l.any p=tE->∃m,m<l.length∧(l.take m).any p=tG∧p (l.getD m d)=tE∧ZG p l=(m:Int)|[],h=>by simp at h|a::l,h=>by by_cases b:p a=tE;(·exact⟨0,by simp,by simp,b,G9 p d (a::l) 0 (by simp) (by simp) b⟩);·(have g:p a=tG:=by simpa using b);rw[rX,g,Bool.false_or]at h;obtain⟨m,k,i,j,_⟩:=UR p d l h;(have c:m+1<(a::l).length:=by simp;omega);(have e:((a::l).take (m+1)).any p=tG:=by rw[sL,rX,g,i];rfl);(have f:p ((a::l).getD (m+1) d)=tE:=by simpa using j);exact⟨m+1,c,e,f,G9 p d _ _ c e f⟩
theorem kA{α:Type}(p:α->Bool)(l:List α):(ZG p l==-1)=!(l.any p):=by
 cases h:l.any p with|false=>rw[KH p l h];rfl|true=>cases l with|nil=>simp at h|cons a l=>obtain⟨m,_,_,_,e⟩:=UR p a (a::l) h;rw[e];(have:((m:Int)==-1)=tG:=by simp);rw[this];rfl
theorem Tf{α:Type}(p:α->Bool)(l:List α):tN (0<=ZG p l)=l.any p:=by
 cases h:l.any p with|false=>rw[KH p l h];rfl|true=>cases l with|nil=>simp at h|cons a l=>obtain⟨m,_,_,_,e⟩:=UR p a (a::l) h;rw[e];simp
theorem KN(w:tA)(v1 v2:tD)(b1 b2:List UInt8)(h1:Qe w v1 b1)(h2:Qe w v2 b2):pA tH 80 #[v1,v2] w fun e w'=>e=sV (pS (tN (b1=b2)))∧w'=w:=by
 have a:=F0 w v1 b1 h1;have b:=F0 w v2 b2 h2;go_enter Tryz.func80,Tryz.ntmps80;go_wp2;go_ret;refine⟨?_,rfl⟩;have e:((jV b1).toList==(jV b2).toList)=tN (b1=b2):=by rw[Pw,Pw];by_cases h:b1=b2<;>simp[h]
 rw[<-e];rfl
theorem vG(p:Zc):QT [] [p]=QA p:=by
 have b:QZ []=0:=(XW []).2 G2;rw[QT,if_pos b,if_neg (by simp),Z7];by_cases h:QA p=0;·have a:=FU G2 h L8 (by omega);have c:(Zo [] p).length<=1:=ML [] p;rw[if_neg (by omega)]at a;rw[if_pos h,if_pos a,Z7,h]
 ·rw[if_neg h]
def Fz:Prop:=∀(w:tA)(a:Option pI)(n cap:Nat),pA tH 28 #[tP a n cap] w fun e w'=>e=sV (tR rF (Qn n))∧tB w w' V
theorem YD:Fz:=by
 intro w a n cap;by_cases c:1<=n;·by_cases d:n<=16;(·rw[Qn,if_pos ⟨c,d⟩];(have b:¬(n:Int)<1:=by omega);(have e:¬(n:Int)>16:=by omega);go_enter pT,pJ;go_wp2;go_ret;exact⟨rfl,Qb _ _⟩);·rw[Qn,if_neg (by omega)];(have b:¬(n:Int)<1:=by omega);(have e:(n:Int)>16:=by omega);go_enter pT,pJ;go_wp2;go_ret;exact⟨rfl,Qb _ _⟩
 ·rw[Qn,if_neg (by omega)];(have b:(n:Int)<1:=by omega);go_enter pT,pJ;go_wp2;go_ret;exact⟨rfl,Qb _ _⟩
def Zn(l:PL)(k:List UInt8):Nat:=(l.takeWhile fun p=>Yy p.1 k).length
def Gw(l:PL)(k:List UInt8):Bool:=tN (Zn l k<l.length∧(l.getD (Zn l k) ([],[])).1=k)
def XK(l:PL)(k:List UInt8):Nat:=if Gw l k=tE then Zn l k+1 else Zn l k
theorem xJ(l:PL)(k:List UInt8):Zn l k<=l.length:=by
 induction l with|nil=>simp[Zn]|cons p r ih=>unfold Zn at ih⊢;rw[pX];cases h:Yy p.1 k with|true=>simpa using ih|false=>simp
theorem IM:∀(l:PL)(k:List UInt8)(i:Nat),i<=l.length->(∀j,j<i->Yy (l.getD j ([],[])).1 k=tE)->(i<l.length->Yy (l.getD i ([],[])).1 k=tG)->Zn l k=i|[],k,i,h,_,_=>by(obtain rfl:i=0:=by simpa using h);rfl|p::r,k,0,_,_,h2=>by have:=h2 (by simp);simp only[sB]at this;simp[Zn,this]|p::r,k,i+1,h,h1,h2=>by have a:=h1 0 (by omega);simp only[sB]at a;have:=IM r k i (by simpa using h) (fun j c=>by simpa using h1 (j+1) (by omega)) (fun b=>by simpa using h2 (by simpa using b));unfold Zn at this⊢;rw[tT (p:=fun p:Pr=>Yy p.1 k) a];simpa using this
theorem Nm:∀(l:PL)(k:List UInt8)(j:Nat),j<Zn l k->Yy (l.getD j ([],[])).1 k=tE|[],k,j,h=>by simp[Zn]at h|p::r,k,j,h=>by cases hk:Yy p.1 k with|false=>simp[Zn,hk]at h|true=>cases j with|zero=>simpa using hk|succ j=>unfold Zn at h;rw[tT (p:=fun p:Pr=>Yy p.1 k) hk]at h;have:=Nm r k j (by unfold Zn;simpa using h);simpa using this
theorem NS:∀(l:PL)(k:List UInt8),Zn l k<l.length->Yy (l.getD (Zn l k) ([],[])).1 k=tG|[],k,h=>by simp at h|p::r,k,h=>by cases hk:Yy p.1 k with|false=>simp[Zn,hk]|true=>(have e:Zn (p::r) k=Zn r k+1:=by unfold Zn;rw[tT (p:=fun p:Pr=>Yy p.1 k) hk];simp);rw[e]at h⊢;have:=NS r k (by simpa using h);simpa using this
theorem kR(l:PL)(k:List UInt8)(hr:Uf l)(j:Nat)(hj:j<l.length):Yy (l.getD j ([],[])).1 k=tN (j<Zn l k):=by
 by_cases h:j<Zn l k;·rw[decide_eq_true h];exact Nm l k j h
 ·rw[decide_eq_false h];have a:=NS l k (by omega);by_cases e:j=Zn l k;(·rw[e];exact a);·cases hk:Yy (l.getD j ([],[])).1 k with|false=>rfl|true=>have:=JW _ _ _ (Uv l hr (Zn l k) j (by omega) hj) hk;rw[this]at a;cases a
theorem u7{l:PL}{k:List UInt8}(h:Gw l k=tE):Zn l k<l.length∧(l.getD (Zn l k) ([],[])).1=k:=by
 simpa only[Gw,decide_eq_true_eq]using h
theorem xY(l:PL)(k:List UInt8):Zn l k<=XK l k∧XK l k<=l.length∧XK l k<=Zn l k+1:=by
 have:=xJ l k;unfold XK;by_cases h:Gw l k=tE;·rw[if_pos h];have:=(u7 h).1;omega
 ·rw[if_neg h];omega
theorem FB(l:PL)(k:List UInt8)(hr:Uf l)(j:Nat)(hj:j<l.length)(he:(l.getD j ([],[])).1=k):Gw l k=tE∧j=Zn l k:=by
 have a:Zn l k=j:=by refine IM l k j (by omega) (fun i b=>?_) (fun _=>?_);(·rw[<-he];exact Uv l hr i j b hj);·rw[he];exact XX k
 refine⟨?_,a.symm⟩;rw[Gw,a];exact decide_eq_true ⟨hj,he⟩
theorem aH(l:PL)(k:List UInt8)(hr:Uf l):Ru l k=if Gw l k=tE then T (l.getD (Zn l k) ([],[])).2 else V:=by
 by_cases h:Gw l k=tE;·rw[if_pos h];obtain⟨b,c⟩:=u7 h;refine IF l k _ b (fun j a e=>?_) c;have:=Nm l k j a;rw[e,XX]at this;cases this
 ·rw[if_neg h];exact M9 l k fun j a e=>h (FB l k hr j a e).1
theorem Dm(l:PL)(p:Pr):JU l p=l.take (Zn l p.1)++([p]++l.drop (XK l p.1)):=by
 rw[SU l p (Zn l p.1) (xJ l p.1) (fun j a=>Nm l p.1 j a) (NS l p.1)];by_cases h:Zn l p.1<l.length∧(l.getD (Zn l p.1) ([],[])).1=p.1;·rw[if_pos h,XK,if_pos (by rw[Gw];exact decide_eq_true h),r8,if_pos h.1];rfl
 ·rw[if_neg h,XK,if_neg (by rw[Gw];simpa using h)]
theorem If(l:PL)(p:Pr):(JU l p).length=Zn l p.1+1+(l.length-XK l p.1):=by
 rw[Dm];have a:=xJ l p.1;simp;omega
theorem WQ(l:PL)(p:Pr)(hl:l.length<=60):(60<(JU l p).length)↔(Zn l p.1=XK l p.1∧l.length=60):=by
 rw[If];have:=xY l p.1;omega
theorem DM(l:PL)(f:Pr->Bool)(n:Nat)(hn:n<=l.length)(h1:∀j,j<n->f (l.getD j ([],[]))=tG)(h2:∀j,n<=j->j<l.length->f (l.getD j ([],[]))=tE):l.filter f=l.drop n:=by
 have e:l=l.take n++l.drop n:=(tL n l).symm;have d:(l.take n).filter f=[]:=by rw[sO];intro q c;obtain⟨j,b,rfl⟩:=tC.1 c;(have a:j<n:=by simp at b;omega);have:=h1 j a;rw[sJ];rw[show l[j]'(by omega)=l.getD j ([],[])by simp[show j<l.length by omega],this];simp
 have g:(l.drop n).filter f=l.drop n:=by rw[tU];intro q c;obtain⟨j,b,rfl⟩:=tC.1 c;(have a:n+j<l.length:=by simp at b;omega);rw[sR,show l[n+j]=l.getD (n+j) ([],[])by simp[a]];exact h2 _ (by omega) a
 conv=>lhs;rw[e]
 rw[sN,d,g,pF]
theorem DY(l:PL)(f:Pr->Bool)(n:Nat)(hn:n<=l.length)(h1:∀j,j<n->f (l.getD j ([],[]))=tE)(h2:∀j,n<=j->j<l.length->f (l.getD j ([],[]))=tG):l.filter f=l.take n:=by
 have e:l=l.take n++l.drop n:=(tL n l).symm;have g:(l.drop n).filter f=[]:=by rw[sO];intro q c;obtain⟨j,b,rfl⟩:=tC.1 c;(have a:n+j<l.length:=by simp at b;omega);rw[sR,show l[n+j]=l.getD (n+j) ([],[])by simp[a],h2 _ (by omega) a];simp
 have d:(l.take n).filter f=l.take n:=by rw[tU];intro q c;obtain⟨j,b,rfl⟩:=tC.1 c;(have a:j<n:=by simp at b;omega);rw[sJ,show l[j]'(by omega)=l.getD j ([],[])by simp[show j<l.length by omega]];exact h1 j a
 conv=>lhs;rw[e]
 rw[sN,d,g,sD]
theorem IS(l:PL)(k:List UInt8)(hr:Uf l):jP l k=l.take (Zn l k)++l.drop (XK l k):=by
 by_cases h:Gw l k=tE;·obtain⟨f,g⟩:=u7 h;(have e:l=l.take (Zn l k)++(l.getD (Zn l k) ([],[])::l.drop (Zn l k+1)):=by(conv=>lhs;rw[<-tL (Zn l k) l,sI f]);simp[f]);have c:∀j,j<l.length->j≠Zn l k->(l.getD j ([],[])).1≠k:=fun j a n e=>n (FB l k hr j a e).2;(have i:(l.take (Zn l k)).filter (fun q=>!(q.1==k))=l.take (Zn l k):=by rw[tU];intro q d;obtain⟨j,a,rfl⟩:=tC.1 d;(have b:j<Zn l k:=by simp at a;omega);rw[sJ,show l[j]'(by omega)=l.getD j ([],[])by simp[show j<l.length by omega]];simpa using c j (by omega) (by omega));(have m:(l.drop (Zn l k+1)).filter (fun q=>!(q.1==k))=l.drop (Zn l k+1):=by rw[tU];intro q d;obtain⟨j,a,rfl⟩:=tC.1 d;(have b:Zn l k+1+j<l.length:=by simp at a;omega);rw[sR,show l[Zn l k+1+j]=l.getD (Zn l k+1+j) ([],[])by simp[b]];simpa using c _ b (by omega));rw[XK,if_pos h,jP];(conv=>lhs;rw[e]);rw[sN,pK (by simpa using g),i,m]
 ·rw[XK,if_neg h,tL,jP,tU];intro q d;obtain⟨j,a,rfl⟩:=tC.1 d;have:=fun e=>h (FB l k hr j a e).1;rw[show l.getD j ([],[])=l[j]by simp[a]]at this;simpa using this
theorem PY(l:PL)(k:List UInt8)(hr:Uf l)(j:Nat)(hj:j<l.length):Yy k (l.getD j ([],[])).1=tN (XK l k<=j):=by
 have a:=kR l k hr j hj;have g:=xY l k;by_cases c:j<Zn l k;·rw[decide_eq_true c]at a;rw[Lq _ _ a,decide_eq_false (by omega)]
 ·rw[decide_eq_false c]at a;by_cases e:(l.getD j ([],[])).1=k;(·obtain⟨d,f⟩:=FB l k hr j hj e;rw[e,XX,XK,if_pos d,decide_eq_false (by omega)]);·rw[Up _ _ a e];by_cases h:Gw l k=tE;(·rw[XK,if_pos h,decide_eq_true (by by_cases b:j=Zn l k;(·exact absurd (by rw[b];exact(u7 h).2) e);·omega)]);·rw[XK,if_neg h,decide_eq_true (by omega)]
theorem C6(l:PL)(f t:List UInt8)(hr:Uf l):UY l f t=(l.take (max (Zn l f) (XK l t))).drop (Zn l f):=by
 have k:=xJ l f;have d:=xY l t;have e:UY l f t=(l.filter fun q=>!Yy t q.1).filter fun q=>!Yy q.1 f:=by rw[UY,List.filter_filter]
 rw[e,DY l _ (XK l t) d.2.1 (fun j a=>by rw[PY l t hr j (by omega),decide_eq_false (by omega)];rfl) (fun j a b=>by rw[PY l t hr j b,decide_eq_true a];rfl)];have h:∀(n:Nat),n<=l.length->(l.take n).filter (fun q=>!Yy q.1 f)=(l.take n).drop (Zn l f):=by intro n m;by_cases g:Zn l f<=n;(·refine DM _ _ _ (by simp;omega) (fun j a=>?_) (fun j a b=>?_);(·(have:(l.take n).getD j ([],[])=l.getD j ([],[]):=by simp[show j<n by omega]);rw[this,kR l f hr j (by omega),decide_eq_true a];rfl);·(have c:j<n:=by simp at b;omega);(have:(l.take n).getD j ([],[])=l.getD j ([],[]):=by simp[c]);rw[this,kR l f hr j (by omega),decide_eq_false (by omega)];rfl);·rw[sA (by simp;omega),sO];intro q i;obtain⟨j,a,rfl⟩:=tC.1 i;(have c:j<n:=by simp at a;omega);rw[sJ,show l[j]'(by omega)=l.getD j ([],[])by simp[show j<l.length by omega],kR l f hr j (by omega),decide_eq_true (by omega)];simp
 rw[h _ d.2.1];by_cases g:Zn l f<=XK l t;·rw[Nat.max_eq_right g]
 ·rw[Nat.max_eq_left (by omega),sA (by simp;omega),sA (by simp;omega)]
theorem E7:∀(t:FL)(p:Tn)(k:Nat),k<=t.length->(∀j,j<k->Yy (t.getD j ([],[])).1 p.1=tE)->(k<t.length->Yy (t.getD k ([],[])).1 p.1=tG)->Jg t p=if k<t.length∧(t.getD k ([],[])).1=p.1then t.set k p else t.take k++([p]++t.drop k)|[],p,k,a,_,_=>by(obtain rfl:k=0:=by simpa using a);simp[Jg]|q::r,p,0,_,_,h2=>by have h:=h2 (by simp);simp only[sB]at h;rw[Jg,if_neg (by rw[h];simp)];by_cases e:q.1=p.1;(·rw[if_pos e,if_pos ⟨by simp,by simpa using e⟩];simp);·rw[if_neg e,if_neg (fun h=>e (by simpa using h.2))];simp|q::r,p,k+1,a,h1,h2=>by have h:=h1 0 (by omega);simp only[sB]at h;rw[Jg,if_pos h,E7 r p k (by simpa using a) (fun j b=>by simpa using h1 (j+1) (by omega)) (fun a=>by simpa using h2 (by simpa using a))];by_cases e:k<r.length∧(r.getD k ([],[])).1=p.1;(·rw[if_pos e,if_pos ⟨by simpa using e.1,by simpa using e.2⟩];simp);·rw[if_neg e,if_neg (fun h=>e ⟨by simpa using h.1,by simpa using h.2⟩)];simp
def Qy(l:FL)(k:List UInt8):Nat:=(l.takeWhile fun p=>Yy p.1 k).length
def JP(l:FL)(k:List UInt8):Bool:=tN (Qy l k<l.length∧(l.getD (Qy l k) ([],[])).1=k)
def QL(l:FL)(k:List UInt8):Nat:=if JP l k=tE then Qy l k+1 else Qy l k
theorem uI(l:FL)(k:List UInt8):Qy l k<=l.length:=by
 induction l with|nil=>simp[Qy]|cons p r ih=>unfold Qy at ih⊢;rw[pX];cases h:Yy p.1 k with|true=>simpa using ih|false=>simp
theorem MI:∀(l:FL)(k:List UInt8)(i:Nat),i<=l.length->(∀j,j<i->Yy (l.getD j ([],[])).1 k=tE)->(i<l.length->Yy (l.getD i ([],[])).1 k=tG)->Qy l k=i|[],k,i,h,_,_=>by(obtain rfl:i=0:=by simpa using h);rfl|p::r,k,0,_,_,h2=>by have:=h2 (by simp);simp only[sB]at this;simp[Qy,this]|p::r,k,i+1,h,h1,h2=>by have a:=h1 0 (by omega);simp only[sB]at a;have:=MI r k i (by simpa using h) (fun j c=>by simpa using h1 (j+1) (by omega)) (fun b=>by simpa using h2 (by simpa using b));unfold Qy at this⊢;rw[tT (p:=fun p:Tn=>Yy p.1 k) a];simpa using this
theorem uG:∀(l:FL)(k:List UInt8)(j:Nat),j<Qy l k->Yy (l.getD j ([],[])).1 k=tE|[],k,j,h=>by simp[Qy]at h|p::r,k,j,h=>by cases hk:Yy p.1 k with|false=>simp[Qy,hk]at h|true=>cases j with|zero=>simpa using hk|succ j=>unfold Qy at h;rw[tT (p:=fun p:Tn=>Yy p.1 k) hk]at h;have:=uG r k j (by unfold Qy;simpa using h);simpa using this
theorem Pg:∀(l:FL)(k:List UInt8),Qy l k<l.length->Yy (l.getD (Qy l k) ([],[])).1 k=tG|[],k,h=>by simp at h|p::r,k,h=>by cases hk:Yy p.1 k with|false=>simp[Qy,hk]|true=>(have e:Qy (p::r) k=Qy r k+1:=by unfold Qy;rw[tT (p:=fun p:Tn=>Yy p.1 k) hk];simp);rw[e]at h⊢;have:=Pg r k (by simpa using h);simpa using this
theorem L2(l:FL)(k:List UInt8)(hr:Yt l)(j:Nat)(hj:j<l.length):Yy (l.getD j ([],[])).1 k=tN (j<Qy l k):=by
 by_cases h:j<Qy l k;·rw[decide_eq_true h];exact uG l k j h
 ·rw[decide_eq_false h];have a:=Pg l k (by omega);by_cases e:j=Qy l k;(·rw[e];exact a);·cases hk:Yy (l.getD j ([],[])).1 k with|false=>rfl|true=>have:=JW _ _ _ (qH l hr (Qy l k) j (by omega) hj) hk;rw[this]at a;cases a
theorem yD{l:FL}{k:List UInt8}(h:JP l k=tE):Qy l k<l.length∧(l.getD (Qy l k) ([],[])).1=k:=by
 simpa only[JP,decide_eq_true_eq]using h
theorem vZ(l:FL)(k:List UInt8):Qy l k<=QL l k∧QL l k<=l.length∧QL l k<=Qy l k+1:=by
 have:=uI l k;unfold QL;by_cases h:JP l k=tE;·rw[if_pos h];have:=(yD h).1;omega
 ·rw[if_neg h];omega
theorem Pt(l:FL)(k:List UInt8)(hr:Yt l)(j:Nat)(hj:j<l.length)(he:(l.getD j ([],[])).1=k):JP l k=tE∧j=Qy l k:=by
 have a:Qy l k=j:=by refine MI l k j (by omega) (fun i b=>?_) (fun _=>?_);(·rw[<-he];exact qH l hr i j b hj);·rw[he];exact XX k
 refine⟨?_,a.symm⟩;rw[JP,a];exact decide_eq_true ⟨hj,he⟩
theorem L3(l:FL)(k:List UInt8)(hr:Yt l):zP l k=if JP l k=tE then T (l.getD (Qy l k) ([],[])).2 else V:=by
 by_cases h:JP l k=tE;·rw[if_pos h];obtain⟨b,c⟩:=yD h;refine D9 l k _ b (fun j a e=>?_) c;have:=uG l k j a;rw[e,XX]at this;cases this
 ·rw[if_neg h];exact Tt l k fun j a e=>h (Pt l k hr j a e).1
theorem T7(l:FL)(p:Tn):Jg l p=l.take (Qy l p.1)++([p]++l.drop (QL l p.1)):=by
 rw[E7 l p (Qy l p.1) (uI l p.1) (fun j a=>uG l p.1 j a) (Pg l p.1)];by_cases h:Qy l p.1<l.length∧(l.getD (Qy l p.1) ([],[])).1=p.1;·rw[if_pos h,QL,if_pos (by rw[JP];exact decide_eq_true h),r8,if_pos h.1];rfl
 ·rw[if_neg h,QL,if_neg (by rw[JP];simpa using h)]
theorem AW(l:FL)(p:Tn):(Jg l p).length=Qy l p.1+1+(l.length-QL l p.1):=by
 rw[T7];have a:=uI l p.1;simp;omega
theorem Tk(l:FL)(p:Tn)(hl:l.length<=8):(8<(Jg l p).length)↔(Qy l p.1=QL l p.1∧l.length=8):=by
 rw[AW];have:=vZ l p.1;omega
theorem Bl(l:FL)(k:List UInt8)(hr:Yt l):jX l k=l.take (Qy l k)++l.drop (QL l k):=by
 by_cases h:JP l k=tE;·obtain⟨f,g⟩:=yD h;(have e:l=l.take (Qy l k)++(l.getD (Qy l k) ([],[])::l.drop (Qy l k+1)):=by(conv=>lhs;rw[<-tL (Qy l k) l,sI f]);simp[f]);have c:∀j,j<l.length->j≠Qy l k->(l.getD j ([],[])).1≠k:=fun j a n e=>n (Pt l k hr j a e).2;(have i:(l.take (Qy l k)).filter (fun q=>!(q.1==k))=l.take (Qy l k):=by rw[tU];intro q d;obtain⟨j,a,rfl⟩:=tC.1 d;(have b:j<Qy l k:=by simp at a;omega);rw[sJ,show l[j]'(by omega)=l.getD j ([],[])by simp[show j<l.length by omega]];simpa using c j (by omega) (by omega));(have m:(l.drop (Qy l k+1)).filter (fun q=>!(q.1==k))=l.drop (Qy l k+1):=by rw[tU];intro q d;obtain⟨j,a,rfl⟩:=tC.1 d;(have b:Qy l k+1+j<l.length:=by simp at a;omega);rw[sR,show l[Qy l k+1+j]=l.getD (Qy l k+1+j) ([],[])by simp[b]];simpa using c _ b (by omega));rw[QL,if_pos h,jX];(conv=>lhs;rw[e]);rw[sN,pK (by simpa using g),i,m]
 ·rw[QL,if_neg h,tL,jX,tU];intro q d;obtain⟨j,a,rfl⟩:=tC.1 d;have:=fun e=>h (Pt l k hr j a e).1;rw[show l.getD j ([],[])=l[j]by simp[a]]at this;simpa using this
theorem eC(l:FL)(k:List UInt8)(hr:Yt l):Y0 l k=if JP l k=tE then(l.getD (Qy l k) ([],[])).2 else[]:=by
 unfold Y0;rw[L3 l k hr];by_cases h:JP l k=tE;·rw[if_pos h,if_pos h];rfl
 ·rw[if_neg h,if_neg h];rfl
theorem Dc(l:FL)(k:List UInt8)(hr:Yt l):((l.take (QL l k)).drop (Qy l k)=[]∧Y0 l k=[]∧QL l k=Qy l k)∨(∃t,(l.take (QL l k)).drop (Qy l k)=[t]∧Y0 l k=t.2∧QL l k=Qy l k+1):=by
 rw[eC l k hr];by_cases h:JP l k=tE;·right;obtain⟨a,b⟩:=yD h;refine⟨l.getD (Qy l k) ([],[]),?_,by rw[if_pos h],by rw[QL,if_pos h]⟩;rw[QL,if_pos h,List.take_succ_eq_append_getElem a,pE (by simp;omega),sA (by simp;omega),pF];simp[a]
 ·left;refine⟨?_,by rw[if_neg h],by rw[QL,if_neg h]⟩;rw[QL,if_neg h,sA (by simp;omega)]
def aT:Prop:=∀(w:tA)(a:Option pI)(n cap:Nat),pA tH 27 #[tP a n cap] w fun e w'=>e=sV (tR rF (Qt n))∧tB w w' V
def S9:Prop:=∀(w:tA)(v:tD)(r:Rq),KV w->KZ w v r->xT r->pA tH 19 #[v] w fun e w'=>e=sV (tR rF (Yj r))∧tB w w' V
end Go.Proofs.YtpdbpagohccbpaaGreatDoor
