/-
  Texts of this proof, joined, with few blanks: Base, LineF, SlM, PartM, Keys, PlaceM, Trees, TreeF, FitsF, ForestF, RdF, WrM0, TapeF, TapeG, KTree, KPure, ForestK, ForestE, WireF, WireG, LineG, RqMem, RqBox, RqEn, RdM0, ProofM, Sides, ForkF, Bits, Lanes, Cols, Move, Round, IdxF, EqB, ApplyOne, CheckC, CheckP, PosF, FPosF, FCName, RqCk.
-/
import Derived.WalkKit
import Derived.WalkSpells
import Derived.WalkLawsBesides
import Derived.BigRegion
import Derived.Deep.QuietTactic
import Derived.BigQuiet
import Derived.Deep.RegionHeld3
import Derived.Deep.DeepCutAuto
import Derived.Lib.Strings
import Derived.Test.YtjnapechlkbfmaaGreatDoorChecked
set_option maxRecDepth 100000
set_option maxHeartbeats 8000000
open Array renaming getElem?_eq_some_iff->tL,getElem?_modify->tQ,ext->oI
open BitVec renaming ofInt->sB,ofInt_natCast->pL
open Bool renaming true->N,false->tA,or_eq_false_iff->rP,and_eq_true->pX,or_eq_true->oC
open Classical renaming byContradiction->sN
open Decidable renaming decide->tI
open Go renaming World->I,Value->O,TypeId->sX,heap_alloc_new->rJ,Calls->rX,Addr->pE,maxLen->oK,info_parts->oL
open Go.Ending renaming returned->sQ
open Go.IntKind renaming i64->sZ,u64->rF,u8->rG,wrap_u64->rV
open Go.Obj renaming cells->tJ
open Go.Op renaming bytesLess->sH
open Go.Proofs.Tryz renaming prog->tB,underlying24->sL,ntmps68->pF,func68->pP
open Go.Value renaming slice->tH,int->tK,agg->pN,bool->pO,tuple->pV,ownBlock->pZ
open Go.Value.slice renaming injEq->rC
open Go.World renaming grownBy->J,setCell->tG,cell?->tZ,frozen?->sW,grownBy_alloc->rS
open Int renaming toNat_natCast->rI,le_refl->oJ
open List renaming mem_iff_getElem->L,length_append->T,eq_nil_of_length_eq_zero->V,append_assoc->tC,take_append_drop->tE,takeWhile_cons_of_pos->tM,filter_eq_self->tN,mem_cons->tS,append_nil->tV,drop_eq_nil_of_le->tW,getD_cons_zero->tX,mem_cons_of_mem->tY,drop_eq_getElem_cons->sD,getElem_take->sE,getElem_mem->sF,take_succ_cons->sG,filter_append->sI,filter_eq_nil_iff->sJ,getElem_drop->sM,pairwise_cons->sP,pairwise_singleton->sR,getElem?_map->sU,length_filter_le->sY,flatMap_cons->rH,getElem?_eq_getElem->rK,filter_cons_of_neg->rM,take_left'->rN,drop_left'->rO,any_cons->rT,mem_cons_self->rU,set_eq_take_append_cons_drop->rW,length_cons->rY,mem_filter->r7,take_append_of_le_length->r8,drop_append_of_le_length->pA,nil_append->pB,getElem?_eq_some_iff->pC,pairwise_iff_getElem->pD,take_of_length_le->pG,find?_cons_of_pos->pI,find?_cons_of_neg->pJ,drop_succ_cons->pR,takeWhile_cons->pT,getElem?_take->pU,length_drop->pY,map_cons->oE,take_nil->oF
open List.Pairwise renaming cons->tU,filter->sS,nil->rA
open Nat renaming lt_of_lt_of_le->tR,le_refl->sA,testBit_lt_two_pow->sV,pow_le_pow_right->rB,le_trans->rD,testBit_div_two_pow->pH,div_div_eq_div_mul->pM,eq_of_testBit_eq->pQ,min_eq_left->oD,sub_self->oG,mul_one->oH
open Option renaming some->F,none->H,map_some->sO
open Option.some renaming injEq->tP,inj->pK
open Prod.mk renaming injEq->sC
open UInt8 renaming ofNat->tD,lt_iff_toNat_lt->sK,toNat_ofNat'->pS,toNat_inj->pW
namespace Go.Proofs.YtjnapechlkbfmaaGreatDoor
open Go.RowKit
section
theorem Qb(w:I)(r:Option Nat):J w w r:=⟨rfl,rfl,rfl,sA _,fun _ _ _=>rfl⟩
theorem Qa{w w1 w2:I}{r:Option Nat}(h:J w w1 r)(k:J w1 w2 r):J w w2 r:=⟨k.os.trans h.os,k.tape.trans h.tape,k.output.trans h.output,rD h.size k.size,fun i hi hn=>(k.block i (tR hi h.size) hn).trans (h.block i hi hn)⟩
theorem Qk{w w1:I}{r:Option Nat}(h:J w w1 r):J w w1.drew r:=⟨h.os,h.tape,h.output,h.size,h.block⟩
theorem Qn{w w1:I}{r:Option Nat}(h:J w w1 r)(n:Nat):J w (w1.drewN n) r:=⟨h.os,h.tape,h.output,h.size,h.block⟩
theorem Qg{w w1:I}{b:Nat}(h:J w w1 (F b))(i:Nat)(v:O):J w (tG w1 ⟨b,i,H⟩ v) (F b):=Qa h ⟨rfl,rfl,rfl,by
 simp[tG],fun k _ hn=>Below.heap_setCell _ _ _ _ (by
 intro e;exact hn (by rw[e]))⟩
theorem Qw{w w1:I}{r:Option Nat}(h:J w w1 r)(o:Obj):J w (w1.alloc o) r:=Qa h (rS _ _ _)
theorem Jx{w w1 w2:I}{r:Option Nat}{c:Nat}(h:J w w1 r)(hc:w.heap.size<=c)(k:J w1 w2 (F c)):J w w2 r:=⟨k.os.trans h.os,k.tape.trans h.tape,k.output.trans h.output,rD h.size k.size,fun i hi hn=>(k.block i (tR hi h.size) (by
 simp;omega)).trans (h.block i hi hn)⟩
theorem Qc{w w1:I}{r:Option Nat}(h:J w w1 r)(c:Nat)(hc:w.heap.size<=c)(i:Nat)(v:O):J w (tG w1 ⟨c,i,H⟩ v) r:=Jx h hc (Qg (Qb _ _) i v)
theorem Xa(b o n:Nat):(⟨b,o,H⟩:pE).add n=⟨b,o+n,H⟩:=by
 unfold Addr.add;split;·simp_all
 ·rfl
theorem cH(w:I):(sizeOf (tB.elem 24)).run tB w=.ok 1 w:=by
 kernel_rfl
theorem cX(W:I)(pb o len cap:Nat)(l:Int)(n:Nat)(hn:l=(n:Int))(h1:n<=len)(hc:n<cap):(Instr.slice 24 (tH (F ⟨pb,o,H⟩) len cap) (F (tK sZ l)) H H).run tB W=.ok (tH (F ⟨pb,o+n,H⟩) (len-n) (cap-n)) W:=by
 subst hn;rw[run_slice_l _ _ _ _ _ (by kernel_rfl) _ _ (by omega) (by omega),cH];simp only[Result.andThen,sliced,rI,sO,oH,Xa];rw[if_neg (by omega)]
theorem Li(W:I)(pb o len cap:Nat)(l:Int)(n:Nat)(hn:l=(n:Int))(hc:n<=cap)(h0:0<cap):(Instr.slice 24 (tH (F ⟨pb,o,H⟩) len cap) H (F (tK sZ l)) H).run tB W=.ok (tH (F ⟨pb,o,H⟩) n cap) W:=by
 subst hn;rw[run_slice_h _ _ _ _ _ (by kernel_rfl) _ _ (by omega) (by omega),cH];simp only[Result.andThen,sliced,rI,sO,oH,Xa];rw[if_neg (by omega)];simp
def KA(w:I)(pb o:Nat)(bs:List UInt8):Prop:=∀i,i<bs.length->w.cell? ⟨pb,o+i,H⟩=F (tK rG ((bs.getD i 0).toNat:Int))
theorem KA.drew{w:I}{pb o:Nat}{bs:List UInt8}(h:KA w pb o bs):KA w.drew pb o bs:=h
theorem KA.grown{w w':I}{pb o:Nat}{bs:List UInt8}{r:Option Nat}(h:KA w pb o bs)(hg:J w w' r)(hr:F pb≠r):KA w' pb o bs:=fun i hi=>hg.cell (h i hi) hr
def Z5(bs:List UInt8):Array O:=(bs.map fun c=>tK rG (c.toNat:Int)).toArray
def ZN(w:I)(b:Nat)(bs:List UInt8):Prop:=∃t,w.heap[b]?=F (tJ (Z5 bs) t (0,0))
section
variable{w:I}{b:Nat}{bs:List UInt8}
theorem ZN.cell(h:ZN w b bs)(i:Nat)(hi:i<bs.length):w.cell? ⟨b,i,H⟩=F (tK rG ((bs.getD i 0).toNat:Int)):=by
 obtain⟨t,hb⟩:=h;simp[tZ,hb,Z5,sU,rK hi]
theorem ZN.frozen(h:ZN w b bs)(i:Nat):w.frozen? ⟨b,i,H⟩=tA:=by
 obtain⟨t,hb⟩:=h;simp[sW,hb]
theorem ZN.lt(h:ZN w b bs):b<w.heap.size:=by
 obtain⟨t,hb⟩:=h;exact(tL.1 hb).1
theorem Bw(bs:List UInt8)(i:Nat)(x:UInt8):(Z5 bs).setIfInBounds i (tK rG (x.toNat:Int))=Z5 (bs.set i x):=by
 simp[Z5]
theorem ZN.set(h:ZN w b bs)(i:Nat)(x:UInt8):ZN (tG w ⟨b,i,H⟩ (tK rG (x.toNat:Int))) b (bs.set i x):=by
 obtain⟨t,hb⟩:=h;refine⟨t,?_⟩;simp only[tG,tQ,if_true,hb,sO];simp[Bw]
theorem ZN.drewN(h:ZN w b bs)(k:Nat):ZN (w.drewN k) b bs:=h
theorem ZN.drew(h:ZN w b bs):ZN w.drew b bs:=h
theorem ZN.alloc(h:ZN w b bs)(o:Obj):ZN (w.alloc o) b bs:=by
 have hl:=h.lt;obtain⟨t,hb⟩:=h;exact⟨t,by rw[Below.heap_alloc _ _ _ hl];exact hb⟩
theorem ZN.grown(h:ZN w b bs){w':I}{r:Option Nat}(hg:J w w' r)(hr:F b≠r):ZN w' b bs:=by
 have hl:=h.lt;obtain⟨t,hb⟩:=h;exact⟨t,by rw[hg.block b hl hr];exact hb⟩
theorem ZN.new(w:I)(t:sX)(bs:List UInt8):ZN (w.alloc (tJ (Z5 bs) t)) w.heap.size bs:=⟨t,rJ w _⟩
theorem ZN.at(h:ZN w b bs)(o:Nat)(cs:List UInt8)(hc:∀i,i<cs.length->o+i<bs.length∧bs.getD (o+i) 0=cs.getD i 0):KA w b o cs:=by
 intro i hi;rw[h.cell (o+i) (hc i hi).1,(hc i hi).2]
end
def Qe(w:I)(v:O)(bs:List UInt8):Prop:=∃a cap,v=tH a bs.length cap∧bs.length<=cap∧((bs=[]∧(a=H->cap=0))∨∃b o,a=F ⟨b,o,H⟩∧KA w b o bs)
theorem Qe.grown{w w':I}{v:O}{bs:List UInt8}(h:Qe w v bs)(hg:J w w' H):Qe w' v bs:=by
 obtain⟨a,cap,rfl,hc,h⟩:=h;refine⟨a,cap,rfl,hc,?_⟩;rcases h with h|⟨b,o,rfl,h⟩;·exact .inl h
 ·exact .inr ⟨b,o,rfl,h.grown hg (by simp)⟩
theorem Qe.alloc{w:I}{v:O}{bs:List UInt8}(h:Qe w v bs)(o:Obj):Qe (w.alloc o) v bs:=h.grown (rS _ _ _)
theorem Qe.drew{w:I}{v:O}{bs:List UInt8}(h:Qe w v bs):Qe w.drew v bs:=h
theorem Qe.drewN{w:I}{v:O}{bs:List UInt8}(h:Qe w v bs)(n:Nat):Qe (w.drewN n) v bs:=h
theorem ZN.slice{w:I}{b:Nat}{bs:List UInt8}(h:ZN w b bs)(cap:Nat)(hc:bs.length<=cap):Qe w (tH (F ⟨b,0,H⟩) bs.length cap) bs:=⟨_,cap,rfl,hc,.inr ⟨b,0,rfl,h.at 0 bs fun i hi=>by
 simpa using hi⟩⟩
theorem QK(w:I):Qe w (tH H 0 0) []:=⟨H,0,rfl,sA _,.inl ⟨rfl,fun _=>rfl⟩⟩
def Ub(n:Nat):List UInt8:=List.replicate n 0
theorem Ng(n:Nat):(Ub n).length=n:=by
 simp[Ub]
theorem Sq(n:Nat):madeCells (tK rG 0).cells (n*1)=Z5 (Ub n):=by
 apply oI;·simp[size_madeCells,Z5,Ub]
 ·intro i h1 h2;simp[madeCells,Z5,Ub,Value.cells,Nat.mod_one]
theorem gP:(tB.info? 5).map (fun i=>(i.zero,i.size,i.bytes))=F (F (tK rG 0),1,1):=by
 kernel_rfl
theorem gL:(tB.info? 5).map (·.size)=F 1:=by
 kernel_rfl
theorem Si(W:I)(c:Int)(n:Nat)(hc:c=(n:Int))(hn:n<=1000000):(Instr.makeSlice 24 (tK sZ c) (tK sZ c)).run tB W=.ok (tH (F ⟨W.heap.size,0,H⟩) n n) (W.alloc (tJ (Z5 (Ub n)) 5)):=by
 subst hc;obtain⟨i0,hi,hz0,hz1,hz2⟩:=oL gP;have h:=run_make (P:=tB) W 24 5 i0 (tK rG 0) sL hi hz0 sZ sZ (n:Int) (n:Int) (by omega) (oJ _) (by rw[hz2];omega) (by omega);rw[h,hz1,rI,Sq]
theorem jR(bs:List UInt8):∀v∈(bs.map fun c=>tK rG (c.toNat:Int)),v.oneCell'=N:=by
 intro v hv;obtain⟨c,_,rfl⟩:=List.mem_map.1 hv;rfl
theorem Mm(w:I)(X Y:Array O)(t:sX):(w.alloc (tJ X t)).setRow w.heap.size Y=w.alloc (tJ Y t):=by
 simp only[World.setRow,World.alloc];congr 1;apply oI;·simp
 ·intro i h1 h2;simp only[Array.getElem_modify,Array.getElem_push];(have hi:i<w.heap.size+1:=by simpa using h2);split<;>split<;>first|rfl|omega|(exfalso;omega)|simp_all
theorem SX(w:I)(a:Option pE)(bs:List UInt8)(cap n m ty:Nat)(hn:bs.length<=n)(hs:Qe w (tH a bs.length cap) bs):(Builtin.copy_ #[24,24] ty #[tH (F ⟨w.heap.size,0,H⟩) n m,tH a bs.length cap]).run tB (w.alloc (tJ (Z5 (Ub n)) 5))=.ok (tK sZ (bs.length:Int)) (w.alloc (tJ (Z5 (bs++Ub (n-bs.length))) 5)):=by
 obtain⟨a',cap',e,hc,h⟩:=hs.alloc (tJ (Z5 (Ub n)) 5);simp only[rC,true_and]at e;obtain⟨rfl,rfl⟩:=e;by_cases h0:bs=[];·subst h0;have:=run_copy_none (P:=tB) (w.alloc (tJ (Z5 (Ub n)) 5)) 24 24 ty 5 (F ⟨w.heap.size,0,H⟩) a n m 0 cap sL gL (by simp);simpa[goInt]using this
 ·rcases h with h|⟨b,o,rfl,h⟩;(·exact absurd h.1 h0);·have:=run_copy_row (P:=tB) (w.alloc (tJ (Z5 (Ub n)) 5)) 24 24 ty 5 w.heap.size 0 n m ⟨b,o,H⟩ bs.length cap (Z5 (Ub n)) 5 (bs.map fun c=>tK rG (c.toNat:Int)) sL gL (rJ w _) (by simp only[List.length_map];exact(oD hn).symm) (by intro j v hj;rw[sU]at hj;cases hb:bs[j]?with|none=>rw[hb]at hj;simp at hj|some c=>rw[hb]at hj;simp at hj;subst hj;rw[Xa];have hlt:j<bs.length:=(pC.1 hb).1;rw[h j hlt];simp[hb]) (by simp[Z5,Ub];exact hn) (jR bs);rw[this,Mm];simp[goInt,Z5,Ub]
def VE(bs:List UInt8):List O:=bs.map fun c=>tK rG (c.toNat:Int)
theorem bA(bs:List UInt8):(VE bs).length=bs.length:=by
 simp[VE]
theorem Dv(a b:List UInt8):VE (a++b)=VE a++VE b:=by
 simp[VE]
theorem Bn(bs:List UInt8)(j:Nat)(u:O)(h:(VE bs)[j]?=F u):j<bs.length∧u=tK rG ((bs.getD j 0).toNat:Int):=by
 rw[VE,sU]at h;cases hb:bs[j]?with|none=>rw[hb]at h;simp at h|some c=>rw[hb]at h;simp at h;exact⟨(pC.1 hb).1,by simp[hb,<-h]⟩
def Za(base:Nat)(w:I)(v:O)(bs:List UInt8):Prop:=w.ownsRow base 5 1 v bs.length (VE bs)
theorem QU(base:Nat)(w:I):Za base w (tH H 0 0) []:=World.ownsRow_nil _ _ _ _
theorem Za.grown{base:Nat}{w w':I}{v:O}{bs:List UInt8}(h:Za base w v bs){row:Option Nat}(hg:J w w' row)(hne:v.ownBlock=H∨v.ownBlock≠row):Za base w' v bs:=World.ownsRow.kept h hg hne
theorem Za.grownNone{base:Nat}{w w':I}{v:O}{bs:List UInt8}(h:Za base w v bs)(hg:J w w' H):Za base w' v bs:=by
 refine h.grown hg ?_;cases hv:v.ownBlock with|none=>exact .inl rfl|some k=>exact .inr (by simp)
theorem Za.alloc{base:Nat}{w:I}{v:O}{bs:List UInt8}(h:Za base w v bs)(o:Obj):Za base (w.alloc o) v bs:=World.ownsRow.alloc h o
theorem Za.slice{base:Nat}{w:I}{v:O}{bs:List UInt8}(h:Za base w v bs):Qe w v bs:=by
 obtain⟨h1,h2⟩:=h;rcases h2 with⟨rfl,h0⟩|⟨g,cap,cur,rfl,hb,hg,hn,hm,hs,ht⟩;·obtain rfl:=V h0;exact QK w
 ·refine⟨_,cap,rfl,hn,.inr ⟨g,0,rfl,?_⟩⟩;intro i hi;(have hc:cur.toList[i]?=F (tK rG ((bs.getD i 0).toNat:Int)):=by(have e:(cur.toList.take (bs.length*1))[i]?=(VE bs)[i]?:=by rw[ht]);rw[pU,if_pos (by omega)]at e;rw[e,VE,sU,rK hi];simp[hi]);simp[tZ,hg];simpa using hc
theorem Za.lt{base:Nat}{w:I}{v:O}{bs:List UInt8}(h:Za base w v bs):∀k,v.ownBlock=F k->base<=k∧k<w.heap.size:=World.ownsRow.lt h
theorem Za.shape{base:Nat}{w:I}{v:O}{bs:List UInt8}(h:Za base w v bs):∃a cap,v=tH a bs.length cap:=by
 obtain⟨a,cap,e,_⟩:=h.slice;exact⟨a,cap,e⟩
theorem F2(base:Nat)(w:I)(bs:List UInt8)(hb:base<=w.heap.size)(hm:bs.length<=oK):Za base (w.alloc (tJ (Z5 bs) 5)) (tH (F ⟨w.heap.size,0,H⟩) bs.length bs.length) bs:=⟨by
 simp[VE],.inr ⟨w.heap.size,bs.length,Z5 bs,rfl,hb,rJ w _,sA _,hm,by
 simp[Z5],by
 simp[Z5,VE,pG]⟩⟩
theorem Xn{w W w1:I}{v:O}{bs:List UInt8}(h:J w W H)(ho:Za w.heap.size W v bs)(hg:J W w1 v.ownBlock):J w w1 H:=⟨hg.os.trans h.os,hg.tape.trans h.tape,hg.output.trans h.output,rD h.size hg.size,fun i hi hn=>(hg.block i (tR hi h.size) (fun e=>by
 have:=(ho.lt i e.symm).1;omega)).trans (h.block i hi hn)⟩
theorem Mw(w:I)(base ty:Nat)(v:O)(bs:List UInt8)(hown:Za base w v bs)(a:Option pE)(m cap:Nat)(cs:List UInt8)(hs:Qe w (tH a m cap) cs)(hbytes:bs.length+m<=140737488355328)(hbase:base<=w.heap.size):∃v' w',(Builtin.append_ #[24,24] ty #[v,tH a m cap]).run tB w=.ok v' w'∧Za base w' v' (bs++cs)∧J w w' v.ownBlock:=by
 obtain⟨i0,hi,hz0,hz1,hz2⟩:=oL gP;obtain⟨a',cap',e,hc,h⟩:=hs;simp only[rC]at e;obtain⟨rfl,rfl,rfl⟩:=e;have h63:bs.length+cs.length<=oK:=by unfold oK;omega
 have key:∀ad:pE,(∀j u,(VE cs)[j]?=F u->w.cell? (ad.add j)=F u)->∃v' w',(Builtin.append_ #[24,24] ty #[v,tH (F ad) cs.length cap]).run tB w=.ok v' w'∧Za base w' v' (bs++cs)∧J w w' v.ownBlock:=by intro ad hnews;obtain⟨v',w',hr,ho,hg,_⟩:=run_append_own (P:=tB) w base 24 ty 5 i0 (tK rG 0) 1 1 sL hi hz0 hz1 hz2 rfl (by decide) v bs.length (VE bs) hown ad cs.length cap (VE cs) (by simp[VE]) hnews (jR cs) h63 (by omega) hbase;refine⟨v',w',hr,?_,hg⟩;unfold Za;rw[Dv,T];exact ho
 rcases h with⟨rfl,hz⟩|⟨b,o,rfl,h⟩;·cases a with|none=>obtain rfl:=hz rfl;refine⟨v,w,run_append_owned_none (P:=tB) (w:=w) base 24 ty 5 i0 1 sL hi v bs.length (VE bs) hown,?_,Qb _ _⟩;rw[tV];exact hown|some ad=>exact key ad (by simp[VE])
 ·refine key ⟨b,o,H⟩ fun j u hj=>?_;obtain⟨hlt,rfl⟩:=Bn cs j u hj;rw[Xa];exact h j hlt
theorem QL{w:I}{ops:Array Oper}{rest:List Oper}{o:Oper}{a:Act}{Q:Exit->Act->I->Prop}(hgd:o.guard=H)(s x:Operand)(ho:o.op=.call {callee:=.builtin .append,args:=#[s,x],argTypes:=#[24,24]})(base:Nat)(v:O)(bs:List UInt8)(hs:a.eval s=v)(hown:Za base w v bs)(xa:Option pE)(m cap:Nat)(cs:List UInt8)(hx:a.eval x=tH xa m cap)(hsl:Qe w (tH xa m cap) cs)(hbytes:bs.length+m<=140737488355328)(hbase:base<=w.heap.size)(h:∀v' w',Za base w' v' (bs++cs)->J w w' v.ownBlock->wpList tB ops Q rest (a.put o.dst v') w'):wpList tB ops Q (o::rest) a w:=by
 refine wpList_plain hgd fun K hK=>?_;obtain⟨v',w',hrun,ho',hg⟩:=Mw w base o.type v bs hown xa m cap cs hsl hbytes hbase;unfold Oper.wp;simp[execOp,ho,resolve,invoke,builtin,hs,hx,hrun,Result.andThen];exact hK _ _ (h v' w' ho' hg)
theorem Qe.take{w:I}{a:Option pE}{m cap:Nat}{bs:List UInt8}(h:Qe w (tH a m cap) bs)(k:Nat)(hk:k<=m):Qe w (tH a k cap) (bs.take k):=by
 obtain⟨a',cap',e,hc,h⟩:=h;simp only[rC]at e;obtain⟨rfl,rfl,rfl⟩:=e;have hl:(bs.take k).length=k:=by simp;omega
 refine⟨a,cap,by rw[hl],by omega,?_⟩;rcases h with⟨rfl,hz⟩|⟨b,o,rfl,h⟩;·exact .inl ⟨by simp,hz⟩
 ·refine .inr ⟨b,o,rfl,fun i hi=>?_⟩;rw[h i (by omega)];rw[hl]at hi;simp[hi]
theorem Ww(bs:List UInt8)(s:ByteArray):((bs.map fun c=>((c.toNat:Nat):Int)).foldl (fun r n=>r.push (tD n.toNat)) s)=⟨s.data++bs.toArray⟩:=by
 induction bs generalizing s with|nil=>simp|cons c bs ih=>simp only[oE,List.foldl_cons];rw[ih];congr 1;simp[ByteArray.push]
def qO(bs:List UInt8):ByteArray:=⟨bs.toArray⟩
theorem V8(bs:List UInt8):(qO bs).toList=bs:=by
 rw[Lib.toList_data];rfl
theorem qG(W:I)(v:O)(bs:List UInt8)(hs:Qe W v bs):(convert 24 9 v).run tB W=.ok (.string (qO bs)) W:=by
 obtain⟨a,cap,rfl,hc,h⟩:=hs;rw[run_convert_bytes_string W 24 9 5 a bs.length cap sL Tryz.underlying5 Tryz.underlying9];have key:∀ad:pE,(∀j u,(VE bs)[j]?=F u->W.cell? (ad.add j)=F u)->(Conv.bytesToString (tH (F ad) bs.length cap)).run tB W=.ok (.string (qO bs)) W:=by intro ad hcells;have hl:=run_loadCells_list (P:=tB) W ad (VE bs) hcells;rw[bA]at hl;have:=run_bytesToString (P:=tB) W ad bs.length cap (bs.map fun c=>((c.toNat:Nat):Int)) (by rw[hl];simp[VE]);rw[this,Ww];simp[qO]
 rcases h with⟨rfl,hz⟩|⟨b,o,rfl,h⟩;·cases a with|none=>simp[Conv.bytesToString,qO];rfl|some ad=>exact key ad (by simp[VE])
 ·refine key ⟨b,o,H⟩ fun j u hj=>?_;obtain⟨hlt,rfl⟩:=Bn bs j u hj;rw[Xa];exact h j hlt
theorem ZN.slice32{w:I}{b:Nat}{bs:List UInt8}(h:ZN w b bs)(hl:bs.length=32):Qe w (tH (F ⟨b,0,H⟩) 32 32) bs:=by
 have:=h.slice 32 (by omega);rw[hl]at this;exact this
theorem UE(w:I)(x:UInt8)(t:sX):Qe (w.alloc (tJ #[tK rG (x.toNat:Int)] t)) (tH (F ⟨w.heap.size,0,H⟩) 1 1) [x]:=(ZN.new w t [x]).slice 1 (by
 simp)
theorem Nz(w:I)(x y:UInt8)(t:sX):Qe (w.alloc (tJ #[tK rG (x.toNat:Int),tK rG (y.toNat:Int)] t)) (tH (F ⟨w.heap.size,0,H⟩) 2 2) [x,y]:=(ZN.new w t [x,y]).slice 2 (by
 simp)
theorem Ko{base base':Nat}{w:I}{v:O}{bs:List UInt8}(h:Za base w v bs)(hb:base'<=base):Za base' w v bs:=by
 refine⟨h.1,?_⟩;rcases h.2with h2|⟨g,cap,cur,h1,h2,h3⟩;·exact .inl h2
 ·exact .inr ⟨g,cap,cur,h1,rD hb h2,h3⟩
end
structure Ac where
  kind : Int
  sess : Int
  keep : Int
  data : List UInt8
def UF:Ac:=⟨0,0,0,[]⟩
def YY(a:Ac):Int:=if 1<=a.kind∧a.kind<=4then(if(a.kind=1∧¬(0<=a.sess∧a.sess<=7))∨(a.kind=3∧¬(0<=a.keep∧a.keep<=200000))then 2 else if 4000<a.data.length then 1 else if(a.kind≠1∧a.sess≠0)∨(a.kind≠3∧a.keep≠0)∨(a.kind≠1∧0<a.data.length)then 4 else 0)else 5
structure JG(a:Ac):Prop where kind:1<=a.kind∧a.kind<=4sess:a.kind=1->0<=a.sess∧a.sess<=7keep:a.kind=3->0<=a.keep∧a.keep<=200000data:a.data.length<=4000noSess:a.kind≠1->a.sess=0noKeep:a.kind≠3->a.keep=0noData:a.kind≠1->a.data=[]
theorem kW(a:Ac):YY a=0↔JG a:=by
 unfold YY;by_cases h0:1<=a.kind∧a.kind<=4;·rw[if_pos h0];by_cases h1:(a.kind=1∧¬(0<=a.sess∧a.sess<=7))∨(a.kind=3∧¬(0<=a.keep∧a.keep<=200000));(·rw[if_pos h1];refine⟨fun e=>(by cases e),fun h=>?_⟩;rcases h1 with⟨h1,h2⟩|⟨h1,h2⟩;(·exact absurd (h.sess h1) h2);·exact absurd (h.keep h1) h2);·rw[if_neg h1];by_cases h2:4000<a.data.length;(·rw[if_pos h2];exact⟨fun e=>(by cases e),fun h=>by have:=h.data;omega⟩);·rw[if_neg h2];by_cases h3:(a.kind≠1∧a.sess≠0)∨(a.kind≠3∧a.keep≠0)∨(a.kind≠1∧0<a.data.length);(·rw[if_pos h3];refine⟨fun e=>(by cases e),fun h=>?_⟩;rcases h3 with⟨h3,h4⟩|⟨h3,h4⟩|⟨h3,h4⟩;(·exact absurd (h.noSess h3) h4);(·exact absurd (h.noKeep h3) h4);·rw[h.noData h3]at h4;simp at h4);·rw[if_neg h3];refine⟨fun _=>⟨h0,fun h=>?_,fun h=>?_,by omega,fun h=>?_,fun h=>?_,fun h=>?_⟩,fun _=>rfl⟩;(·exact sN fun e=>h1 (.inl ⟨h,e⟩));(·exact sN fun e=>h1 (.inr ⟨h,e⟩));(·exact sN fun e=>h3 (.inl ⟨h,e⟩));(·exact sN fun e=>h3 (.inr (.inl ⟨h,e⟩)));·refine V ?_;have:¬0<a.data.length:=fun e=>h3 (.inr (.inr ⟨h,e⟩));omega
 ·rw[if_neg h0];exact⟨fun e=>(by cases e),fun h=>absurd h.kind h0⟩
def lR(n:Nat):UInt8:=tD (48+n)
def iC(n:Nat):List UInt8:=if n<10then[lR n]else iC (n/10)++[lR (n%10)]termination_by n decreasing_by
 omega
def lM(n:Nat):UInt8:=if n<10then tD (48+n)else tD (87+n)
def mA(bs:List UInt8):List UInt8:=bs.flatMap fun c=>[lM (c.toNat/16),lM (c.toNat%16)]
def mB:List UInt8:=[97,115,107]
def i8:List UInt8:=[115,121,110,99]
def iK:List UInt8:=[99,114,97,115,104]
def gX:List UInt8:=[115,116,97,114,116]
def lY(a:Ac):List UInt8:=if a.kind=1then mB++32::(iC a.sess.toNat++32::mA a.data)else if a.kind=2then i8 else if a.kind=3then iK++32::iC a.keep.toNat else if a.kind=4then gX else[]
theorem Zz(w:I)(o:Obj):∃W:I,Hid (W=w.alloc o)∧J w W H∧Hid (W.heap[w.heap.size]?=F o):=⟨w.alloc o,rfl,rS _ _ _,rJ w o⟩
theorem Qe.shape{w:I}{v:O}{bs:List UInt8}(h:Qe w v bs):∃a cap,v=tH a bs.length cap:=by
 obtain⟨a,cap,rfl,_⟩:=h;exact⟨a,cap,rfl⟩
theorem QS{W w:I}{b:Nat}{x y:O}{t:sX}(hg:J W w H)(h:W.heap[b]?=F (tJ #[x,y] t)):w.cell? ⟨b,0,H⟩=F x∧w.cell? ⟨b,1,H⟩=F y∧w.frozen? ⟨b,0,H⟩=tA∧w.frozen? ⟨b,1,H⟩=tA:=by
 have hb:w.heap[b]?=F (tJ #[x,y] t):=by rw[hg.block b (tL.1 h).1 (by simp)];exact h
 refine⟨by simp[tZ,hb],by simp[tZ,hb],by simp[sW,hb],by simp[sW,hb]⟩
theorem zU{W w:I}{b:Nat}{x y:O}{t:sX}(hg:J W w H)(h:W.heap[b]?=F (tJ #[x,y] t)){G:Prop}(k:w.heap[b]?=F (tJ #[x,y] t)->w.cell? ⟨b,0,H⟩=F x->w.cell? ⟨b,1,H⟩=F y->w.frozen? ⟨b,0,H⟩=tA->w.frozen? ⟨b,1,H⟩=tA->G):G:=by
 obtain⟨h1,h2,h3,h4⟩:=QS hg h;exact k (by rw[hg.block b (tL.1 h).1 (by simp)];exact h) h1 h2 h3 h4
theorem Qd{W w:I}{b:Nat}{o:Obj}(hg:J W w H)(h:W.heap[b]?=F o):w.heap[b]?=F o:=by
 rw[hg.block b (tL.1 h).1 (by simp)];exact h
def Qh(base:Nat)(w:I)(v:O)(bs:List UInt8):Prop:=Qe w v bs∧(bs=[]∨∃b,v.ownBlock=F b∧b<w.heap.size∧(b<base∨∃cur fz,w.heap[b]?=F (tJ cur 5 fz)))
theorem Qh.slice{base:Nat}{w:I}{v:O}{bs:List UInt8}(h:Qh base w v bs):Qe w v bs:=h.1
theorem Za.part{base base':Nat}{w:I}{v:O}{bs:List UInt8}(h:Za base' w v bs):Qh base w v bs:=by
 refine⟨h.slice,?_⟩;rcases h.2with⟨rfl,h0⟩|⟨g,cap,cur,rfl,hb,hg,_⟩;·exact .inl (V h0)
 ·exact .inr ⟨g,rfl,(tL.1 hg).1,.inr ⟨cur,_,hg⟩⟩
theorem Vy{w:I}{b o:Nat}{v:O}(h:w.cell? ⟨b,o,H⟩=F v):b<w.heap.size:=by
 by_cases hb:b<w.heap.size;·exact hb
 ·simp[tZ,Array.getElem?_eq_none (Nat.le_of_not_lt hb)]at h
theorem Qe.part{w w':I}{v:O}{bs:List UInt8}(h:Qe w v bs)(hg:J w w' H)(base:Nat)(hb:w.heap.size<=base):Qh base w' v bs:=by
 refine⟨h.grown hg,?_⟩;obtain⟨a,cap,rfl,hc,h⟩:=h;rcases h with⟨rfl,_⟩|⟨b,o,rfl,h⟩;·exact .inl rfl
 ·by_cases h0:bs=[];(·exact .inl h0);·have hl:0<bs.length:=List.length_pos_iff.2 h0;have:=Vy (h 0 hl);exact .inr ⟨b,rfl,tR this hg.size,.inl (by omega)⟩
theorem Qh.mono{base base':Nat}{w:I}{v:O}{bs:List UInt8}(h:Qh base w v bs)(hb:base<=base'):Qh base' w v bs:=by
 refine⟨h.1,?_⟩;rcases h.2with h|⟨b,h1,h2,h3⟩;·exact .inl h
 ·refine .inr ⟨b,h1,h2,?_⟩;rcases h3 with h3|h3;(·exact .inl (by omega));·exact .inr h3
theorem ZM{base:Nat}{w:I}{v:O}{bs:List UInt8}(h:Qh base w v bs):v.oneCell'=N:=by
 obtain⟨⟨a,cap,rfl,_⟩,_⟩:=h;rfl
theorem Qh.keptT{base:Nat}{w w':I}{v:O}{bs:List UInt8}(h:Qh base w v bs){row:Option Nat}(hg:J w w' row)(hrow:row=H∨∃g cur t fz,row=F g∧base<=g∧w.heap[g]?=F (tJ cur t fz)∧t≠5):Qh base w' v bs:=by
 obtain⟨hs,ho⟩:=h;rcases ho with rfl|⟨b,hb,hlt,hc⟩;·obtain⟨a,cap,rfl,hc,h⟩:=hs;refine⟨⟨a,cap,rfl,hc,?_⟩,.inl rfl⟩;rcases h with h|⟨b,o,rfl,h⟩;(·exact .inl h);·exact .inr ⟨b,o,rfl,fun i hi=>by simp at hi⟩
 ·(have hne:F b≠row:=by intro e;rcases hrow with rfl|⟨g,cur,t,fz,rfl,hbg,hgc,ht⟩;(·cases e);·cases e;rcases hc with hc|⟨cur2,fz2,hc⟩;(·omega);·rw[hc]at hgc;simp only[tP,Obj.cells.injEq]at hgc;exact ht hgc.2.1.symm);have hblk:=hg.block b hlt hne;refine⟨?_,.inr ⟨b,hb,tR hlt hg.size,?_⟩⟩;(·obtain⟨a,cap,rfl,hcp,h⟩:=hs;refine⟨a,cap,rfl,hcp,?_⟩;rcases h with h|⟨b',o,rfl,h⟩;(·exact .inl h);·refine .inr ⟨b',o,rfl,fun i hi=>?_⟩;simp[pZ]at hb;subst hb;exact hg.cell (h i hi) (by simpa using hne));·rcases hc with hc|⟨cur,fz,hc⟩;(·exact .inl hc);·exact .inr ⟨cur,fz,by rw[hblk];exact hc⟩
def ZZ(k:List UInt8)(i:Nat):Bool:=if i/9<k.length then(if i%9=0then N else(k.getD (i/9) 0).toNat.testBit (8-i%9))else tA
theorem K2(k:List UInt8)(p:Nat):ZZ k (9*p)=tI (p<k.length):=by
 unfold ZZ;rw[show 9*p/9=p by omega,show 9*p%9=0 by omega];by_cases h:p<k.length<;>simp[h]
theorem K3(k:List UInt8)(p r:Nat)(hp:p<k.length)(hr:1<=r)(hr8:r<=8):ZZ k (9*p+r)=(k.getD p 0).toNat.testBit (8-r):=by
 unfold ZZ;rw[show(9*p+r)/9=p by omega,show(9*p+r)%9=r by omega,if_pos hp,if_neg (by omega)]
theorem Nn(k:List UInt8)(i:Nat)(h:k.length<=i/9):ZZ k i=tA:=by
 unfold ZZ;rw[if_neg (by omega)]
theorem C8(x y:UInt8)(h:∀j,j<8->x.toNat.testBit j=y.toNat.testBit j):x=y:=by
 apply pW.1;apply pQ;intro j;by_cases hj:j<8;·exact h j hj
 ·rw[sV (tR x.toNat_lt (rB (by decide) (by omega:8<=j))),sV (tR y.toNat_lt (rB (by decide) (by omega:8<=j)))]
theorem Ir(a b:List UInt8)(ha:a.length<=16)(hb:b.length<=16)(h:∀i,i<145->ZZ a i=ZZ b i):a=b:=by
 have hl:a.length=b.length:=by have h1:=h (9*a.length) (by omega);have h2:=h (9*b.length) (by omega);rw[K2,K2]at h1 h2;simp at h1 h2;omega
 apply List.ext_getElem hl;intro p h1 h2;have e:a.getD p 0=b.getD p 0:=by apply C8;intro j hj;have:=h (9*p+(8-j)) (by omega);rw[K3 a p _ h1 (by omega) (by omega),K3 b p _ h2 (by omega) (by omega),show 8-(8-j)=j by omega]at this;exact this
 simpa[h1,h2]using e
def xU(a b:List UInt8):Nat->Nat->Int|0,_=>-1|n+1,i=>if ZZ a i=ZZ b i then xU a b n (i+1)else(i:Int)
def JI(a b:List UInt8):Int:=xU a b 145 0
theorem Eg(a b:List UInt8)(n i:Nat):(xU a b n i=-1∧∀j,i<=j->j<i+n->ZZ a j=ZZ b j)∨∃m:Nat,xU a b n i=(m:Int)∧i<=m∧m<i+n∧(∀j,i<=j->j<m->ZZ a j=ZZ b j)∧ZZ a m≠ZZ b m:=by
 induction n generalizing i with|zero=>exact .inl ⟨rfl,fun j _ h=>by omega⟩|succ n ih=>unfold xU;by_cases he:ZZ a i=ZZ b i;(·rw[if_pos he];rcases ih (i+1)with⟨h1,h2⟩|⟨m,h1,h2,h3,h4,h5⟩;(·refine .inl ⟨h1,fun j hj hj2=>?_⟩;by_cases hji:j=i;(·subst hji;exact he);·exact h2 j (by omega) (by omega));·refine .inr ⟨m,h1,by omega,by omega,fun j hj hj2=>?_,h5⟩;by_cases hji:j=i;(·subst hji;exact he);·exact h4 j (by omega) hj2);·rw[if_neg he];exact .inr ⟨i,rfl,sA _,by omega,fun j h1 h2=>by omega,he⟩
theorem JN(a b:List UInt8):(JI a b=-1∧∀j,j<145->ZZ a j=ZZ b j)∨∃m:Nat,JI a b=(m:Int)∧m<145∧(∀j,j<m->ZZ a j=ZZ b j)∧ZZ a m≠ZZ b m:=by
 rcases Eg a b 145 0with⟨h1,h2⟩|⟨m,h1,_,h3,h4,h5⟩;·exact .inl ⟨h1,fun j hj=>h2 j (by omega) (by omega)⟩
 ·exact .inr ⟨m,h1,by omega,fun j hj=>h4 j (by omega) hj,h5⟩
theorem D6(a b:List UInt8)(m:Nat)(hm:m<145)(h:∀j,j<m->ZZ a j=ZZ b j)(hd:ZZ a m≠ZZ b m):JI a b=(m:Int):=by
 rcases JN a b with⟨_,h2⟩|⟨m',h1,h2,h3,h4⟩;·exact absurd (h2 m hm) hd
 ·by_cases hlt:m'<m;(·exact absurd (h m' hlt) h4);·by_cases hgt:m<m';(·exact absurd (h3 m hgt) hd);·rw[h1];omega
theorem TO(a b:List UInt8)(h:∀j,j<145->ZZ a j=ZZ b j):JI a b=-1:=by
 rcases JN a b with⟨h1,_⟩|⟨m',_,h2,_,h4⟩;·exact h1
 ·exact absurd (h m' h2) h4
theorem Fa(a b:List UInt8):-1<=JI a b∧JI a b<=144:=by
 rcases JN a b with⟨h,_⟩|⟨m,h,hm,_⟩<;>omega
theorem AG(a b:List UInt8)(ha:a.length<=16)(hb:b.length<=16):JI a b<0↔a=b:=by
 constructor;·intro h;rcases JN a b with⟨_,h2⟩|⟨m,h1,_⟩;(·exact Ir a b ha hb h2);·omega
 ·rintro rfl;rw[TO a a fun _ _=>rfl];decide
theorem Pp(x y:UInt8)(a b:List UInt8):sH (x::a) (y::b)=(tI (x<y)||(x==y&&sH a b)):=by
 simp[sH]
theorem NJ:∀(p:Nat)(a b:List UInt8),(∀i,i<p->i<a.length∧i<b.length∧a.getD i 0=b.getD i 0)->sH a b=sH (a.drop p) (b.drop p)|0,a,b,_=>by simp|p+1,[],b,h=>by have:=(h 0 (by omega)).1;simp at this|p+1,x::a,[],h=>by have:=(h 0 (by omega)).2.1;simp at this|p+1,x::a,y::b,h=>by have h0:=(h 0 (by omega)).2.2;simp at h0;subst h0;rw[Pp,pR,pR,<-NJ p a b fun i hi=>by have:=h (i+1) (by omega);simp at this;simpa using this];simp
theorem Cw(a:List UInt8):sH a []=tA:=by
 cases a<;>rfl
theorem PX(a:List UInt8)(p:Nat)(h:p<a.length):a.drop p=a.getD p 0::a.drop (p+1):=by
 rw[sD h];simp[h]
theorem EX(x y j:Nat)(hx:x.testBit j=tA)(hy:y.testBit j=N)(h:∀i,j<i->x.testBit i=y.testBit i):x<y:=by
 have hq:x/2^(j+1)=y/2^(j+1):=by apply pQ;intro i;rw[pH,pH];exact h _ (by omega)
 rw[Nat.testBit_eq_decide_div_mod_eq]at hx hy;simp at hx hy;rw[Nat.pow_succ,<-pM,<-pM]at hq;exact Nat.lt_of_div_lt_div (c:=2^j) (by omega)
theorem IU(x y:UInt8)(j:Nat)(hd:x.toNat.testBit j≠y.toNat.testBit j)(h:∀i,j<i->x.toNat.testBit i=y.toNat.testBit i):(tI (x<y)||(x==y&&tA))=y.toNat.testBit j:=by
 cases hy:y.toNat.testBit j with|true=>(have hx:x.toNat.testBit j=tA:=by cases hx:x.toNat.testBit j with|true=>exact absurd (hx.trans hy.symm) hd|false=>rfl);have:=EX _ _ j hx hy h;simp[sK,this]|false=>(have hx:x.toNat.testBit j=N:=by cases hx:x.toNat.testBit j with|true=>rfl|false=>exact absurd (hx.trans hy.symm) hd);have:=EX _ _ j hy hx (fun i hi=>(h i hi).symm);simp[sK];omega
theorem Tg(a b:List UInt8)(m:Nat)(h:∀j,j<m->ZZ a j=ZZ b j)(hd:ZZ a m≠ZZ b m):ZZ b m=sH a b:=by
 have hone:m/9<a.length∨m/9<b.length:=by by_cases h1:m/9<a.length;(·exact .inl h1);·by_cases h2:m/9<b.length;(·exact .inr h2);·rw[Nn a m (by omega),Nn b m (by omega)]at hd;exact absurd rfl hd
 have hpre:∀i,i<m/9->i<a.length∧i<b.length∧a.getD i 0=b.getD i 0:=by intro i hi;have hh:=h (9*i) (by omega);rw[K2,K2]at hh;(have hl:i<a.length∧i<b.length:=by simp at hh;omega);refine⟨hl.1,hl.2,C8 _ _ fun j hj=>?_⟩;have:=h (9*i+(8-j)) (by omega);rw[K3 a i _ hl.1 (by omega) (by omega),K3 b i _ hl.2 (by omega) (by omega),show 8-(8-j)=j by omega]at this;exact this
 rw[NJ (m/9) a b hpre];by_cases hr:m%9=0;·(have em:m=9*(m/9):=by omega);have ha:=K2 a (m/9);have hb:=K2 b (m/9);rw[<-em]at ha hb;by_cases hlb:m/9<b.length;(·have hla:¬m/9<a.length:=fun hla=>hd (by rw[ha,hb];simp[hla,hlb]);rw[hb,tW (by omega),PX b _ hlb];simp[hlb,sH]);·rw[hb,tW (show b.length<=m/9by omega),Cw];simp[hlb]
 ·have hh:=h (9*(m/9)) (by omega);rw[K2,K2]at hh;(have hl:m/9<a.length∧m/9<b.length:=by simp at hh;omega);(have em:m=9*(m/9)+m%9:=by omega);have ha:=K3 a (m/9) (m%9) hl.1 (by omega) (by omega);have hb:=K3 b (m/9) (m%9) hl.2 (by omega) (by omega);rw[<-em]at ha hb;rw[PX a _ hl.1,PX b _ hl.2,Pp,hb];rw[ha,hb]at hd;(have hne:(a.getD (m/9) 0==b.getD (m/9) 0)=tA:=by rw[beq_eq_false_iff_ne];intro e;rw[e]at hd;exact hd rfl);rw[hne,Bool.false_and];have:=IU (a.getD (m/9) 0) (b.getD (m/9) 0) (8-m%9) hd (fun i hi=>by by_cases hi8:i<8;(·have:=h (9*(m/9)+(8-i)) (by omega);rw[K3 a _ _ hl.1 (by omega) (by omega),K3 b _ _ hl.2 (by omega) (by omega),show 8-(8-i)=i by omega]at this;exact this);·rw[sV (tR (a.getD (m/9) 0).toNat_lt (rB (by decide) (by omega:8<=i))),sV (tR (b.getD (m/9) 0).toNat_lt (rB (by decide) (by omega:8<=i)))]);rw[Bool.and_false]at this;exact this.symm
def Qq(n:Nat):Int:=if 1<=n∧n<=16then 0 else 1
def AA(k:List UInt8)(i:Int):Bool×Int:=if 1<=k.length∧k.length<=16then(if 0<=i∧i<=144then(ZZ k i.toNat,0)else(tA,2))else(tA,1)
def F8(a b:List UInt8):Int×Int:=if 1<=a.length∧a.length<=16then(if 1<=b.length∧b.length<=16then(JI a b,0)else(0,1))else(0,1)
theorem eA(k:List UInt8)(i:Nat)(hk:1<=k.length∧k.length<=16)(hi:i<145):AA k (i:Int)=(ZZ k i,0):=by
 rw[AA,if_pos hk,if_pos (by omega)];rfl
theorem aK(a b:List UInt8)(ha:1<=a.length∧a.length<=16)(hb:1<=b.length∧b.length<=16):F8 a b=(JI a b,0):=by
 rw[F8,if_pos ha,if_pos hb]
structure Zb where
  name : List UInt8
  key : List UInt8
  value : List UInt8
  gone : Bool
def YQ(p:Zb):Prop:=p.name.length<=140737488355328∧p.key.length<=140737488355328∧p.value.length<=140737488355328
def Qr:Zb:=⟨[],[],[],tA⟩
theorem Qj{W w:I}{b:Nat}{x y z u:O}{t:sX}(hg:J W w H)(h:W.heap[b]?=F (tJ #[x,y,z,u] t)):(w.cell? ⟨b,0,H⟩=F x∧w.cell? ⟨b,1,H⟩=F y∧w.cell? ⟨b,2,H⟩=F z∧w.cell? ⟨b,3,H⟩=F u)∧w.frozen? ⟨b,0,H⟩=tA∧w.frozen? ⟨b,1,H⟩=tA∧w.frozen? ⟨b,2,H⟩=tA∧w.frozen? ⟨b,3,H⟩=tA∧w.heap[b]?=F (tJ #[x,y,z,u] t):=by
 have hb:w.heap[b]?=F (tJ #[x,y,z,u] t):=by rw[hg.block b (tL.1 h).1 (by simp)];exact h
 refine⟨⟨?_,?_,?_,?_⟩,?_,?_,?_,?_,hb⟩;all_goals simp[tZ,sW,hb]
theorem Js{w:I}{b:Nat}{x y z u:O}{t:sX}(h:w.heap[b]?=F (tJ #[x,y,z,u] t))(x' y' z' u':O):((((tG w ⟨b,0,H⟩ x').setCell ⟨b,1,H⟩ y').setCell ⟨b,2,H⟩ z').setCell ⟨b,3,H⟩ u').heap[b]?=F (tJ #[x',y',z',u'] t)∧(tG w ⟨b,0,H⟩ x').cell? ⟨b,0,H⟩=F x'∧((tG w ⟨b,0,H⟩ x').setCell ⟨b,1,H⟩ y').cell? ⟨b,1,H⟩=F y'∧(((tG w ⟨b,0,H⟩ x').setCell ⟨b,1,H⟩ y').setCell ⟨b,2,H⟩ z').cell? ⟨b,2,H⟩=F z'∧((((tG w ⟨b,0,H⟩ x').setCell ⟨b,1,H⟩ y').setCell ⟨b,2,H⟩ z').setCell ⟨b,3,H⟩ u').cell? ⟨b,3,H⟩=F u':=by
 have h0:(tG w ⟨b,0,H⟩ x').heap[b]?=F (tJ #[x',y,z,u] t):=by simp only[tG,tQ,if_true,h,sO];first|rfl|simp
 have h1:((tG w ⟨b,0,H⟩ x').setCell ⟨b,1,H⟩ y').heap[b]?=F (tJ #[x',y',z,u] t):=by rw[tG,tQ,if_pos rfl,h0];first|rfl|simp
 have h2:(((tG w ⟨b,0,H⟩ x').setCell ⟨b,1,H⟩ y').setCell ⟨b,2,H⟩ z').heap[b]?=F (tJ #[x',y',z',u] t):=by rw[tG,tQ,if_pos rfl,h1];first|rfl|simp
 have h3:((((tG w ⟨b,0,H⟩ x').setCell ⟨b,1,H⟩ y').setCell ⟨b,2,H⟩ z').setCell ⟨b,3,H⟩ u').heap[b]?=F (tJ #[x',y',z',u'] t):=by rw[tG,tQ,if_pos rfl,h2];first|rfl|simp
 exact⟨h3,by simp[tZ,h0],by simp[tZ,h1],by simp[tZ,h2],by simp[tZ,h3]⟩
theorem Za.setBlk{base:Nat}{w:I}{v:O}{bs:List UInt8}(h:Za base w v bs){b:Nat}{cur:Array O}{t:sX}{fz:Nat×Nat}(hb:w.heap[b]?=F (tJ cur t fz))(ht:t≠5)(i:Nat)(u:O):Za base (tG w ⟨b,i,H⟩ u) v bs:=by
 refine h.grown (row:=F b) (Qg (Qb _ _) i u) ?_;rcases h.2with⟨rfl,_⟩|⟨g,cap,cur2,rfl,_,hg,_⟩;·exact .inl rfl
 ·right;intro e;simp[pZ]at e;subst e;rw[hg]at hb;simp at hb;exact ht hb.2.1.symm
theorem Jq{w w1:I}(h:J w w1 H)(b:Nat)(hb:w.heap.size<=b)(x y z u:O):J w ((((tG w1 ⟨b,0,H⟩ x).setCell ⟨b,1,H⟩ y).setCell ⟨b,2,H⟩ z).setCell ⟨b,3,H⟩ u) H:=Qc (Qc (Qc (Qc h _ hb _ _) _ hb _ _) _ hb _ _) _ hb _ _
abbrev Pr:=List UInt8×List UInt8
abbrev PL:=List Pr
abbrev YI(a b:List UInt8):Bool:=sH a b
theorem FX(a:List UInt8):YI a []=tA:=Cw a
theorem vO(x y:UInt8)(a b:List UInt8):YI (x::a) (y::b)=(tI (x<y)||(x==y&&YI a b)):=Pp x y a b
theorem Ya:∀a:List UInt8,YI a a=tA|[]=>rfl|x::a=>by rw[vO,Ya a];simp
theorem Kb:∀a b c:List UInt8,YI a b=N->YI b c=N->YI a c=N|_,[],_,h,_=>by rw[FX]at h;cases h|_,_::_,[],_,h=>by rw[FX]at h;cases h|[],_::_,_::_,_,_=>rfl|x::a,y::b,z::c,h1,h2=>by rw[vO]at h1 h2⊢;simp only[oC,decide_eq_true_eq,pX,beq_iff_eq,sK]at h1 h2⊢;rcases h1 with h1|⟨rfl,h1⟩;(·rcases h2 with h2|⟨rfl,h2⟩;(·left;omega);·left;exact h1);·rcases h2 with h2|⟨rfl,h2⟩;(·left;exact h2);·right;exact⟨rfl,Kb a b c h1 h2⟩
theorem Uw:∀a b:List UInt8,YI a b=tA->a≠b->YI b a=N|[],[],_,h=>absurd rfl h|[],_::_,h,_=>by cases h|_::_,[],_,_=>rfl|x::a,y::b,h1,h2=>by rw[vO]at h1⊢;simp only[rP,decide_eq_false_iff_not,Bool.and_eq_false_iff,beq_eq_false_iff_ne,sK]at h1;simp only[oC,decide_eq_true_eq,pX,beq_iff_eq,sK];by_cases e:y=x;(·subst e;right;refine⟨rfl,Uw a b ?_ (fun e=>h2 (by rw[e]))⟩;rcases h1.2with h|h;(·exact absurd rfl h);·exact h);·left;have:x.toNat≠y.toNat:=fun h=>e (pW.1 h.symm);omega
theorem Hr(a b:List UInt8)(h:YI a b=N):YI b a=tA:=by
 cases hb:YI b a with|false=>rfl|true=>have:=Kb a b a h hb;rw[Ya]at this;cases this
theorem I6{a b:List UInt8}(h:YI a b=N):a≠b:=by
 rintro rfl;rw[Ya]at h;cases h
def QY(p:Pr):Int:=if 32<p.2.length then 1 else Qq p.1.length
def XH(l:PL)(i:Nat):Int:=if QY (l.getD i ([],[]))=0then(if 0<i∧YI (l.getD (i-1) ([],[])).1 (l.getD i ([],[])).1=tA then 3 else 0)else QY (l.getD i ([],[]))
def J7(l:PL):Nat->Nat->Int|0,_=>0|n+1,i=>if XH l i=0then J7 l n (i+1)else XH l i
def QC(l:PL):Int:=if 60<l.length then 1 else J7 l l.length 0
theorem zK(l:PL)(n i:Nat)(hi:i<=n)(h:∀j,j<i->XH l j=0):J7 l n 0=J7 l (n-i) i:=by
 induction i with|zero=>rfl|succ i ih=>rw[ih (by omega) (fun j hj=>h j (by omega)),show n-i=(n-(i+1))+1by omega,J7,if_pos (h i (by omega))]
theorem jP(l:PL)(i:Nat)(hi:i<l.length)(hl:l.length<=60)(h:∀j,j<i->XH l j=0)(hf:XH l i≠0):QC l=XH l i:=by
 rw[QC,if_neg (by omega),zK l _ i (by omega) h,show l.length-i=(l.length-(i+1))+1by omega,J7,if_neg hf]
theorem zJ(l:PL)(hl:l.length<=60)(h:∀j,j<l.length->XH l j=0):QC l=0:=by
 rw[QC,if_neg (by omega),zK l _ l.length (sA _) h,oG,J7]
theorem zG(l:PL)(hl:60<l.length):QC l=1:=by
 rw[QC,if_pos hl]
theorem xH(l:PL):∀(n i:Nat),J7 l n i=0->∀j,i<=j->j<i+n->XH l j=0|0,i,_,j,h1,h2=>by omega|n+1,i,h,j,h1,h2=>by rw[J7]at h;by_cases e:XH l i=0;(·rw[if_pos e]at h;by_cases hj:j=i;(·subst hj;exact e);·exact xH l n (i+1) h j (by omega) (by omega));·rw[if_neg e]at h;exact absurd h e
def Uk(l:PL):Prop:=l.Pairwise fun p q=>YI p.1 q.1=N
structure ZH(l:PL):Prop where room:l.length<=60pairs:∀p∈l,(1<=p.1.length∧p.1.length<=16)∧p.2.length<=32rises:Uk l
theorem Jz(p:Pr):QY p=0↔(1<=p.1.length∧p.1.length<=16)∧p.2.length<=32:=by
 unfold QY Qq;by_cases h:32<p.2.length;·rw[if_pos h];constructor;(·intro h;cases h);·intro h;omega
 ·rw[if_neg h];by_cases h2:1<=p.1.length∧p.1.length<=16;(·rw[if_pos h2];exact⟨fun _=>⟨h2,by omega⟩,fun _=>rfl⟩);·rw[if_neg h2];constructor;(·intro h;cases h);·intro h;exact absurd h.1 h2
theorem Fe(l:PL)(i:Nat):XH l i=0↔QY (l.getD i ([],[]))=0∧(0<i->YI (l.getD (i-1) ([],[])).1 (l.getD i ([],[])).1=N):=by
 unfold XH;by_cases h:QY (l.getD i ([],[]))=0;·rw[if_pos h];by_cases h2:0<i∧YI (l.getD (i-1) ([],[])).1 (l.getD i ([],[])).1=tA;(·rw[if_pos h2];constructor;(·intro h;cases h);·intro h3;have:=h3.2 h2.1;rw[h2.2]at this;cases this);·rw[if_neg h2];refine⟨fun _=>⟨h,fun hi=>?_⟩,fun _=>rfl⟩;cases hk:YI (l.getD (i-1) ([],[])).1 (l.getD i ([],[])).1with|true=>rfl|false=>exact absurd ⟨hi,hk⟩ h2
 ·rw[if_neg h];constructor;(·intro h2;exact absurd h2 h);·intro h2;exact absurd h2.1 h
theorem xB:∀l:PL,(∀i,0<i->i<l.length->YI (l.getD (i-1) ([],[])).1 (l.getD i ([],[])).1=N)->Uk l|[],_=>rA|[_],_=>sR _ _|p::q::r,h=>by(have ih:Uk (q::r):=xB (q::r) fun i h0 hi=>by have:=h (i+1) (by omega) (by simp at hi⊢;omega);rw[show i+1-1=(i-1)+1by omega]at this;simpa using this);(have h01:YI p.1 q.1=N:=by have:=h 1 (by omega) (by simp);simpa using this);refine tU (fun x hx=>?_) ih;rcases tS.1 hx with rfl|hx;(·exact h01);·exact Kb _ _ _ h01 ((sP.1 ih).1 x hx)
theorem UD(l:PL)(h:Uk l)(i j:Nat)(hij:i<j)(hj:j<l.length):YI (l.getD i ([],[])).1 (l.getD j ([],[])).1=N:=by
 have:=pD.1 h i j (by omega) hj hij;simpa[hj,show i<l.length by omega]using this
theorem YP(l:PL):QC l=0↔ZH l:=by
 constructor;·intro h;(have hl:l.length<=60:=by by_cases hl:60<l.length;(·rw[zG l hl]at h;cases h);·omega);rw[QC,if_neg (by omega)]at h;have ha:=fun j(hj:j<l.length)=>(Fe l j).1 (xH l l.length 0 h j (by omega) (by omega));refine⟨hl,fun p hp=>?_,xB l fun i h0 hi=>(ha i hi).2 h0⟩;obtain⟨i,hi,rfl⟩:=L.1 hp;have:=(Jz _).1 (ha i hi).1;simpa[hi]using this
 ·intro h;refine zJ l h.room fun j hj=>(Fe l j).2 ⟨(Jz _).2 ?_,fun h0=>UD l h.rises _ _ (by omega) hj⟩;have:=h.pairs l[j] (sF hj);simpa[hj]using this
theorem aV:ZH []:=⟨by
 simp,by
 simp,rA⟩
def El(l:PL)(k:List UInt8):Option (List UInt8):=(l.find? fun p=>p.1==k).map (·.2)
theorem RU(p:Pr)(l:PL)(k:List UInt8):El (p::l) k=if p.1=k then F p.2 else El l k:=by
 unfold El;by_cases h:p.1=k;·rw[pI (by simpa using h),if_pos h];rfl
 ·rw[pJ (by simpa using h),if_neg h]
theorem OL:∀(l:PL)(k:List UInt8)(i:Nat),i<l.length->(∀j,j<i->(l.getD j ([],[])).1≠k)->(l.getD i ([],[])).1=k->El l k=F (l.getD i ([],[])).2|[],_,_,h,_,_=>by simp at h|p::l,k,0,_,_,h2=>by rw[RU,if_pos (by simpa using h2)];simp|p::l,k,i+1,h,h1,h2=>by rw[RU,if_neg (by simpa using h1 0 (by omega))];have:=OL l k i (by simpa using h) (fun j hj=>by simpa using h1 (j+1) (by omega)) (by simpa using h2);simpa using this
theorem D7:∀(l:PL)(k:List UInt8),(∀j,j<l.length->(l.getD j ([],[])).1≠k)->El l k=H|[],_,_=>rfl|p::l,k,h=>by rw[RU,if_neg (by simpa using h 0 (by simp))];exact D7 l k fun j hj=>by simpa using h (j+1) (by simpa using hj)
def J9:PL->Pr->PL|[],p=>[p]|q::r,p=>if YI q.1 p.1=N then q::J9 r p else if q.1=p.1then p::r else p::q::r
def kB(l:PL)(k:List UInt8):PL:=l.filter fun q=>!(q.1==k)
def Vf(l:PL)(a b:List UInt8):PL:=l.filter fun q=>!YI q.1 a&&!YI b q.1
theorem MD(l:PL)(p x:Pr):x∈J9 l p->x=p∨x∈l:=by
 induction l with|nil=>intro h;simp[J9]at h;exact .inl h|cons q r ih=>intro h;rw[J9]at h;by_cases h1:YI q.1 p.1=N;(·rw[if_pos h1]at h;rcases tS.1 h with rfl|h;(·exact .inr (by simp));·rcases ih h with h|h;(·exact .inl h);·exact .inr (tY _ h));·rw[if_neg h1]at h;by_cases h2:q.1=p.1;(·rw[if_pos h2]at h;rcases tS.1 h with h|h;(·exact .inl h);·exact .inr (tY _ h));·rw[if_neg h2]at h;rcases tS.1 h with h|h;(·exact .inl h);·exact .inr h
theorem Pc(l:PL)(p:Pr)(h:Uk l):Uk (J9 l p):=by
 induction l with|nil=>exact sR _ _|cons q r ih=>have hr:=sP.1 h;rw[J9];by_cases h1:YI q.1 p.1=N;(·rw[if_pos h1];refine tU (fun x hx=>?_) (ih hr.2);rcases MD r p x hx with rfl|hx;(·exact h1);·exact hr.1 x hx);·rw[if_neg h1];by_cases h2:q.1=p.1;(·rw[if_pos h2];exact tU (fun x hx=>by rw[<-h2];exact hr.1 x hx) hr.2);·rw[if_neg h2];have hpq:=Uw _ _ (by simpa using h1) h2;refine tU (fun x hx=>?_) h;rcases tS.1 hx with rfl|hx;(·exact hpq);·exact Kb _ _ _ hpq (hr.1 x hx)
theorem Nx(l:PL)(k:List UInt8)(h:Uk l):Uk (kB l k):=sS _ h
theorem Bm(l:PL)(a b:List UInt8)(h:Uk l):Uk (Vf l a b):=sS _ h
def Xf(l:PL)(k:List UInt8):Int:=if QC l=0then Qq k.length else QC l
theorem yZ{l:PL}{k:List UInt8}(h:Xf l k=0):ZH l:=by
 unfold Xf at h;by_cases h0:QC l=0;·exact(YP l).1 h0
 ·rw[if_neg h0]at h;exact absurd h h0
theorem Zx(n:Nat):Qq n=0↔1<=n∧n<=16:=by
 unfold Qq;by_cases h:1<=n∧n<=16;·rw[if_pos h];exact⟨fun _=>h,fun _=>rfl⟩
 ·rw[if_neg h];constructor;(·intro h2;cases h2);·intro h2;exact absurd h2 h
theorem OW{l:PL}{k:List UInt8}(h:Xf l k=0):1<=k.length∧k.length<=16:=by
 have ht:=(YP l).2 (yZ h);unfold Xf at h;rw[if_pos ht]at h;exact(Zx _).1 h
theorem vT{l:PL}{k:List UInt8}(h:ZH l)(hk:1<=k.length∧k.length<=16):Xf l k=0:=by
 unfold Xf;rw[if_pos ((YP l).2 h)];exact(Zx _).2 hk
def Ej(l:PL)(k:List UInt8):Bool:=Xf l k==0&&(El l k).isSome
def En(l:PL)(k:List UInt8):List UInt8:=if Xf l k=0then(El l k).getD []else[]
def zR(l:PL)(k:List UInt8):PL:=if Xf l k=0then kB l k else[]
theorem Mt(l:PL)(k:List UInt8):(kB l k).length<=l.length:=sY _ _
def YA(l:PL)(f t:List UInt8):Int:=if Xf l f=0then Qq t.length else Xf l f
theorem Aa{l:PL}{f t:List UInt8}(h:YA l f t=0):Xf l f=0:=by
 unfold YA at h;by_cases h0:Xf l f=0;·exact h0
 ·rw[if_neg h0]at h;exact absurd h h0
def KH(l:PL)(f t:List UInt8):PL:=if YA l f t=0then Vf l f t else[]
theorem WZ(l:PL)(f t:List UInt8):(Vf l f t).length<=l.length:=sY _ _
def VW(l:PL)(p:Pr):Int:=if QC l=0then QY p else QC l
def Ke(l:PL)(p:Pr):Int:=if VW l p=0then(if 60<(J9 l p).length then 11 else 0)else VW l p
def Vo(l:PL)(p:Pr):PL:=if Ke l p=0then J9 l p else[]
theorem LD(l:PL)(p:Pr):(J9 l p).length<=l.length+1:=by
 induction l with|nil=>simp[J9]|cons q r ih=>rw[J9];by_cases h1:YI q.1 p.1=N;(·rw[if_pos h1];simp;omega);·rw[if_neg h1];by_cases h2:q.1=p.1;(·rw[if_pos h2];simp);·rw[if_neg h2];simp
structure kV (l : PL) : Prop where
  many : l.length * 48 <= 140737488355328
  each : ∀ i, i < l.length -> (l.getD i ([], [])).1.length <= 140737488355328 ∧ (l.getD i ([], [])).2.length <= 140737488355328
theorem kV.len{l:PL}(h:kV l):l.length<=140737488355328:=by
 have:=h.many;omega
theorem ZH.fits{l:PL}(h:ZH l):kV l:=by
 refine⟨by have:=h.room;omega,fun i hi=>?_⟩;have:=h.pairs l[i] (sF hi);rw[show l[i]=l.getD i ([],[])by simp[hi]]at this;omega
abbrev Tn:=List UInt8×PL
abbrev FL:=List Tn
def XI(l:FL):Prop:=l.Pairwise fun p q=>YI p.1 q.1=N
def Uz(l:FL)(k:List UInt8):Option PL:=(l.find? fun p=>p.1==k).map (·.2)
theorem X9(p:Tn)(l:FL)(k:List UInt8):Uz (p::l) k=if p.1=k then F p.2 else Uz l k:=by
 unfold Uz;by_cases h:p.1=k;·rw[pI (by simpa using h),if_pos h];rfl
 ·rw[pJ (by simpa using h),if_neg h]
theorem Be:∀(l:FL)(k:List UInt8)(i:Nat),i<l.length->(∀j,j<i->(l.getD j ([],[])).1≠k)->(l.getD i ([],[])).1=k->Uz l k=F (l.getD i ([],[])).2|[],_,_,h,_,_=>by simp at h|p::l,k,0,_,_,h2=>by rw[X9,if_pos (by simpa using h2)];simp|p::l,k,i+1,h,h1,h2=>by rw[X9,if_neg (by simpa using h1 0 (by omega))];have:=Be l k i (by simpa using h) (fun j hj=>by simpa using h1 (j+1) (by omega)) (by simpa using h2);simpa using this
theorem T5:∀(l:FL)(k:List UInt8),(∀j,j<l.length->(l.getD j ([],[])).1≠k)->Uz l k=H|[],_,_=>rfl|p::l,k,h=>by rw[X9,if_neg (by simpa using h 0 (by simp))];exact T5 l k fun j hj=>by simpa using h (j+1) (by simpa using hj)
def YJ:FL->Tn->FL|[],p=>[p]|q::r,p=>if YI q.1 p.1=N then q::YJ r p else if q.1=p.1then p::r else p::q::r
def Gy(l:FL)(k:List UInt8):FL:=l.filter fun q=>!(q.1==k)
theorem Pa(l:FL)(p x:Tn):x∈YJ l p->x=p∨x∈l:=by
 induction l with|nil=>intro h;simp[YJ]at h;exact .inl h|cons q r ih=>intro h;rw[YJ]at h;by_cases h1:YI q.1 p.1=N;(·rw[if_pos h1]at h;rcases tS.1 h with rfl|h;(·exact .inr (by simp));·rcases ih h with h|h;(·exact .inl h);·exact .inr (tY _ h));·rw[if_neg h1]at h;by_cases h2:q.1=p.1;(·rw[if_pos h2]at h;rcases tS.1 h with h|h;(·exact .inl h);·exact .inr (tY _ h));·rw[if_neg h2]at h;rcases tS.1 h with h|h;(·exact .inl h);·exact .inr h
theorem Dt(l:FL)(p:Tn)(h:XI l):XI (YJ l p):=by
 induction l with|nil=>exact sR _ _|cons q r ih=>have hr:=sP.1 h;rw[YJ];by_cases h1:YI q.1 p.1=N;(·rw[if_pos h1];refine tU (fun x hx=>?_) (ih hr.2);rcases Pa r p x hx with rfl|hx;(·exact h1);·exact hr.1 x hx);·rw[if_neg h1];by_cases h2:q.1=p.1;(·rw[if_pos h2];exact tU (fun x hx=>by rw[<-h2];exact hr.1 x hx) hr.2);·rw[if_neg h2];have hpq:=Uw _ _ (by simpa using h1) h2;refine tU (fun x hx=>?_) h;rcases tS.1 hx with rfl|hx;(·exact hpq);·exact Kb _ _ _ hpq (hr.1 x hx)
theorem I1(l:FL)(p:Tn)(k:List UInt8)(h:XI l):Uz (YJ l p) k=if p.1=k then F p.2 else Uz l k:=by
 induction l with|nil=>rw[YJ,X9]|cons q r ih=>have hr:=sP.1 h;rw[YJ];by_cases h1:YI q.1 p.1=N;(·rw[if_pos h1,X9,X9,ih hr.2];by_cases e:p.1=k;(·rw[if_pos e,if_pos e,if_neg (fun e2=>I6 h1 (e2.trans e.symm))]);·rw[if_neg e,if_neg e]);·rw[if_neg h1];by_cases h2:q.1=p.1;(·rw[if_pos h2,X9,X9];by_cases e:p.1=k;(·rw[if_pos e,if_pos e]);·rw[if_neg e,if_neg e,if_neg (by rw[h2];exact e)]);·rw[if_neg h2,X9]
theorem L6(l:FL)(k x:List UInt8):Uz (Gy l k) x=if k=x then H else Uz l x:=by
 induction l with|nil=>simp[Gy,Uz]|cons q r ih=>unfold Gy at ih⊢;by_cases e:q.1=k;(·rw[rM (by simp[e]),ih,X9];by_cases e2:k=x;(·rw[if_pos e2,if_pos e2]);·rw[if_neg e2,if_neg e2,if_neg (by rw[e];exact e2)]);·rw[List.filter_cons_of_pos (by simp[e]),X9,ih,X9];by_cases e2:k=x;(·rw[if_pos e2,if_pos e2,if_neg (by rw[<-e2];exact e)]);·rw[if_neg e2,if_neg e2]
theorem Bf(l:FL)(k:List UInt8)(h:XI l):XI (Gy l k):=sS _ h
theorem WQ(l:FL)(p:Tn):(YJ l p).length<=l.length+1:=by
 induction l with|nil=>simp[YJ]|cons q r ih=>rw[YJ];by_cases h1:YI q.1 p.1=N;(·rw[if_pos h1];simp;omega);·rw[if_neg h1];by_cases h2:q.1=p.1;(·rw[if_pos h2];simp);·rw[if_neg h2];simp
theorem NP(l:FL)(k:List UInt8):(Gy l k).length<=l.length:=sY _ _
def Qt(n:Nat):Int:=if 1<=n∧n<=8then 0 else 1
theorem ZG(n:Nat):Qt n=0↔1<=n∧n<=8:=by
 unfold Qt;by_cases h:1<=n∧n<=8;·rw[if_pos h];exact⟨fun _=>h,fun _=>rfl⟩
 ·rw[if_neg h];constructor;(·intro h2;cases h2);·intro h2;exact absurd h2 h
def XA(t:Tn):Int:=if Qt t.1.length=0then(if t.2.length=0then 4 else QC t.2)else Qt t.1.length
theorem vR(t:Tn):XA t=0↔(1<=t.1.length∧t.1.length<=8)∧t.2≠[]∧ZH t.2:=by
 unfold XA;by_cases h:Qt t.1.length=0;·rw[if_pos h];by_cases h2:t.2.length=0;(·rw[if_pos h2];constructor;(·intro h3;cases h3);·intro h3;exact absurd (V h2) h3.2.1);·rw[if_neg h2,YP];exact⟨fun h3=>⟨(ZG _).1 h,fun e=>h2 (by rw[e];rfl),h3⟩,fun h3=>h3.2.2⟩
 ·rw[if_neg h];constructor;(·intro h2;exact absurd h2 h);·intro h2;exact absurd ((ZG _).2 h2.1) h
def Kh(l:FL)(i:Nat):Int:=if XA (l.getD i ([],[]))=0then(if 0<i∧YI (l.getD (i-1) ([],[])).1 (l.getD i ([],[])).1=tA then 3 else 0)else XA (l.getD i ([],[]))
def Vw(l:FL):Nat->Nat->Int|0,_=>0|n+1,i=>if Kh l i=0then Vw l n (i+1)else Kh l i
def Q9(l:FL):Int:=if 8<l.length then 1 else Vw l l.length 0
theorem jK(l:FL)(n i:Nat)(hi:i<=n)(h:∀j,j<i->Kh l j=0):Vw l n 0=Vw l (n-i) i:=by
 induction i with|zero=>rfl|succ i ih=>rw[ih (by omega) (fun j hj=>h j (by omega)),show n-i=(n-(i+1))+1by omega,Vw,if_pos (h i (by omega))]
theorem R6(l:FL)(i:Nat)(hi:i<l.length)(hl:l.length<=8)(h:∀j,j<i->Kh l j=0)(hf:Kh l i≠0):Q9 l=Kh l i:=by
 rw[Q9,if_neg (by omega),jK l _ i (by omega) h,show l.length-i=(l.length-(i+1))+1by omega,Vw,if_neg hf]
theorem uH(l:FL)(hl:l.length<=8)(h:∀j,j<l.length->Kh l j=0):Q9 l=0:=by
 rw[Q9,if_neg (by omega),jK l _ l.length (sA _) h,oG,Vw]
theorem vL(l:FL)(hl:8<l.length):Q9 l=1:=by
 rw[Q9,if_pos hl]
theorem vI(l:FL):∀(n i:Nat),Vw l n i=0->∀j,i<=j->j<i+n->Kh l j=0|0,i,_,j,h1,h2=>by omega|n+1,i,h,j,h1,h2=>by rw[Vw]at h;by_cases e:Kh l i=0;(·rw[if_pos e]at h;by_cases hj:j=i;(·subst hj;exact e);·exact vI l n (i+1) h j (by omega) (by omega));·rw[if_neg e]at h;exact absurd h e
theorem EI(l:FL)(i:Nat):Kh l i=0↔XA (l.getD i ([],[]))=0∧(0<i->YI (l.getD (i-1) ([],[])).1 (l.getD i ([],[])).1=N):=by
 unfold Kh;by_cases h:XA (l.getD i ([],[]))=0;·rw[if_pos h];by_cases h2:0<i∧YI (l.getD (i-1) ([],[])).1 (l.getD i ([],[])).1=tA;(·rw[if_pos h2];constructor;(·intro h;cases h);·intro h3;have:=h3.2 h2.1;rw[h2.2]at this;cases this);·rw[if_neg h2];refine⟨fun _=>⟨h,fun hi=>?_⟩,fun _=>rfl⟩;cases hk:YI (l.getD (i-1) ([],[])).1 (l.getD i ([],[])).1with|true=>rfl|false=>exact absurd ⟨hi,hk⟩ h2
 ·rw[if_neg h];constructor;(·intro h2;exact absurd h2 h);·intro h2;exact absurd h2.1 h
theorem G4:∀l:FL,(∀i,0<i->i<l.length->YI (l.getD (i-1) ([],[])).1 (l.getD i ([],[])).1=N)->XI l|[],_=>rA|[_],_=>sR _ _|p::q::r,h=>by(have ih:XI (q::r):=G4 (q::r) fun i h0 hi=>by have:=h (i+1) (by omega) (by simp at hi⊢;omega);rw[show i+1-1=(i-1)+1by omega]at this;simpa using this);(have h01:YI p.1 q.1=N:=by have:=h 1 (by omega) (by simp);simpa using this);refine tU (fun x hx=>?_) ih;rcases tS.1 hx with rfl|hx;(·exact h01);·exact Kb _ _ _ h01 ((sP.1 ih).1 x hx)
theorem qU(l:FL)(h:XI l)(i j:Nat)(hij:i<j)(hj:j<l.length):YI (l.getD i ([],[])).1 (l.getD j ([],[])).1=N:=by
 have:=pD.1 h i j (by omega) hj hij;simpa[hj,show i<l.length by omega]using this
structure ZW(l:FL):Prop where room:l.length<=8tens:∀t∈l,(1<=t.1.length∧t.1.length<=8)∧t.2≠[]∧ZH t.2rises:XI l
theorem XM(l:FL):Q9 l=0↔ZW l:=by
 constructor;·intro h;(have hl:l.length<=8:=by by_cases hl:8<l.length;(·rw[vL l hl]at h;cases h);·omega);rw[Q9,if_neg (by omega)]at h;have ha:=fun j(hj:j<l.length)=>(EI l j).1 (vI l l.length 0 h j (by omega) (by omega));refine⟨hl,fun p hp=>?_,G4 l fun i h0 hi=>(ha i hi).2 h0⟩;obtain⟨i,hi,rfl⟩:=L.1 hp;have:=(vR _).1 (ha i hi).1;simpa[hi]using this
 ·intro h;refine uH l h.room fun j hj=>(EI l j).2 ⟨(vR _).2 ?_,fun h0=>qU l h.rises _ _ (by omega) hj⟩;have:=h.tens l[j] (sF hj);simpa[hj]using this
theorem VI:ZW []:=⟨by
 simp,by
 simp,rA⟩
def YX(l:FL)(n:List UInt8):PL:=(Uz l n).getD []
theorem gV(n:List UInt8):YX [] n=[]:=rfl
theorem K9{l:FL}(h:ZW l)(n:List UInt8):ZH (YX l n):=by
 unfold YX Uz;cases hf:l.find? (fun p=>p.1==n)with|none=>exact aV|some t=>exact(h.tens t (List.mem_of_find?_eq_some hf)).2.2
def Qz(w:Zb):Int:=if Qt w.name.length=0then(if w.gone=N then(if Qq w.key.length=0then(if 0<w.value.length then 4 else 0)else Qq w.key.length)else QY (w.key,w.value))else Qt w.name.length
def XS(l:FL)(w:Zb):PL:=if w.gone=N then kB (YX l w.name) w.key else J9 (YX l w.name) (w.key,w.value)
def G8(l:FL)(w:Zb):Int:=if w.gone=N then Xf (YX l w.name) w.key else Ke (YX l w.name) (w.key,w.value)
def QW(l:FL)(w:Zb):FL:=if(XS l w).length=0then Gy l w.name else YJ l (w.name,XS l w)
def XK(l:FL)(w:Zb):Int:=if G8 l w=0then(if 8<(QW l w).length then 11 else 0)else G8 l w
def ZP:FL->List Zb->Int|_,[]=>0|l,w::ws=>if Qz w=0then(if XK l w=0then ZP (QW l w) ws else XK l w)else Qz w
def Jd:FL->List Zb->FL|l,[]=>l|l,w::ws=>Jd (QW l w) ws
def QN(l:FL)(ws:List Zb):Int:=if Q9 l=0then(if 10<ws.length then 1 else ZP l ws)else Q9 l
def ZA(l:FL)(ws:List Zb):FL:=if QN l ws=0then Jd l ws else[]
theorem Xr(w:Zb):Qz w=0↔(1<=w.name.length∧w.name.length<=8)∧(1<=w.key.length∧w.key.length<=16)∧(if w.gone=N then w.value=[]else w.value.length<=32):=by
 unfold Qz;by_cases hn:Qt w.name.length=0;·rw[if_pos hn];have hn':=(ZG _).1 hn;by_cases hg:w.gone=N;(·rw[if_pos hg,if_pos hg];by_cases hk:Qq w.key.length=0;(·rw[if_pos hk];have hk':=(Zx _).1 hk;by_cases hv:0<w.value.length;(·rw[if_pos hv];constructor;(·intro h;cases h);·intro h;rw[h.2.2]at hv;simp at hv);·rw[if_neg hv];exact⟨fun _=>⟨hn',hk',V (by omega)⟩,fun _=>rfl⟩);·rw[if_neg hk];constructor;(·intro h;exact absurd h hk);·intro h;exact absurd ((Zx _).2 h.2.1) hk);·rw[if_neg hg,if_neg hg,Jz];exact⟨fun h=>⟨hn',h.1,h.2⟩,fun h=>⟨h.2.1,h.2.2⟩⟩
 ·rw[if_neg hn];constructor;(·intro h;exact absurd h hn);·intro h;exact absurd ((ZG _).2 h.1) hn
theorem IV{l:FL}(h:ZW l){w:Zb}(hw:Qz w=0)(he:G8 l w=0):ZH (XS l w):=by
 obtain⟨_,hk,hv⟩:=(Xr w).1 hw;have hT:=K9 h w.name;unfold XS;unfold G8 at he;by_cases hg:w.gone=N;·rw[if_pos hg];exact⟨rD (Mt _ _) hT.room,fun p hp=>hT.pairs p (r7.1 hp).1,Nx _ _ hT.rises⟩
 ·rw[if_neg hg]at he hv⊢;(have h60:¬60<(J9 (YX l w.name) (w.key,w.value)).length:=by intro h60;unfold Ke at he;by_cases h0:VW (YX l w.name) (w.key,w.value)=0;(·rw[if_pos h0,if_pos h60]at he;cases he);·rw[if_neg h0]at he;exact h0 he);refine⟨by omega,fun q hq=>?_,Pc _ _ hT.rises⟩;rcases MD _ _ q hq with rfl|hq;(·exact⟨hk,hv⟩);·exact hT.pairs q hq
theorem Eh{l:FL}(h:XI l)(w:Zb):XI (QW l w):=by
 unfold QW;by_cases hn:(XS l w).length=0;·rw[if_pos hn];exact Bf _ _ h
 ·rw[if_neg hn];exact Dt _ _ h
theorem SI{l:FL}(h:XI l)(w:Zb)(n:List UInt8):YX (QW l w) n=if w.name=n then XS l w else YX l n:=by
 unfold QW;by_cases hn:(XS l w).length=0;·rw[if_pos hn];have hn':XS l w=[]:=V hn;rw[hn'];unfold YX;rw[L6];by_cases e:w.name=n;(·rw[if_pos e,if_pos e];rfl);·rw[if_neg e,if_neg e]
 ·rw[if_neg hn];unfold YX;rw[I1 _ _ _ h];by_cases e:w.name=n;(·rw[if_pos e,if_pos e];rfl);·rw[if_neg e,if_neg e]
theorem Up{l:FL}(h:ZW l){w:Zb}(hw:Qz w=0)(he:XK l w=0):ZW (QW l w):=by
 have hE:G8 l w=0:=by by_cases h0:G8 l w=0;(·exact h0);·unfold XK at he;rw[if_neg h0]at he;exact absurd he h0
 have hl:(QW l w).length<=8:=by unfold XK at he;rw[if_pos hE]at he;by_cases h8:8<(QW l w).length;(·rw[if_pos h8]at he;cases he);·omega
 obtain⟨hn,_,_⟩:=(Xr w).1 hw;refine⟨hl,fun t ht=>?_,Eh h.rises w⟩;unfold QW at ht;by_cases h0:(XS l w).length=0;·rw[if_pos h0]at ht;exact h.tens t (r7.1 ht).1
 ·rw[if_neg h0]at ht;rcases Pa _ _ t ht with rfl|ht;(·exact⟨hn,fun e=>h0 (by rw[show XS l w=[]from e];rfl),IV h hw hE⟩);·exact h.tens t ht
structure Rd where
  name : List UInt8
  key : List UInt8
  wide : Bool
  last : List UInt8
def Zh:Rd:=⟨[],[],tA,[]⟩
def XD(r:Rd):Int:=if Qt r.name.length=0then(if Qq r.key.length=0then(if r.wide=N then Qq r.last.length else(if 0<r.last.length then 4 else 0))else Qq r.key.length)else Qt r.name.length
theorem EH(r:Rd):XD r=0↔(1<=r.name.length∧r.name.length<=8)∧(1<=r.key.length∧r.key.length<=16)∧(if r.wide=N then 1<=r.last.length∧r.last.length<=16 else r.last=[]):=by
 unfold XD;by_cases hn:Qt r.name.length=0;·rw[if_pos hn];have hn':=(ZG _).1 hn;by_cases hk:Qq r.key.length=0;(·rw[if_pos hk];have hk':=(Zx _).1 hk;by_cases hw:r.wide=N;(·rw[if_pos hw,if_pos hw,Zx];exact⟨fun h=>⟨hn',hk',h⟩,fun h=>h.2.2⟩);·rw[if_neg hw,if_neg hw];by_cases hl:0<r.last.length;(·rw[if_pos hl];exact⟨fun h=>by omega,fun h=>by rw[h.2.2]at hl;simp at hl⟩);·rw[if_neg hl];exact⟨fun _=>⟨hn',hk',V (by omega)⟩,fun _=>rfl⟩);·rw[if_neg hk];exact⟨fun h=>absurd h hk,fun h=>absurd ((Zx _).2 h.2.1) hk⟩
 ·rw[if_neg hn];exact⟨fun h=>absurd h hn,fun h=>absurd ((ZG _).2 h.1) hn⟩
def Xe(w:I)(v:O)(p:Zb):Prop:=∃vn vk vv,v=pN #[vn,vk,pO p.gone,vv]∧Qe w vn p.name∧Qe w vk p.key∧Qe w vv p.value
theorem Xe.grown{w w':I}{v:O}{p:Zb}(h:Xe w v p)(hg:J w w' H):Xe w' v p:=by
 obtain⟨vn,vk,vv,rfl,h1,h2,h3⟩:=h;exact⟨vn,vk,vv,rfl,h1.grown hg,h2.grown hg,h3.grown hg⟩
theorem Xe.aggW{w:I}{v:O}{p:Zb}(h:Xe w v p):∃na nc ka kc va vc,v=pN #[tH na p.name.length nc,tH ka p.key.length kc,pO p.gone,tH va p.value.length vc]:=by
 obtain⟨vn,vk,vv,rfl,h1,h2,h3⟩:=h;obtain⟨na,nc,rfl⟩:=h1.shape;obtain⟨ka,kc,rfl⟩:=h2.shape;obtain⟨va,vc,rfl⟩:=h3.shape;exact⟨na,nc,ka,kc,va,vc,rfl⟩
def uY(w:I)(b o:Nat)(p:Zb):Prop:=∃vn vk vv,w.cell? ⟨b,o,H⟩=F vn∧w.cell? ⟨b,o+1,H⟩=F vk∧w.cell? ⟨b,o+2,H⟩=F (pO p.gone)∧w.cell? ⟨b,o+3,H⟩=F vv∧Qe w vn p.name∧Qe w vk p.key∧Qe w vv p.value
theorem uY.grown{w w':I}{b o:Nat}{p:Zb}(h:uY w b o p)(hg:J w w' H):uY w' b o p:=by
 obtain⟨vn,vk,vv,c1,c2,c3,c4,h1,h2,h3⟩:=h;exact⟨vn,vk,vv,hg.cell c1 (by simp),hg.cell c2 (by simp),hg.cell c3 (by simp),hg.cell c4 (by simp),h1.grown hg,h2.grown hg,h3.grown hg⟩
def QR(w:I)(v:O)(l:List Zb):Prop:=∃a cap,v=tH a l.length cap∧l.length<=cap∧((l=[]∧(a=H->cap=0))∨∃b o,a=F ⟨b,o,H⟩∧∀i,i<l.length->uY w b (o+i*4) (l.getD i Qr))
theorem QR.shape{w:I}{v:O}{l:List Zb}(h:QR w v l):∃a cap,v=tH a l.length cap:=by
 obtain⟨a,cap,rfl,_⟩:=h;exact⟨a,cap,rfl⟩
theorem QR.grown{w w':I}{v:O}{l:List Zb}(h:QR w v l)(hg:J w w' H):QR w' v l:=by
 obtain⟨a,cap,rfl,hc,h⟩:=h;refine⟨a,cap,rfl,hc,?_⟩;rcases h with h|⟨b,o,rfl,h⟩;·exact .inl h
 ·exact .inr ⟨b,o,rfl,fun i hi=>(h i hi).grown hg⟩
theorem QR.at{w:I}{a:Option pE}{n cap:Nat}{l:List Zb}(h:QR w (tH a n cap) l)(i:Nat)(hi:i<l.length):∃b o,a=F ⟨b,o,H⟩∧uY w b (o+i*4) (l.getD i Qr):=by
 obtain⟨a',cap',e,hc,h⟩:=h;simp only[rC]at e;obtain⟨rfl,rfl,rfl⟩:=e;rcases h with⟨rfl,_⟩|⟨b,o,rfl,h⟩;·simp at hi
 ·exact⟨b,o,rfl,h i hi⟩
structure jG (l : List Zb) : Prop where
  many : l.length * 80 <= 140737488355328
  each : ∀ i, i < l.length -> YQ (l.getD i Qr)
theorem jG.len{l:List Zb}(h:jG l):l.length<=140737488355328:=by
 have:=h.many;omega
structure XC where
  turn : Int
  writes : List Zb
def Zn:XC:=⟨0,[]⟩
def B9:Nat->List Zb->Int|_,[]=>0|i,w::ws=>if(if 10<=i then(1:Int)else Qz w)=0then B9 (i+1) ws else(if 10<=i then(1:Int)else Qz w)
def QZ(c:XC):Int:=if 1<=c.turn∧c.turn<=1048576then(if c.writes.length=0then 1 else B9 0 c.writes)else 2
theorem LJ:∀(ws:List Zb)(i:Nat),B9 i ws=0↔(ws=[]∨i+ws.length<=10)∧∀w∈ws,Qz w=0|[],i=>by simp[B9]|w::ws,i=>by have ih:=LJ ws (i+1);rw[B9];by_cases h10:10<=i;(·rw[if_pos h10,if_neg (by omega)];constructor;(·intro h;omega);·rintro⟨h|h,_⟩;(·cases h);·simp at h;omega);·rw[if_neg h10];by_cases hw:Qz w=0;(·rw[if_pos hw,ih];constructor;(·rintro⟨h1,h2⟩;refine⟨.inr ?_,?_⟩;(·rcases h1 with rfl|h1;(·simp;omega);·simp;omega);·intro x hx;rcases tS.1 hx with rfl|hx;(·exact hw);·exact h2 x hx);·rintro⟨h1,h2⟩;refine⟨.inr ?_,fun x hx=>h2 x (tY _ hx)⟩;rcases h1 with h1|h1;(·cases h1);·simp at h1;omega);·rw[if_neg hw];constructor;(·intro h;exact absurd h hw);·rintro⟨_,h2⟩;exact absurd (h2 w (rU ..)) hw
theorem KN(c:XC):QZ c=0↔(1<=c.turn∧c.turn<=1048576)∧(1<=c.writes.length∧c.writes.length<=10)∧∀w∈c.writes,Qz w=0:=by
 unfold QZ;by_cases h1:1<=c.turn∧c.turn<=1048576;·rw[if_pos h1];by_cases h2:c.writes.length=0;(·rw[if_pos h2];constructor;(·intro h;omega);·rintro⟨_,h,_⟩;omega);·rw[if_neg h2,LJ];constructor;(·rintro⟨h3|h3,h4⟩;(·rw[h3]at h2;simp at h2);·exact⟨h1,⟨by omega,by omega⟩,h4⟩);·rintro⟨_,h3,h4⟩;exact⟨.inr (by omega),h4⟩
 ·rw[if_neg h1];constructor;(·intro h;omega);·rintro⟨h,_⟩;exact absurd h h1
theorem cU(ws:List Zb)(i:Nat)(h:i<ws.length):B9 i (ws.drop i)=if(if 10<=i then(1:Int)else Qz (ws.getD i Qr))=0then B9 (i+1) (ws.drop (i+1))else(if 10<=i then(1:Int)else Qz (ws.getD i Qr)):=by
 rw[sD h,B9,show ws[i]=ws.getD i Qr by simp[h]]
theorem eG(ws:List Zb):B9 ws.length (ws.drop ws.length)=0:=by
 rw[List.drop_length,B9]
def XN(p:List UInt8):List UInt8:=tD p.length::p
theorem qH(p:List UInt8):(XN p).length=p.length+1:=rfl
def Gu(w:Zb):List UInt8:=if w.gone=N then[255]else XN w.value
def Yh(w:Zb):List UInt8:=XN w.name++XN w.key++Gu w
def U5(t n:Nat):List UInt8:=[tD (t/65536),tD (t/256%256),tD (t%256),tD n]
def Zj(c:XC):List UInt8:=U5 c.turn.toNat c.writes.length++c.writes.flatMap Yh
def Zw:List UInt8->Option (List UInt8×List UInt8)|[]=>H|x::r=>if x.toNat<=r.length then F (r.take x.toNat,r.drop x.toNat)else H
def uM(n k r:List UInt8):Option (Zb×List UInt8):=if r.head?=F 255then F (⟨n,k,[],N⟩,r.tail)else match Zw r with|F (v,r2)=>F (⟨n,k,v,tA⟩,r2)|none=>H
def M5(n r:List UInt8):Option (Zb×List UInt8):=match Zw r with|F (k,r2)=>uM n k r2|none=>H
def Y9(r:List UInt8):Option (Zb×List UInt8):=match Zw r with|F (n,r2)=>M5 n r2|none=>H
def Z4:Nat->List UInt8->Option (List Zb×List UInt8)|0,r=>F ([],r)|n+1,r=>match Y9 r with|F (w,r1)=>(match Z4 n r1 with|F (ws,r2)=>F (w::ws,r2)|none=>H)|none=>H
theorem D8{p:List UInt8}(h:p.length<256):(tD p.length).toNat=p.length:=by
 simp;omega
theorem Vp(p r:List UInt8)(h:p.length<256):Zw (XN p++r)=F (p,r):=by
 show Zw (tD p.length::(p++r))=_;rw[Zw,D8 h,if_pos (by simp),rN,rO]<;>rfl
theorem Gk{r p r2:List UInt8}(h:Zw r=F (p,r2)):r=XN p++r2:=by
 cases r with|nil=>cases h|cons x r=>rw[Zw]at h;by_cases hx:x.toNat<=r.length;(·rw[if_pos hx]at h;simp only[tP,sC]at h;obtain⟨rfl,rfl⟩:=h;(have hl:(r.take x.toNat).length=x.toNat:=by simp;omega);show x::r=tD (r.take x.toNat).length::(r.take x.toNat++r.drop x.toNat);rw[hl,tE];simp);·rw[if_neg hx]at h;cases h
theorem Ar{r p r2:List UInt8}(h:Zw r=F (p,r2))(x:List UInt8):Zw (r++x)=F (p,r2++x):=by
 cases r with|nil=>cases h|cons y r=>rw[Zw]at h;by_cases hy:y.toNat<=r.length;(·rw[if_pos hy]at h;simp only[tP,sC]at h;obtain⟨rfl,rfl⟩:=h;show Zw (y::(r++x))=_;rw[Zw,if_pos (by simp;omega),r8 hy,pA hy]);·rw[if_neg hy]at h;cases h
theorem AL{w:Zb}(hw:Qz w=0)(r:List UInt8):Y9 (Yh w++r)=F (w,r):=by
 obtain⟨h1,h2,h3⟩:=(Xr w).1 hw;unfold Y9 Yh;rw[tC,tC,Vp _ _ (by omega)];show M5 w.name (XN w.key++(Gu w++r))=_;unfold M5;rw[Vp _ _ (by omega)];show uM w.name w.key (Gu w++r)=_;unfold uM Gu;by_cases hg:w.gone=N;·rw[if_pos hg]at h3⊢;rw[if_pos (by rfl)];obtain⟨n,k,v,g⟩:=w;simp only at hg h3;subst hg h3;rfl
 ·rw[if_neg hg]at h3⊢;rw[if_neg,Vp _ _ (by omega)];(·obtain⟨n,k,v,g⟩:=w;simp only[Bool.not_eq_true]at hg;subst hg;rfl);·show¬(F (tD w.value.length)=F 255);intro e;have:=congrArg UInt8.toNat (pK e);rw[D8 (by omega)]at this;have h255:(255:UInt8).toNat=255:=rfl;omega
theorem Fo:∀(ws:List Zb)(_:∀w∈ws,Qz w=0)(r:List UInt8),Z4 ws.length (ws.flatMap Yh++r)=F (ws,r)|[],_,r=>rfl|w::ws,h,r=>by show Z4 (ws.length+1) ((w::ws).flatMap Yh++r)=_;rw[Z4,rH,tC,AL (h w (rU ..))];show(match Z4 ws.length (ws.flatMap Yh++r)with|F (ws',r2)=>F (w::ws',r2)|none=>H)=_;rw[Fo ws (fun x hx=>h x (tY _ hx)) r]
theorem DR{r r2:List UInt8}{w:Zb}(h:Y9 r=F (w,r2)):r=Yh w++r2:=by
 unfold Y9 at h;cases h1:Zw r with|none=>rw[h1]at h;cases h|some q=>obtain⟨n,ra⟩:=q;rw[h1]at h;have h:M5 n ra=F (w,r2):=h;unfold M5 at h;cases h2:Zw ra with|none=>rw[h2]at h;cases h|some q=>obtain⟨k,rb⟩:=q;rw[h2]at h;have h:uM n k rb=F (w,r2):=h;rw[Gk h1,Gk h2];unfold uM at h;by_cases hg:rb.head?=F 255;(·rw[if_pos hg]at h;simp only[tP,sC]at h;obtain⟨rfl,rfl⟩:=h;cases rb with|nil=>cases hg|cons x rb=>obtain rfl:x=255:=pK hg;show XN n++(XN k++255::rb)=XN n++XN k++[255]++rb;simp[tC]);·rw[if_neg hg]at h;cases h3:Zw rb with|none=>rw[h3]at h;cases h|some q=>obtain⟨v,rc⟩:=q;rw[h3]at h;simp only[tP,sC]at h;obtain⟨rfl,rfl⟩:=h;rw[Gk h3];show XN n++(XN k++(XN v++rc))=XN n++XN k++XN v++rc;simp[tC]
theorem vV:∀(n:Nat){r r2:List UInt8}{ws:List Zb},Z4 n r=F (ws,r2)->r=ws.flatMap Yh++r2∧ws.length=n|0,r,r2,ws,h=>by rw[Z4]at h;simp only[tP,sC]at h;obtain⟨rfl,rfl⟩:=h;exact⟨rfl,rfl⟩|n+1,r,r2,ws,h=>by rw[Z4]at h;cases h1:Y9 r with|none=>rw[h1]at h;cases h|some q=>obtain⟨w,ra⟩:=q;rw[h1]at h;have h:(match Z4 n ra with|F (ws,r2)=>F (w::ws,r2)|none=>H)=F (ws,r2):=h;cases h2:Z4 n ra with|none=>rw[h2]at h;cases h|some q=>obtain⟨ws',rb⟩:=q;rw[h2]at h;simp only[tP,sC]at h;obtain⟨rfl,rfl⟩:=h;obtain⟨e1,e2⟩:=vV n h2;exact⟨by rw[DR h1,e1,rH,tC],by simp[e2]⟩
theorem xA : ∀ (n : Nat) (r : List UInt8), Z4 (n + 1) r = match Z4 n r with | F (ws, r1) => (match Y9 r1 with | F (w, r2) => F (ws ++ [w], r2) | none => H) | none => H
  | 0, r => by
    rw [Z4]
    cases h : Y9 r with
    | none => simp [Z4, h]
    | some q => obtain ⟨w, ra⟩ := q; simp [Z4, h]
  | n + 1, r => by
    rw [Z4]
    cases h : Y9 r with
    | none =>
      show H = _
      rw [Z4, h]
    | some q =>
      obtain ⟨w, ra⟩ := q
      show (match Z4 (n + 1) ra with | F (ws, r2) => F (w :: ws, r2) | none => H) = _
      rw [xA n ra, show Z4 (n + 1) r = (match Z4 n ra with | F (ws, r2) => F (w :: ws, r2) | none => H) by rw [Z4, h]]
      cases h2 : Z4 n ra with
      | none => rfl
      | some q =>
        obtain ⟨ws, rb⟩ := q
        show (match (match Y9 rb with | F (w, r2) => F (ws ++ [w], r2) | none => H) with | F (ws, r2) => F (w :: ws, r2) | none => H) = (match Y9 rb with | F (w', r2) => F (w :: ws ++ [w'], r2) | none => H)
        cases Y9 rb with
        | none => rfl
        | some q => rfl
def V9(b:List UInt8):Nat:=65536*(b.getD 0 0).toNat+256*(b.getD 1 0).toNat+(b.getD 2 0).toNat
def G2(b:List UInt8):Option (List Zb×List UInt8):=Z4 (b.getD 3 0).toNat (b.drop 4)
def YH(b:List UInt8):Int:=if 4000<b.length then 1 else if b.length<4then 14 else match G2 b with|none=>14|F (ws,r)=>if r.length=0then QZ ⟨(V9 b:Int),ws⟩else 4
def JB(b:List UInt8):XC:=if YH b=0then(match G2 b with|F (ws,_)=>⟨(V9 b:Int),ws⟩|none=>Zn)else Zn
theorem PJ(t n:Nat):(U5 t n).length=4:=rfl
theorem IC(t n:Nat)(x:List UInt8)(ht:t<=1048576):V9 (U5 t n++x)=t:=by
 show 65536*(tD (t/65536)).toNat+256*(tD (t/256%256)).toNat+(tD (t%256)).toNat=t;simp only[pS];omega
theorem Hx(t n:Nat)(x:List UInt8)(hn:n<=10):((U5 t n++x).getD 3 0).toNat=n:=by
 show(tD n).toNat=n;simp;omega
theorem Hd(t n:Nat)(x:List UInt8):(U5 t n++x).drop 4=x:=rfl
theorem So{w:Zb}(hw:Qz w=0):(Yh w).length=3+w.name.length+w.key.length+w.value.length∧(Yh w).length<=59:=by
 obtain⟨h1,h2,h3⟩:=(Xr w).1 hw;unfold Yh Gu;by_cases hg:w.gone=N;·rw[if_pos hg]at h3⊢;rw[h3];simp only[T,qH,rY,List.length_nil];omega
 ·rw[if_neg hg]at h3⊢;simp only[T,qH];omega
def Lh(ws:List Zb):Nat:=(ws.map fun w=>3+w.name.length+w.key.length+w.value.length).sum
theorem xK:∀(ws:List Zb)(_:∀w∈ws,Qz w=0),(ws.flatMap Yh).length=Lh ws∧(ws.flatMap Yh).length<=59*ws.length|[],_=>by simp[Lh]|w::ws,h=>by obtain⟨i1,i2⟩:=xK ws (fun x hx=>h x (tY _ hx));obtain⟨j1,j2⟩:=So (h w (rU ..));rw[rH,T];unfold Lh at i1⊢;rw[oE,List.sum_cons,rY];omega
theorem U4{c:XC}(h:QZ c=0):(Zj c).length=4+Lh c.writes∧(Zj c).length<=594:=by
 obtain⟨_,h2,h3⟩:=(KN c).1 h;obtain⟨i1,i2⟩:=xK c.writes h3;unfold Zj;rw[T,PJ];omega
theorem DU{c:XC}(h:QZ c=0)(x:List UInt8):G2 (Zj c++x)=F (c.writes,x)∧V9 (Zj c++x)=c.turn.toNat:=by
 obtain⟨h1,h2,h3⟩:=(KN c).1 h;unfold G2 Zj;rw[tC,Hx _ _ _ h2.2,Hd,IC _ _ _ (by omega)];exact⟨Fo _ h3 _,rfl⟩
theorem Du{c:XC}(h:QZ c=0):YH (Zj c)=0∧JB (Zj c)=c:=by
 obtain⟨h1,h2,h3⟩:=(KN c).1 h;obtain⟨s1,s2⟩:=U4 h;obtain⟨b1,b2⟩:=DU h [];rw[tV]at b1 b2;have hc:(⟨(V9 (Zj c):Int),c.writes⟩:XC)=c:=by rw[b2,Int.toNat_of_nonneg (by omega)]
 have hd:YH (Zj c)=0:=by rw[YH,if_neg (by omega),if_neg (by omega),b1];show(if([]:List UInt8).length=0then QZ ⟨(V9 (Zj c):Int),c.writes⟩else 4)=0;rw[if_pos (show([]:List UInt8).length=0from rfl),hc,h]
 refine⟨hd,?_⟩;rw[JB,if_pos hd,b1];exact hc
theorem Mu{b:List UInt8}(h:YH b=0):QZ (JB b)=0∧Zj (JB b)=b:=by
 have hC:JB b=(match G2 b with|F (ws,_)=>⟨(V9 b:Int),ws⟩|none=>Zn):=by rw[JB,if_pos h]
 rw[YH]at h;by_cases h1:4000<b.length;·rw[if_pos h1]at h;omega
 rw[if_neg h1]at h;by_cases h2:b.length<4;·rw[if_pos h2]at h;omega
 rw[if_neg h2]at h;cases hb:G2 b with|none=>rw[hb]at h;simp at h|some q=>obtain⟨ws,r⟩:=q;rw[hb]at h hC;have h:(if r.length=0then QZ ⟨(V9 b:Int),ws⟩else 4)=0:=h;have hC:JB b=⟨(V9 b:Int),ws⟩:=hC;by_cases hr:r.length=0;(·rw[if_pos hr]at h;obtain rfl:r=[]:=V hr;rw[hC];refine⟨h,?_⟩;obtain⟨k1,k2,k3⟩:=(KN _).1 h;unfold G2 at hb;obtain⟨e1,e2⟩:=vV _ hb;rw[tV]at e1;show U5 ((V9 b:Int)).toNat ws.length++ws.flatMap Yh=b;rw[<-e1,e2,rI];match b,h2 with|x0::x1::x2::x3::t,_=>show U5 (65536*x0.toNat+256*x1.toNat+x2.toNat) x3.toNat++t=_;have a0:=x0.toNat_lt;have a1:=x1.toNat_lt;have a2:=x2.toNat_lt;have a3:=x3.toNat_lt;unfold U5;rw[show(65536*x0.toNat+256*x1.toNat+x2.toNat)/65536=x0.toNat by omega,show(65536*x0.toNat+256*x1.toNat+x2.toNat)/256%256=x1.toNat by omega,show(65536*x0.toNat+256*x1.toNat+x2.toNat)%256=x2.toNat by omega];simp);·rw[if_neg hr]at h;omega
def FJ(b:List UInt8):List UInt8:=tD (b.length/256)::tD (b.length%256)::b
theorem zW(b:List UInt8):(FJ b).length=b.length+2:=rfl
def ZI(D:List UInt8->List UInt8)(c:XC):List UInt8:=FJ (Zj c)++D (FJ (Zj c))
def Zi(r:List UInt8):Nat:=256*(r.getD 0 0).toNat+(r.getD 1 0).toNat
def XF(D:List UInt8->List UInt8)(r:List UInt8):Option (XC×List UInt8):=if r.length<6then H else if r.length<Zi r+6∨4000<Zi r+2then H else if D (r.take (Zi r+2))=(r.drop (Zi r+2)).take 4then(if YH ((r.drop 2).take (Zi r))=0then F (JB ((r.drop 2).take (Zi r)),r.drop (Zi r+6))else H)else H
theorem Aj{D:List UInt8->List UInt8}{r r2:List UInt8}{c:XC}(h:XF D r=F (c,r2)):∃m,6<=m∧m<=r.length∧r2=r.drop m∧QZ c=0:=by
 unfold XF at h;by_cases h1:r.length<6;·rw[if_pos h1]at h;cases h
 rw[if_neg h1]at h;by_cases h2:r.length<Zi r+6∨4000<Zi r+2;·rw[if_pos h2]at h;cases h
 rw[if_neg h2]at h;by_cases h3:D (r.take (Zi r+2))=(r.drop (Zi r+2)).take 4;·rw[if_pos h3]at h;by_cases h4:YH ((r.drop 2).take (Zi r))=0;(·rw[if_pos h4]at h;simp only[tP,sC]at h;obtain⟨rfl,rfl⟩:=h;exact⟨Zi r+6,by omega,by omega,rfl,(Mu h4).1⟩);·rw[if_neg h4]at h;cases h
 ·rw[if_neg h3]at h;cases h
theorem E7{b:List UInt8}(h:b.length<65536)(x:List UInt8):Zi (FJ b++x)=b.length:=by
 show 256*(tD (b.length/256)).toNat+(tD (b.length%256)).toNat=b.length;simp only[pS];omega
theorem Pu{D:List UInt8->List UInt8}(hD:∀x,(D x).length=4)(c:XC):(ZI D c).length=(Zj c).length+6:=by
 unfold ZI;rw[T,hD,zW]
theorem Ab{D:List UInt8->List UInt8}(hD:∀x,(D x).length=4){c:XC}(h:QZ c=0)(r:List UInt8):XF D (ZI D c++r)=F (c,r):=by
 obtain⟨s1,s2⟩:=U4 h;obtain⟨d1,d2⟩:=Du h;have hl:=Pu hD c;have hz:Zi (ZI D c++r)=(Zj c).length:=by unfold ZI;rw[tC];exact E7 (by omega) _
 have ht:(ZI D c++r).take ((Zj c).length+2)=FJ (Zj c):=by unfold ZI;rw[tC];exact rN (zW _)
 have hd:(ZI D c++r).drop ((Zj c).length+2)=D (FJ (Zj c))++r:=by unfold ZI;rw[tC];exact rO (zW _)
 have hm:((ZI D c++r).drop 2).take (Zj c).length=Zj c:=by unfold ZI;rw[tC];exact rN rfl
 have he:(ZI D c++r).drop ((Zj c).length+6)=r:=rO hl;have hlen:(ZI D c++r).length=(Zj c).length+6+r.length:=by rw[T,hl]
 unfold XF;rw[if_neg (by omega),hz,if_neg (by omega),ht,hd,hm,he,if_pos (rN (hD _)).symm,if_pos d1,d2]
theorem Ld{D:List UInt8->List UInt8}(hD:∀x,(D x).length=4){c:XC}(h:QZ c=0)(k:Nat)(hk:k<(ZI D c).length):XF D ((ZI D c).take k)=H:=by
 obtain⟨s1,s2⟩:=U4 h;have hl:=Pu hD c;have hkl:((ZI D c).take k).length=k:=by simp;omega
 unfold XF;by_cases h6:k<6;·rw[if_pos (by omega)]
 ·(have hz:Zi ((ZI D c).take k)=(Zj c).length:=by(have hz:Zi (ZI D c++[])=(Zj c).length:=by unfold ZI;rw[tC];exact E7 (by omega) _);rw[tV]at hz;rw[<-hz];unfold Zi;simp only[List.getD_eq_getElem?_getD,pU];rw[if_pos (by omega),if_pos (by omega)]);rw[if_neg (by omega),hz,if_pos (by omega)]
def Kx(D:List UInt8->List UInt8)(turn:Nat)(r:List UInt8):List XC×List UInt8:=match h:XF D r with|F (c,r2)=>if c.turn=(turn:Int)then(c::(Kx D (turn+1) r2).1,(Kx D (turn+1) r2).2)else([],r)|none=>([],r)termination_by r.length decreasing_by
 all_goals obtain⟨m,h1,h2,h3,_⟩:=Aj h;rw[h3,pY];omega
theorem Ok{D:List UInt8->List UInt8}{turn:Nat}{r r2:List UInt8}{c:XC}(h:XF D r=F (c,r2))(ht:c.turn=(turn:Int)):Kx D turn r=(c::(Kx D (turn+1) r2).1,(Kx D (turn+1) r2).2):=by
 rw[Kx];split;·next c' r' h'=>rw[h]at h';simp only[tP,sC]at h';obtain⟨rfl,rfl⟩:=h';rw[if_pos ht]
 ·next h'=>rw[h]at h';cases h'
theorem Ij{D:List UInt8->List UInt8}{turn:Nat}{r r2:List UInt8}{c:XC}(h:XF D r=F (c,r2))(ht:c.turn≠(turn:Int)):Kx D turn r=([],r):=by
 rw[Kx];split;·next c' r' h'=>rw[h]at h';simp only[tP,sC]at h';obtain⟨rfl,rfl⟩:=h';rw[if_neg ht]
 ·rfl
theorem T4{D:List UInt8->List UInt8}{turn:Nat}{r:List UInt8}(h:XF D r=H):Kx D turn r=([],r):=by
 rw[Kx];split;·next c' r' h'=>rw[h]at h';cases h'
 ·rfl
theorem IF(D:List UInt8->List UInt8):XF D []=H:=by
 unfold XF;rw[if_pos (by simp)]
def qW:Nat->List XC->Prop|_,[]=>True|t,c::cs=>c.turn=(t:Int)∧QZ c=0∧qW (t+1) cs
theorem qW.take:∀{t:Nat}{cs:List XC}(_:qW t cs)(j:Nat),qW t (cs.take j)|_,[],_,j=>by rw[oF];trivial|_,c::cs,_,0=>trivial|t,c::cs,h,j+1=>⟨h.1,h.2.1,qW.take h.2.2 j⟩
def QV(D:List UInt8->List UInt8)(cs:List XC):List UInt8:=cs.flatMap (ZI D)
theorem KD(D:List UInt8->List UInt8)(c:XC)(cs:List XC):QV D (c::cs)=ZI D c++QV D cs:=rH
theorem Vx(D:List UInt8->List UInt8)(a b:List XC):QV D (a++b)=QV D a++QV D b:=List.flatMap_append
theorem Po(D:List UInt8->List UInt8)(c:XC):QV D [c]=ZI D c:=by
 simp[QV]
def DV(D:List UInt8->List UInt8)(r:List UInt8):Nat:=r.length-(Kx D 1 r).2.length
theorem Bl{D:List UInt8->List UInt8}(hD:∀x,(D x).length=4):∀{t:Nat}{cs:List XC}(_:qW t cs)(k:Nat),∃j,j<=cs.length∧Kx D t ((QV D cs).take k)=(cs.take j,((QV D cs).take k).drop (QV D (cs.take j)).length)∧(QV D (cs.take j)).length<=k∧(QV D (cs.take j)).length<=(QV D cs).length∧(j<cs.length->k<(QV D (cs.take (j+1))).length)|t,[],_,k=>⟨0,by simp,by show Kx D t (([]:List UInt8).take k)=_;rw[oF,T4 (IF D)];simp[QV],by simp[QV],by simp[QV],fun h=>by simp at h⟩|t,c::cs,h,k=>by by_cases hk:k<(ZI D c).length;(·refine⟨0,by simp,?_,by simp[QV],by simp[QV],fun _=>?_⟩;(·rw[KD,r8 (by omega),T4 (Ld hD h.2.1 k hk)];simp[QV]);·show k<(QV D [c]).length;rw[Po];exact hk);·obtain⟨j,h1,h2,h3,h4,h5⟩:=Bl hD h.2.2 (k-(ZI D c).length);(have ht:(QV D (c::cs)).take k=ZI D c++(QV D cs).take (k-(ZI D c).length):=by rw[KD,List.take_append,pG (by omega)]);refine⟨j+1,by simp;omega,?_,?_,?_,fun hj=>?_⟩;(·rw[ht,Ok (Ab hD h.2.1 _) h.1,h2,sG,KD];rw[T,<-List.drop_drop,rO rfl]);(·rw[sG,KD,T];omega);(·rw[sG,KD,KD,T,T];omega);·have:=h5 (by simpa using hj);rw[sG,KD,T];omega
theorem UR(D:List UInt8->List UInt8)(cs:List XC)(i j:Nat)(h:i<=j):(QV D (cs.take i)).length<=(QV D (cs.take j)).length:=by
 have:cs.take i=(cs.take j).take i:=by rw[List.take_take,oD h]
 rw[this];conv=>rhs;rw[<-tE i (cs.take j),Vx]
 rw[T];omega
theorem RG{D:List UInt8->List UInt8}{cs:List XC}{k j i:Nat}(hi:i<=cs.length)(hj:j<cs.length->k<(QV D (cs.take (j+1))).length)(hk:(QV D (cs.take i)).length<=k):i<=j:=by
 by_cases h:i<=j;·exact h
 ·have:=UR D cs (j+1) i (by omega);have:=hj (by omega);omega
theorem EY(t:PL)(p:Pr)(h:∀q∈t,(1<=q.1.length∧q.1.length<=16)∧q.2.length<=32)(hp:(1<=p.1.length∧p.1.length<=16)∧p.2.length<=32):∀q∈J9 t p,(1<=q.1.length∧q.1.length<=16)∧q.2.length<=32:=by
 intro q hq;rcases MD t p q hq with rfl|hq;·exact hp
 ·exact h q hq
theorem LZ:∀(t:PL)(p:Pr)(k:Nat),k<=t.length->(∀j,j<k->YI (t.getD j ([],[])).1 p.1=N)->(k<t.length->YI (t.getD k ([],[])).1 p.1=tA)->J9 t p=if k<t.length∧(t.getD k ([],[])).1=p.1then t.set k p else t.take k++([p]++t.drop k)|[],p,k,hk,_,_=>by(obtain rfl:k=0:=by simpa using hk);simp[J9]|q::r,p,0,_,_,h2=>by have h:=h2 (by simp);simp only[tX]at h;rw[J9,if_neg (by rw[h];simp)];by_cases e:q.1=p.1;(·rw[if_pos e,if_pos ⟨by simp,by simpa using e⟩];simp);·rw[if_neg e,if_neg (fun h=>e (by simpa using h.2))];simp|q::r,p,k+1,hk,h1,h2=>by have h:=h1 0 (by omega);simp only[tX]at h;rw[J9,if_pos h,LZ r p k (by simpa using hk) (fun j hj=>by simpa using h1 (j+1) (by omega)) (fun hk=>by simpa using h2 (by simpa using hk))];by_cases e:k<r.length∧(r.getD k ([],[])).1=p.1;(·rw[if_pos e,if_pos ⟨by simpa using e.1,by simpa using e.2⟩];simp);·rw[if_neg e,if_neg (fun h=>e ⟨by simpa using h.1,by simpa using h.2⟩)];simp
theorem dD(t:PL)(p:Pr)(h:ZH t)(hp:(1<=p.1.length∧p.1.length<=16)∧p.2.length<=32)(hl:t.length<60):Ke t p=0∧Vo t p=J9 t p∧ZH (J9 t p):=by
 have h0:VW t p=0:=by rw[VW,if_pos ((YP t).2 h)];exact(Jz p).2 hp
 have hlen:=LD t p;have h1:Ke t p=0:=by rw[Ke,if_pos h0,if_neg (by omega)]
 exact⟨h1,by rw[Vo,if_pos h1],⟨by omega,EY t p h.pairs hp,Pc t p h.rises⟩⟩
def u7(m:Nat)(l:FL):Prop:=∀n,(YX l n).length<=m
theorem Nm:u7 0 []:=fun n=>by
 rw[gV];simp
theorem bL(l:FL)(w:Zb):(XS l w).length<=(YX l w.name).length+1:=by
 unfold XS;by_cases hg:w.gone=N;·rw[if_pos hg];have:=Mt (YX l w.name) w.key;omega
 ·rw[if_neg hg];exact LD _ _
theorem jL{l:FL}{m:Nat}(hr:XI l)(h:u7 m l)(w:Zb):u7 (m+1) (QW l w):=fun n=>by
 rw[SI hr];by_cases e:w.name=n;·rw[if_pos e];have:=bL l w;have:=h w.name;omega
 ·rw[if_neg e];have:=h n;omega
theorem fM{l:FL}{m:Nat}(h:ZW l){w:Zb}(hw:Qz w=0)(hs:u7 m l)(hm:m<60):G8 l w=0:=by
 obtain⟨_,hk,hv⟩:=(Xr w).1 hw;have hT:=K9 h w.name;have hl:=hs w.name;unfold G8;by_cases hg:w.gone=N;·rw[if_pos hg];exact vT hT hk
 ·rw[if_neg hg]at hv⊢;exact(dD _ _ hT ⟨hk,hv⟩ (by omega)).1
theorem zV{l:FL}{m:Nat}(h:ZW l){w:Zb}(hw:Qz w=0)(hs:u7 m l)(hm:m<60):XK l w=if 8<(QW l w).length then 11 else 0:=by
 rw[XK,if_pos (fM h hw hs hm)]
theorem P7(l:FL)(w:Zb):(QW l w).length<=l.length+1:=by
 unfold QW;by_cases hn:(XS l w).length=0;·rw[if_pos hn];have:=NP l w.name;omega
 ·rw[if_neg hn];exact WQ _ _
theorem vD:∀(ws:List Zb)(l:FL),ZW l->ZP l ws=0->ZW (Jd l ws)|[],l,h,_=>h|w::ws,l,h,he=>by rw[ZP]at he;by_cases hw:Qz w=0;(·rw[if_pos hw]at he;by_cases h2:XK l w=0;(·rw[if_pos h2]at he;exact vD ws _ (Up h hw h2) he);·rw[if_neg h2]at he;exact absurd he h2);·rw[if_neg hw]at he;exact absurd he hw
theorem RQ{l:FL}(h:ZW l)(ws:List Zb)(hn:ws.length<=10):QN l ws=ZP l ws:=by
 rw[QN,if_pos ((XM l).2 h),if_neg (by omega)]
theorem Iu{l:FL}(h:ZW l)(ws:List Zb)(hn:ws.length<=10):ZA l ws=if ZP l ws=0then Jd l ws else[]:=by
 rw[ZA,RQ h ws hn]
def qD(l:FL)(n:List UInt8):Int:=if Q9 l=0then Qt n.length else Q9 l
theorem qT{l:FL}{n:List UInt8}(h:qD l n=0):ZW l∧(1<=n.length∧n.length<=8):=by
 unfold qD at h;by_cases h0:Q9 l=0;·rw[if_pos h0]at h;exact⟨(XM l).1 h0,(ZG _).1 h⟩
 ·rw[if_neg h0]at h;exact absurd h h0
def VF(l:FL)(n k:List UInt8):Int:=if qD l n=0then Xf (YX l n) k else qD l n
def U9(l:FL)(n k:List UInt8):Bool:=if qD l n=0then Ej (YX l n) k else tA
def Vc(l:FL)(n k:List UInt8):List UInt8:=if qD l n=0then En (YX l n) k else[]
def YE(l:FL)(n f t:List UInt8):Int:=if qD l n=0then YA (YX l n) f t else qD l n
def Kg(l:FL)(n f t:List UInt8):PL:=if qD l n=0then KH (YX l n) f t else[]
structure Rq where
  kind : Int
  name : List UInt8
  key : List UInt8
  last : List UInt8
  value : List UInt8
def V3:Rq:=⟨0,[],[],[],[]⟩
def Q4(k:Int):Bool:=tI (2<=k∧k<=5)||tI (k=8)
def yQ(r:Rq):Int:=if Q4 r.kind=N then(if Qt r.name.length=0then(if Qq r.key.length=0then(if r.kind=3then Qq r.last.length else 0)else Qq r.key.length)else Qt r.name.length)else 0
def Ed(r:Rq):Int:=if Q4 r.kind=tA∧0<r.name.length+r.key.length then 4 else if(r.kind≠3∧0<r.last.length)∨(r.kind≠4∧0<r.value.length)then 4 else 0
def Yi(r:Rq):Int:=if 1<=r.kind∧r.kind<=8then(if yQ r=0then(if 32<r.value.length then 1 else Ed r)else yQ r)else 5
structure XY(r:Rq):Prop where kind:1<=r.kind∧r.kind<=8name:Q4 r.kind=N->1<=r.name.length∧r.name.length<=8key:Q4 r.kind=N->1<=r.key.length∧r.key.length<=16last:r.kind=3->1<=r.last.length∧r.last.length<=16value:r.value.length<=32noName:Q4 r.kind=tA->r.name=[]noKey:Q4 r.kind=tA->r.key=[]noLast:r.kind≠3->r.last=[]noValue:r.kind≠4->r.value=[]
theorem Fp(r:Rq):yQ r=0↔(Q4 r.kind=N->(1<=r.name.length∧r.name.length<=8)∧(1<=r.key.length∧r.key.length<=16)∧(r.kind=3->1<=r.last.length∧r.last.length<=16)):=by
 unfold yQ;by_cases h:Q4 r.kind=N;·rw[if_pos h];by_cases h1:Qt r.name.length=0;(·rw[if_pos h1];by_cases h2:Qq r.key.length=0;(·rw[if_pos h2];by_cases h3:r.kind=3;(·rw[if_pos h3,Zx];exact⟨fun e _=>⟨(ZG _).1 h1,(Zx _).1 h2,fun _=>e⟩,fun e=>(e h).2.2 h3⟩);·rw[if_neg h3];exact⟨fun _ _=>⟨(ZG _).1 h1,(Zx _).1 h2,fun e=>absurd e h3⟩,fun _=>rfl⟩);·rw[if_neg h2];exact⟨fun e=>absurd e h2,fun e=>(Zx _).2 (e h).2.1⟩);·rw[if_neg h1];exact⟨fun e=>absurd e h1,fun e=>(ZG _).2 (e h).1⟩
 ·rw[if_neg h];exact⟨fun _ e=>absurd e h,fun _=>rfl⟩
theorem WT{l:List UInt8}(h:¬0<l.length):l=[]:=V (by
 omega)
theorem Sk(r:Rq):Ed r=0↔(Q4 r.kind=tA->r.name=[]∧r.key=[])∧(r.kind≠3->r.last=[])∧(r.kind≠4->r.value=[]):=by
 unfold Ed;by_cases h1:Q4 r.kind=tA∧0<r.name.length+r.key.length;·rw[if_pos h1];refine⟨fun e=>(by cases e),fun e=>?_⟩;have:=e.1 h1.1;rw[this.1,this.2]at h1;simp at h1
 ·rw[if_neg h1];by_cases h2:(r.kind≠3∧0<r.last.length)∨(r.kind≠4∧0<r.value.length);(·rw[if_pos h2];refine⟨fun e=>(by cases e),fun e=>?_⟩;rcases h2 with h2|h2;(·rw[e.2.1 h2.1]at h2;simp at h2);·rw[e.2.2 h2.1]at h2;simp at h2);·rw[if_neg h2];refine⟨fun _=>⟨fun h=>?_,fun h=>WT fun e=>h2 (.inl ⟨h,e⟩),fun h=>WT fun e=>h2 (.inr ⟨h,e⟩)⟩,fun _=>rfl⟩;have hz:¬0<r.name.length+r.key.length:=fun e=>h1 ⟨h,e⟩;exact⟨WT (by omega),WT (by omega)⟩
theorem X8(r:Rq):Yi r=0↔XY r:=by
 unfold Yi;by_cases h0:1<=r.kind∧r.kind<=8;·rw[if_pos h0];by_cases h1:yQ r=0;(·rw[if_pos h1];have hp:=(Fp r).1 h1;by_cases h2:32<r.value.length;(·rw[if_pos h2];exact⟨fun e=>(by cases e),fun e=>by have:=e.value;omega⟩);·rw[if_neg h2,Sk];refine⟨fun⟨e1,e2,e3⟩=>⟨h0,fun h=>(hp h).1,fun h=>(hp h).2.1,fun h=>(hp (by rw[h];decide)).2.2 h,by omega,fun h=>(e1 h).1,fun h=>(e1 h).2,e2,e3⟩,fun e=>⟨fun h=>⟨e.noName h,e.noKey h⟩,e.noLast,e.noValue⟩⟩);·rw[if_neg h1];refine⟨fun e=>absurd e h1,fun e=>(Fp r).2 fun h=>⟨e.name h,e.key h,e.last⟩⟩
 ·rw[if_neg h0];exact⟨fun e=>(by cases e),fun e=>absurd e.kind h0⟩
def Xo(c:Bool)(p:List UInt8):List UInt8:=if c=N then XN p else[]
def Jg(c:Bool)(r:List UInt8):Option (List UInt8×List UInt8):=if c=N then Zw r else F ([],r)
theorem yM(c:Bool)(p r:List UInt8)(h:c=N->p.length<256)(h0:c=tA->p=[]):Jg c (Xo c p++r)=F (p,r):=by
 cases c with|true=>exact Vp p r (h rfl)|false=>rw[h0 rfl];rfl
theorem VN{c:Bool}{r p r2:List UInt8}(h:Jg c r=F (p,r2)):r=Xo c p++r2:=by
 cases c with|true=>exact Gk h|false=>(obtain⟨rfl,rfl⟩:[]=p∧r=r2:=by simpa[Jg]using h);rfl
theorem jB{c:Bool}{r p r2:List UInt8}(h:Jg c r=F (p,r2))(x:List UInt8):Jg c (r++x)=F (p,r2++x):=by
 cases c with|true=>exact Ar h x|false=>(obtain⟨rfl,rfl⟩:[]=p∧r=r2:=by simpa[Jg]using h);rfl
theorem Ih{c:Bool}{r p r2:List UInt8}(h:Jg c r=F (p,r2))(hc:c=tA):p=[]:=by
 subst hc;have:[]=p∧r=r2:=by simpa[Jg]using h
 exact this.1.symm
def zM(r:Rq):List UInt8:=Xo (Q4 r.kind) r.name++(Xo (Q4 r.kind) r.key++(Xo (tI (r.kind=3)) r.last++Xo (tI (r.kind=4)) r.value))
def Jn(r:Rq):List UInt8:=tD r.kind.toNat::zM r
def Vk(k:Int)(n q l r:List UInt8):Option (Rq×List UInt8):=match Jg (tI (k=4)) r with|F (v,r2)=>F (⟨k,n,q,l,v⟩,r2)|none=>H
def Vl(k:Int)(n q r:List UInt8):Option (Rq×List UInt8):=match Jg (tI (k=3)) r with|F (l,r2)=>Vk k n q l r2|none=>H
def Vj(k:Int)(n r:List UInt8):Option (Rq×List UInt8):=match Jg (Q4 k) r with|F (q,r2)=>Vl k n q r2|none=>H
def Yf(k:Int)(r:List UInt8):Option (Rq×List UInt8):=match Jg (Q4 k) r with|F (n,r2)=>Vj k n r2|none=>H
theorem Nc{r:Rq}(h:XY r)(x:List UInt8):Yf r.kind (zM r++x)=F (r,x):=by
 have e1:=yM (Q4 r.kind) r.name (Xo (Q4 r.kind) r.key++(Xo (tI (r.kind=3)) r.last++(Xo (tI (r.kind=4)) r.value++x))) (fun e=>by have:=h.name e;omega) h.noName;have e2:=yM (Q4 r.kind) r.key (Xo (tI (r.kind=3)) r.last++(Xo (tI (r.kind=4)) r.value++x)) (fun e=>by have:=h.key e;omega) h.noKey;have e3:=yM (tI (r.kind=3)) r.last (Xo (tI (r.kind=4)) r.value++x) (fun e=>by have:=h.last (by simpa using e);omega) (fun e=>h.noLast (by simpa using e));have e4:=yM (tI (r.kind=4)) r.value x (fun _=>by have:=h.value;omega) (fun e=>h.noValue (by simpa using e));rw[zM,tC,tC,tC,Yf,e1];show Vj _ _ _=_;rw[Vj,e2];show Vl _ _ _ _=_;rw[Vl,e3];show Vk _ _ _ _ _=_;rw[Vk,e4]
theorem kP{k:Int}{b x:List UInt8}{r:Rq}(h:Yf k b=F (r,x)):r.kind=k∧∃r1 r2 r3,Jg (Q4 k) b=F (r.name,r1)∧Jg (Q4 k) r1=F (r.key,r2)∧Jg (tI (k=3)) r2=F (r.last,r3)∧Jg (tI (k=4)) r3=F (r.value,x):=by
 rw[Yf]at h;match h1:Jg (Q4 k) b with|none=>rw[h1]at h;cases h|F (n,r1)=>rw[h1]at h;replace h:Vj k n r1=F (r,x):=h;rw[Vj]at h;match h2:Jg (Q4 k) r1 with|none=>rw[h2]at h;cases h|F (q,r2)=>rw[h2]at h;replace h:Vl k n q r2=F (r,x):=h;rw[Vl]at h;match h3:Jg (tI (k=3)) r2 with|none=>rw[h3]at h;cases h|F (l,r3)=>rw[h3]at h;replace h:Vk k n q l r3=F (r,x):=h;rw[Vk]at h;match h4:Jg (tI (k=4)) r3 with|none=>rw[h4]at h;cases h|F (v,r4)=>rw[h4]at h;(obtain⟨rfl,rfl⟩:(⟨k,n,q,l,v⟩:Rq)=r∧r4=x:=by simpa using h);exact⟨rfl,r1,r2,r3,rfl,h2,h3,h4⟩
theorem dH{k:Int}{b r1 r2 r3 x n q l v:List UInt8}(h1:Jg (Q4 k) b=F (n,r1))(h2:Jg (Q4 k) r1=F (q,r2))(h3:Jg (tI (k=3)) r2=F (l,r3))(h4:Jg (tI (k=4)) r3=F (v,x)):Yf k b=F (⟨k,n,q,l,v⟩,x):=by
 rw[Yf,h1];show Vj _ _ _=_;rw[Vj,h2];show Vl _ _ _ _=_;rw[Vl,h3];show Vk _ _ _ _ _=_;rw[Vk,h4]
theorem Tt{k:Int}{b x:List UInt8}{r:Rq}(h:Yf k b=F (r,x)):b=zM r++x∧r.kind=k:=by
 obtain⟨hk,r1,r2,r3,h1,h2,h3,h4⟩:=kP h;refine⟨?_,hk⟩;rw[zM,hk,VN h1,VN h2,VN h3,VN h4];simp[tC]
theorem Wo{k:Int}{b y:List UInt8}{r:Rq}(h:Yf k b=F (r,y))(x:List UInt8):Yf k (b++x)=F (r,y++x):=by
 obtain⟨hk,r1,r2,r3,h1,h2,h3,h4⟩:=kP h;have:=dH (jB h1 x) (jB h2 x) (jB h3 x) (jB h4 x);rw[this,<-hk]
def Ul(b:List UInt8):Int:=((b.getD 0 0).toNat:Int)
def QI(b:List UInt8):Int:=if 4000<b.length then 1 else if b.length=0then 14 else if 1<=Ul b∧Ul b<=8then(match Yf (Ul b) (b.drop 1)with|none=>14|F (r,x)=>if x.length=0then Yi r else 4)else 5
def Qu(b:List UInt8):Rq:=if QI b=0then(match Yf (Ul b) (b.drop 1)with|F (r,_)=>r|none=>V3)else V3
theorem Nr{r:Rq}(h:XY r)(x:List UInt8):Ul (Jn r++x)=r.kind∧(Jn r++x).drop 1=zM r++x:=by
 have h0:=h.kind;refine⟨?_,rfl⟩;show(((tD r.kind.toNat).toNat:Nat):Int)=r.kind;simp;omega
theorem KU(c:Bool)(p:List UInt8):(Xo c p).length<=p.length+1:=by
 cases c with|true=>exact sA _|false=>exact Nat.zero_le _
theorem Tf{r:Rq}(h:XY r):(Jn r).length<=78∧1<=(Jn r).length:=by
 have l1:=KU (Q4 r.kind) r.name;have l2:=KU (Q4 r.kind) r.key;have l3:=KU (tI (r.kind=3)) r.last;have l4:=KU (tI (r.kind=4)) r.value;have k1:r.name.length<=8:=by by_cases e:Q4 r.kind=N;(·exact(h.name e).2);·rw[h.noName (by simpa using e)];simp
 have k2:r.key.length<=16:=by by_cases e:Q4 r.kind=N;(·exact(h.key e).2);·rw[h.noKey (by simpa using e)];simp
 have k3:r.last.length<=16:=by by_cases e:r.kind=3;(·exact(h.last e).2);·rw[h.noLast e];simp
 have k4:=h.value;have e:(Jn r).length=1+(Xo (Q4 r.kind) r.name).length+(Xo (Q4 r.kind) r.key).length+(Xo (tI (r.kind=3)) r.last).length+(Xo (tI (r.kind=4)) r.value).length:=by rw[Jn,zM,rY,T,T,T];omega
 omega
theorem C3{r:Rq}(h:XY r):QI (Jn r)=0∧Qu (Jn r)=r:=by
 have hl:=Tf h;obtain⟨e1,e2⟩:=Nr h [];rw[tV]at e1 e2;have e3:=Nc h [];have e:QI (Jn r)=0:=by rw[QI,if_neg (by omega),if_neg (by omega),e1,if_pos h.kind,e2,e3];show(if([]:List UInt8).length=0then Yi r else 4)=0;rw[if_pos (by simp)];exact(X8 r).2 h
 refine⟨e,?_⟩;rw[Qu,if_pos e,e1,e2,e3]
theorem i9{r:Rq}(h:XY r)(k:Nat)(hk:k<(Jn r).length):QI ((Jn r).take k)=14:=by
 have hl2:=Tf h;have hlen:((Jn r).take k).length=k:=by rw[List.length_take];omega
 rw[QI,if_neg (by omega)];by_cases h0:k=0;·rw[if_pos (by omega)]
 ·rw[if_neg (by omega)];have hsp:(Jn r).take k++(Jn r).drop k=Jn r:=tE _ _;(have hkd:Ul ((Jn r).take k)=r.kind:=by obtain⟨e1,_⟩:=Nr h [];rw[tV]at e1;rw[<-e1];match k,h0 with|k+1,_=>rfl);rw[hkd,if_pos h.kind];match hD:Yf r.kind (((Jn r).take k).drop 1)with|none=>rfl|F (r',y)=>have hm:=Wo hD ((Jn r).drop k);(have hd:((Jn r).take k).drop 1++(Jn r).drop k=zM r:=by match k,h0 with|k+1,_=>show(zM r).take k++(zM r).drop k=zM r;exact tE _ _);rw[hd]at hm;have hb:=Nc h [];rw[tV,hm]at hb;(have he:y++(Jn r).drop k=[]:=by have:=congrArg (fun o=>o.map Prod.snd) hb;simpa using this);have:=congrArg List.length he;rw[T,pY]at this;simp at this;omega
theorem Yt{b:List UInt8}(h:QI b=0):Yi (Qu b)=0∧Jn (Qu b)=b:=by
 have h':=h;rw[QI]at h;by_cases h1:4000<b.length;·rw[if_pos h1]at h;cases h
 ·rw[if_neg h1]at h;by_cases h2:b.length=0;(·rw[if_pos h2]at h;cases h);·rw[if_neg h2]at h;by_cases h3:1<=Ul b∧Ul b<=8;(·rw[if_pos h3]at h;match hD:Yf (Ul b) (b.drop 1)with|none=>rw[hD]at h;cases h|F (r,x)=>rw[hD]at h;replace h:(if x.length=0then Yi r else 4)=0:=h;by_cases hx:x.length=0;(·rw[if_pos hx]at h;(have hr:Qu b=r:=by rw[Qu,if_pos h',hD]);rw[hr];refine⟨h,?_⟩;obtain⟨f1,f2⟩:=Tt hD;rw[V hx,tV]at f1;rw[Jn,<-f1,f2];match b,h2 with|c::b,_=>show tD ((c.toNat:Nat):Int).toNat::b=c::b;simp);·rw[if_neg hx]at h;cases h);·rw[if_neg h3]at h;cases h
theorem jA{b:List UInt8}(h:QI b≠0):Qu b=V3:=by
 rw[Qu,if_neg h]
def Uc(r:Rq):Int:=if Yi r=0then(if r.kind=2∨r.kind=3then 0 else 7)else Yi r
def Zv(r:Rq):Rd:=if Uc r=0then⟨r.name,r.key,tI (r.kind=3),r.last⟩else Zh
def YD(r:Rq):Int:=if Yi r=0then(if r.kind=4∨r.kind=5then 0 else 7)else Yi r
def Zo(r:Rq):Zb:=if YD r=0then⟨r.name,r.key,r.value,tI (r.kind=5)⟩else Qr
theorem aY{r:Rq}(h:Uc r=0):XD (Zv r)=0:=by
 have h':=h;unfold Uc at h;by_cases h0:Yi r=0;·rw[if_pos h0]at h;have ho:=(X8 r).1 h0;by_cases h1:r.kind=2∨r.kind=3;(·(have hn:Q4 r.kind=N:=by rcases h1 with h1|h1<;>rw[h1]<;>decide);rw[Zv,if_pos h',EH];refine⟨ho.name hn,ho.key hn,?_⟩;show if tI (r.kind=3)=N then _ else _;by_cases h3:r.kind=3;(·rw[if_pos (by simpa using h3)];exact ho.last h3);·rw[if_neg (by simpa using h3)];exact ho.noLast h3);·rw[if_neg h1]at h;cases h
 ·rw[if_neg h0]at h;exact absurd h h0
theorem Pb{r:Rq}(h:YD r=0):Qz (Zo r)=0:=by
 have h':=h;unfold YD at h;by_cases h0:Yi r=0;·rw[if_pos h0]at h;have ho:=(X8 r).1 h0;by_cases h1:r.kind=4∨r.kind=5;(·(have hn:Q4 r.kind=N:=by rcases h1 with h1|h1<;>rw[h1]<;>decide);rw[Zo,if_pos h',Xr];refine⟨ho.name hn,ho.key hn,?_⟩;show if tI (r.kind=5)=N then _ else _;by_cases h3:r.kind=5;(·rw[if_pos (by simpa using h3)];exact ho.noValue (by omega));·rw[if_neg (by simpa using h3)];exact ho.value);·rw[if_neg h1]at h;cases h
 ·rw[if_neg h0]at h;exact absurd h h0
theorem E0{r:Rq}(h:XY r):Uc r=(if r.kind=2∨r.kind=3then 0 else 7)∧YD r=(if r.kind=4∨r.kind=5then 0 else 7):=by
 have:=(X8 r).2 h;exact⟨by rw[Uc,if_pos this],by rw[YD,if_pos this]⟩
def OQ(l:List Ac):List UInt8:=l.flatMap fun a=>lY a++[10]
def K4:Nat->List Ac->Option (Nat×Int)|_,[]=>H|n,a::l=>if YY a=0then K4 (n+1) l else F (n,YY a)
def Gd(l:List Ac):Int:=if 100000<l.length then 1 else match K4 0 l with|none=>0|F (_,e)=>e
def Ff(l:List Ac):Nat:=if 100000<l.length then 0 else match K4 0 l with|none=>0|F (i,_)=>i
def Fg(l:List Ac):List UInt8:=if Gd l=0then OQ l else[]
theorem Ns:∀(l:List Ac)(n:Nat),K4 n l=H↔∀a∈l,JG a|[],_=>by simp[K4]|a::l,n=>by rw[K4];by_cases ha:YY a=0;(·rw[if_pos ha,Ns l (n+1)];simp only[tS,forall_eq_or_imp];exact⟨fun h=>⟨(kW a).1 ha,h⟩,fun h=>h.2⟩);·rw[if_neg ha];exact⟨fun h=>(by cases h),fun h=>absurd ((kW a).2 (h a (by simp))) ha⟩
theorem We(l:List Ac)(m:Nat)(hm:m<l.length):K4 m (l.drop m)=if YY (l.getD m UF)=0then K4 (m+1) (l.drop (m+1))else F (m,YY (l.getD m UF)):=by
 rw[sD hm,K4,show l[m]=l.getD m UF by simp[hm]]
theorem l8{l:List Ac}(h:∀a∈l,JG a)(hl:l.length<=100000):Gd l=0∧Ff l=0∧Fg l=OQ l:=by
 have hb:=(Ns l 0).2 h;have he:Gd l=0:=by rw[Gd,if_neg (by omega),hb]
 exact⟨he,by rw[Ff,if_neg (by omega),hb],by rw[Fg,if_pos he]⟩
theorem Hl{l:List Ac}(h:100000<l.length):Gd l=1∧Ff l=0∧Fg l=[]:=by
 have e:Gd l=1:=by rw[Gd,if_pos h]
 exact⟨e,by rw[Ff,if_pos h],by rw[Fg,e,if_neg (by decide)]⟩
theorem Tr{l:List Ac}(h:l.length<=100000)(hb:K4 0 l=H):Gd l=0∧Ff l=0∧Fg l=OQ l:=by
 have e:Gd l=0:=by rw[Gd,if_neg (by omega),hb]
 exact⟨e,by rw[Ff,if_neg (by omega),hb],by rw[Fg,if_pos e]⟩
theorem cG{l:List Ac}(h:l.length<=100000){i:Nat}{e:Int}(hb:K4 0 l=F (i,e))(he:e≠0):Gd l=e∧Ff l=i∧Fg l=[]:=by
 have h1:Gd l=e:=by rw[Gd,if_neg (by omega),hb]
 exact⟨h1,by rw[Ff,if_neg (by omega),hb],by rw[Fg,h1,if_neg he]⟩
theorem fQ{l:List Ac}{m:Nat}(hm:m<l.length)(hb:K4 0 l=K4 m (l.drop m)):(YY (l.getD m UF)=0->K4 0 l=K4 (m+1) (l.drop (m+1)))∧(YY (l.getD m UF)≠0->K4 0 l=F (m,YY (l.getD m UF))):=by
 rw[hb,We l m hm];exact⟨fun h=>by rw[if_pos h],fun h=>by rw[if_neg h]⟩
def XJ(w:I)(v:O)(r:Rq):Prop:=∃vn vk vl vv,v=pN #[tK sZ r.kind,vn,vk,vl,vv]∧Qe w vn r.name∧Qe w vk r.key∧Qe w vl r.last∧Qe w vv r.value
theorem XJ.grown{w w':I}{v:O}{r:Rq}(h:XJ w v r)(hg:J w w' H):XJ w' v r:=by
 obtain⟨vn,vk,vl,vv,rfl,h1,h2,h3,h4⟩:=h;exact⟨vn,vk,vl,vv,rfl,h1.grown hg,h2.grown hg,h3.grown hg,h4.grown hg⟩
theorem XJ.agg{w:I}{v:O}{r:Rq}(h:XJ w v r):∃n1 n2 k1 k2 l1 l2 v1 v2,v=pN #[tK sZ r.kind,tH n1 r.name.length n2,tH k1 r.key.length k2,tH l1 r.last.length l2,tH v1 r.value.length v2]:=by
 obtain⟨vn,vk,vl,vv,rfl,h1,h2,h3,h4⟩:=h;obtain⟨n1,n2,rfl⟩:=h1.shape;obtain⟨k1,k2,rfl⟩:=h2.shape;obtain⟨l1,l2,rfl⟩:=h3.shape;obtain⟨v1,v2,rfl⟩:=h4.shape;exact⟨n1,n2,k1,k2,l1,l2,v1,v2,rfl⟩
theorem XJ.parts{w:I}{r:Rq}{x a b c d:O}(h:XJ w (pN #[x,a,b,c,d]) r):x=tK sZ r.kind∧Qe w a r.name∧Qe w b r.key∧Qe w c r.last∧Qe w d r.value:=by
 obtain⟨vn,vk,vl,vv,e,h1,h2,h3,h4⟩:=h;simp only[Value.agg.injEq,Array.mk.injEq,List.cons.injEq,and_true]at e;obtain⟨rfl,rfl,rfl,rfl,rfl⟩:=e;exact⟨rfl,h1,h2,h3,h4⟩
theorem uT(w:I):XJ w (pN #[tK sZ 0,tH H 0 0,tH H 0 0,tH H 0 0,tH H 0 0]) V3:=⟨_,_,_,_,rfl,QK w,QK w,QK w,QK w⟩
structure yH(r:Rq):Prop where kind:-9223372036854775808<=r.kind∧r.kind<=9223372036854775807name:r.name.length<=140737488355328key:r.key.length<=140737488355328last:r.last.length<=140737488355328value:r.value.length<=140737488355328
theorem yK{r:Rq}(h:XY r):yH r:=by
 have h0:=h.kind;have h5:=h.value;have k1:r.name.length<=8:=by by_cases e:Q4 r.kind=N;(·exact(h.name e).2);·rw[h.noName (by simpa using e)];simp
 have k2:r.key.length<=16:=by by_cases e:Q4 r.kind=N;(·exact(h.key e).2);·rw[h.noKey (by simpa using e)];simp
 have k3:r.last.length<=16:=by by_cases e:r.kind=3;(·exact(h.last e).2);·rw[h.noLast e];simp
 exact⟨by omega,by omega,by omega,by omega,by omega⟩
theorem Qp{W w:I}{b:Nat}{x y z u s:O}{t:sX}(hg:J W w H)(h:W.heap[b]?=F (tJ #[x,y,z,u,s] t)):(w.cell? ⟨b,0,H⟩=F x∧w.cell? ⟨b,1,H⟩=F y∧w.cell? ⟨b,2,H⟩=F z∧w.cell? ⟨b,3,H⟩=F u∧w.cell? ⟨b,4,H⟩=F s)∧(w.frozen? ⟨b,0,H⟩=tA∧w.frozen? ⟨b,1,H⟩=tA∧w.frozen? ⟨b,2,H⟩=tA∧w.frozen? ⟨b,3,H⟩=tA∧w.frozen? ⟨b,4,H⟩=tA)∧w.heap[b]?=F (tJ #[x,y,z,u,s] t):=by
 have hb:w.heap[b]?=F (tJ #[x,y,z,u,s] t):=by rw[hg.block b (tL.1 h).1 (by simp)];exact h
 refine⟨⟨?_,?_,?_,?_,?_⟩,⟨?_,?_,?_,?_,?_⟩,hb⟩;all_goals simp[tZ,sW,hb]
theorem Yr{w:I}{b i:Nat}{cs:Array O}{t:sX}{fz:Nat×Nat}{u:O}(h:w.heap[b]?=F (tJ cs t fz)):(tG w ⟨b,i,H⟩ u).heap[b]?=F (tJ (cs.setIfInBounds i u) t fz):=by
 simp only[tG,tQ,if_true,h,sO];rfl
theorem qS{w:I}{b c i:Nat}{o:Obj}{u:O}(h:w.heap[b]?=F o)(hne:b≠c):(tG w ⟨c,i,H⟩ u).heap[b]?=F o:=by
 simp only[tG,tQ];rw[if_neg (fun e=>hne e.symm)];exact h
abbrev Oo(w:I)(b:Nat)(x y z u s:O):I:=((((tG w ⟨b,0,H⟩ x).setCell ⟨b,1,H⟩ y).setCell ⟨b,2,H⟩ z).setCell ⟨b,3,H⟩ u).setCell ⟨b,4,H⟩ s
theorem uU{w:I}{b:Nat}{x y z u s:O}{t:sX}(h:w.heap[b]?=F (tJ #[x,y,z,u,s] t))(x' y' z' u' s':O):(Oo w b x' y' z' u' s').heap[b]?=F (tJ #[x',y',z',u',s'] t):=Yr (Yr (Yr (Yr (Yr h))))
theorem zD{w W:I}{b:Nat}(hg:J w W H)(hb:w.heap.size<=b)(x y z u s:O):J w (Oo W b x y z u s) H:=Qc (Qc (Qc (Qc (Qc hg _ hb _ _) _ hb _ _) _ hb _ _) _ hb _ _) _ hb _ _
theorem Hz(W:I)(b:Nat)(x y z u s:O):J W (Oo W b x y z u s) (F b):=Qg (Qg (Qg (Qg (Qg (Qb W (F b)) _ _) _ _) _ _) _ _) _ _
abbrev V1(w:I)(b:Nat)(x y z u:O):I:=(((tG w ⟨b,0,H⟩ x).setCell ⟨b,1,H⟩ y).setCell ⟨b,2,H⟩ z).setCell ⟨b,3,H⟩ u
theorem Yb{w:I}{b:Nat}{x y z u:O}{t:sX}(h:w.heap[b]?=F (tJ #[x,y,z,u] t))(x' y' z' u':O):(V1 w b x' y' z' u').heap[b]?=F (tJ #[x',y',z',u'] t):=Yr (Yr (Yr (Yr h)))
theorem Xc{w W:I}{b:Nat}(hg:J w W H)(hb:w.heap.size<=b)(x y z u:O):J w (V1 W b x y z u) H:=Qc (Qc (Qc (Qc hg _ hb _ _) _ hb _ _) _ hb _ _) _ hb _ _
theorem Yo(W:I)(b:Nat)(x y z u:O):J W (V1 W b x y z u) (F b):=Qg (Qg (Qg (Qg (Qb W (F b)) _ _) _ _) _ _) _ _
theorem Za.later{base:Nat}{w w':I}{v:O}{bs:List UInt8}(h:Za base w v bs){b:Nat}(hg:J w w' (F b))(hb:b<base):Za base w' v bs:=by
 refine h.grown hg (.inr fun e=>?_);have:=(h.lt b e).1;omega
def Nj(i:Nat):Nat:=[0,0,3,7,11,3,0,0,3].getD i 0
def UX(w:I):Prop:=∀i,i<9->w.cell? ⟨0,i,H⟩=F (tK rG ((Nj i:Nat):Int))
theorem UX.grown{w w':I}(h:UX w)(hg:J w w' H):UX w':=fun i hi=>hg.cell (h i hi) (by
 simp)
def QT(k:Int):Nat->Bool|0=>Q4 k|1=>Q4 k|2=>tI (k=3)|_=>tI (k=4)
theorem fS(k j:Nat)(hk:k<9)(hj:j<4):(bits BinOp.and rG ((Nj k:Nat):Int) ((2^j:Nat):Int)!=0)=QT (k:Int) j:=(by
 decide+kernel:∀(k:Fin 9)(j:Fin 4),(bits BinOp.and rG ((Nj k.1:Nat):Int) ((2^j.1:Nat):Int)!=0)=QT (k.1:Int) j.1) ⟨k,hk⟩ ⟨j,hj⟩
def xS(r:Rq):List UInt8:=if Yi r=0then Jn r else[]
def aC:Prop:=∀(w:I)(v:O)(r:Rq),UX w->XJ w v r->yH r->rX tB 29 #[v] w fun e w'=>∃x,e=sQ (pV #[x,tK sZ (Yi r)])∧Qh 0 w' x (xS r)∧J w w' H
def Yw(w:I)(v:O)(r:Rd):Prop:=∃vn vk vl,v=pN #[vn,vk,pO r.wide,vl]∧Qe w vn r.name∧Qe w vk r.key∧Qe w vl r.last
theorem Yw.grown{w w':I}{v:O}{r:Rd}(h:Yw w v r)(hg:J w w' H):Yw w' v r:=by
 obtain⟨vn,vk,vl,rfl,h1,h2,h3⟩:=h;exact⟨vn,vk,vl,rfl,h1.grown hg,h2.grown hg,h3.grown hg⟩
theorem Yw.agg{w:I}{v:O}{r:Rd}(h:Yw w v r):∃na nc ka kc la lc,v=pN #[tH na r.name.length nc,tH ka r.key.length kc,pO r.wide,tH la r.last.length lc]:=by
 obtain⟨vn,vk,vl,rfl,h1,h2,h3⟩:=h;obtain⟨na,nc,rfl⟩:=h1.shape;obtain⟨ka,kc,rfl⟩:=h2.shape;obtain⟨la,lc,rfl⟩:=h3.shape;exact⟨na,nc,ka,kc,la,lc,rfl⟩
theorem Yw.parts{w:I}{r:Rd}{x y g z:O}(h:Yw w (pN #[x,y,g,z]) r):Qe w x r.name∧Qe w y r.key∧g=pO r.wide∧Qe w z r.last:=by
 obtain⟨vn,vk,vl,e,h1,h2,h3⟩:=h;simp only[Value.agg.injEq,Array.mk.injEq,List.cons.injEq,and_true]at e;obtain⟨rfl,rfl,rfl,rfl⟩:=e;exact⟨h1,h2,rfl,h3⟩
structure PR(r:Rd):Prop where name:r.name.length<=140737488355328key:r.key.length<=140737488355328last:r.last.length<=140737488355328
structure kS where
  bit : Int
  right : Bool
  other : List UInt8
structure Cj where
  empty : Bool
  steps : List kS
  pair : Pr
def Lt:kS:=⟨0,tA,[]⟩
def U8:Cj:=⟨tA,[],([],[])⟩
instance:Inhabited kS:=⟨Lt⟩
instance:Inhabited Cj:=⟨U8⟩
def Un(l:PL):Nat->Int|0=>999|1=>999|m+2=>if JI (l.getD 0 ([],[])).1 (l.getD (m+1) ([],[])).1<Un l (m+1)then JI (l.getD 0 ([],[])).1 (l.getD (m+1) ([],[])).1 else Un l (m+1)
def Qy(l:PL):Int:=Un l l.length
def Y1(l:PL)(b:Nat)(x:Bool):PL:=l.filter fun q=>ZZ q.1 b==x
theorem Cv(l:PL)(b:Nat)(x:Bool):(Y1 l b x).length<=l.length:=sY _ _
theorem X5{l:PL}(h:ZH l)(b:Nat)(x:Bool):ZH (Y1 l b x):=⟨rD (Cv l b x) h.room,fun p hp=>h.pairs p (r7.1 hp).1,sS _ h.rises⟩
theorem Cy{l:PL}(h:ZH l)(i j:Nat)(hij:i<j)(hj:j<l.length):0<=JI (l.getD i ([],[])).1 (l.getD j ([],[])).1:=by
 have hk:=UD l h.rises i j hij hj;have h1:=(h.pairs l[i] (sF (by omega))).1;have h2:=(h.pairs l[j] (sF hj)).1;rw[show l[i]=l.getD i ([],[])by simp[show i<l.length by omega]]at h1;rw[show l[j]=l.getD j ([],[])by simp[hj]]at h2;have:=AG (l.getD i ([],[])).1 (l.getD j ([],[])).1 h1.2 h2.2;have hne:=I6 hk;by_cases hp:JI (l.getD i ([],[])).1 (l.getD j ([],[])).1<0;·exact absurd (this.1 hp) hne
 ·omega
theorem P6{l:PL}(h:ZH l):∀m,m<=l.length->0<=Un l m∧(2<=m->Un l m<=144)∧Un l m<=999|0,_=>⟨by simp[Un],by omega,by simp[Un]⟩|1,_=>⟨by simp[Un],by omega,by simp[Un]⟩|m+2,hm=>by have ih:=P6 h (m+1) (by omega);have hp:=Cy h 0 (m+1) (by omega) (by omega);have hr:=Fa (l.getD 0 ([],[])).1 (l.getD (m+1) ([],[])).1;rw[Un];by_cases hlt:JI (l.getD 0 ([],[])).1 (l.getD (m+1) ([],[])).1<Un l (m+1);(·rw[if_pos hlt];omega);·rw[if_neg hlt];omega
theorem Yk{l:PL}(h:ZH l)(h2:2<=l.length):0<=Qy l∧Qy l<=144:=by
 have:=P6 h l.length (sA _);exact⟨this.1,this.2.1 h2⟩
theorem Ec{l:PL}(_h:ZH l):∀m,2<=m->m<=l.length->∃j,0<j∧j<m∧Un l m=JI (l.getD 0 ([],[])).1 (l.getD j ([],[])).1|0,h,_=>by omega|1,h,_=>by omega|m+2,_,hm=>by rw[Un];by_cases hlt:JI (l.getD 0 ([],[])).1 (l.getD (m+1) ([],[])).1<Un l (m+1);(·rw[if_pos hlt];exact⟨m+1,by omega,by omega,rfl⟩);·rw[if_neg hlt];by_cases h0:m=0;(·subst h0;have hr:=Fa (l.getD 0 ([],[])).1 (l.getD (0+1) ([],[])).1;simp only[Un]at hlt;omega);·obtain⟨j,h1,h2,h3⟩:=Ec _h (m+1) (by omega) (by omega);exact⟨j,h1,by omega,h3⟩
theorem kC{l:PL}(h:ZH l)(h2:2<=l.length):∀x,(Y1 l (Qy l).toNat x).length<l.length:=by
 obtain⟨j,hj1,hj2,hj3⟩:=Ec h l.length h2 (sA _);have hr:=Yk h h2;have hd:ZZ (l.getD 0 ([],[])).1 (Qy l).toNat≠ZZ (l.getD j ([],[])).1 (Qy l).toNat:=by rcases JN (l.getD 0 ([],[])).1 (l.getD j ([],[])).1with⟨e,_⟩|⟨m,e,_,_,hd⟩;(·rw[<-hj3]at e;unfold Qy at hr;omega);·(have:(Qy l).toNat=m:=by unfold Qy;omega);rw[this];exact hd
 intro x;by_cases hlt:(Y1 l (Qy l).toNat x).length<l.length;·exact hlt
 ·(have he:(Y1 l (Qy l).toNat x).length=l.length:=by have:=Cv l (Qy l).toNat x;omega);have hall:=List.length_filter_eq_length_iff.1 he;have h0:=hall l[0] (sF (by omega));have hj:=hall l[j] (sF hj2);rw[show l[0]=l.getD 0 ([],[])by simp[show 0<l.length by omega]]at h0;rw[show l[j]=l.getD j ([],[])by simp[hj2]]at hj;simp only[beq_iff_eq]at h0 hj;exact absurd (h0.trans hj.symm) hd
def JH(l:PL)(b:Nat):Nat:=(l.takeWhile fun q=>!ZZ q.1 b).length
theorem xJ(l:PL):∀m j,0<j->j<m->m<=l.length->Un l m<=JI (l.getD 0 ([],[])).1 (l.getD j ([],[])).1|0,j,_,h,_=>by omega|1,j,h0,h,_=>by omega|m+2,j,h0,h,hm=>by rw[Un];by_cases hlt:JI (l.getD 0 ([],[])).1 (l.getD (m+1) ([],[])).1<Un l (m+1);(·rw[if_pos hlt];by_cases e:j=m+1;(·subst e;exact oJ _);·have:=xJ l (m+1) j h0 (by omega) (by omega);omega);·rw[if_neg hlt];by_cases e:j=m+1;(·subst e;omega);·exact xJ l (m+1) j h0 (by omega) (by omega)
theorem Pj{l:PL}(h:ZH l)(h2:2<=l.length)(j:Nat)(hj:j<l.length)(b:Nat)(hb:b<(Qy l).toNat):ZZ (l.getD 0 ([],[])).1 b=ZZ (l.getD j ([],[])).1 b:=by
 by_cases h0:j=0;·subst h0;rfl
 ·have hm:=xJ l l.length j (by omega) hj (sA _);have hr:=Yk h h2;rcases JN (l.getD 0 ([],[])).1 (l.getD j ([],[])).1with⟨e,hs⟩|⟨m,e,hm1,hs,_⟩;(·exact hs b (by omega));·exact hs b (by unfold Qy at hb;omega)
theorem NU{l:PL}(h:ZH l)(h2:2<=l.length)(i j:Nat)(hij:i<j)(hj:j<l.length)(hi:ZZ (l.getD i ([],[])).1 (Qy l).toNat=N):ZZ (l.getD j ([],[])).1 (Qy l).toNat=N:=by
 have hk:=UD l h.rises i j hij hj;have hp:=Cy h i j hij hj;rcases JN (l.getD i ([],[])).1 (l.getD j ([],[])).1with⟨e,_⟩|⟨m,e,hm,hs,hd⟩;·omega
 ·(have hge:(Qy l).toNat<=m:=by by_cases hlt:m<(Qy l).toNat;(·exact absurd ((Pj h h2 i (by omega) m hlt).symm.trans (Pj h h2 j hj m hlt)) hd);·omega);by_cases he:(Qy l).toNat=m;(·rw[he];have:=Tg _ _ m hs hd;rw[this];exact hk);·rw[<-hs _ (by omega)];exact hi
theorem N0{l:PL}(h:ZH l)(h2:2<=l.length):ZZ (l.getD 0 ([],[])).1 (Qy l).toNat=tA∧ZZ (l.getD (l.length-1) ([],[])).1 (Qy l).toNat=N:=by
 obtain⟨j,hj1,hj2,hj3⟩:=Ec h l.length h2 (sA _);have hr:=Yk h h2;have hk:=UD l h.rises 0 j hj1 hj2;rcases JN (l.getD 0 ([],[])).1 (l.getD j ([],[])).1with⟨e,_⟩|⟨m,e,hm,hs,hd⟩;·rw[<-hj3]at e;unfold Qy at hr;omega
 ·(have em:(Qy l).toNat=m:=by unfold Qy;omega);have ho:=Tg _ _ m hs hd;(have hjt:ZZ (l.getD j ([],[])).1 m=N:=by rw[ho];exact hk);refine⟨?_,?_⟩;(·rw[em];cases hx:ZZ (l.getD 0 ([],[])).1 m with|false=>rfl|true=>exact absurd (hx.trans hjt.symm) hd);·by_cases hl:j=l.length-1;(·rw[<-hl,em];exact hjt);·exact NU h h2 j (l.length-1) (by omega) (by omega) (by rw[em];exact hjt)
theorem NH{l:PL}(h:ZH l)(h2:2<=l.length):JI (l.getD 0 ([],[])).1 (l.getD (l.length-1) ([],[])).1=Qy l:=by
 have hr:=Yk h h2;obtain⟨e1,e2⟩:=N0 h h2;rw[D6 _ _ (Qy l).toNat (by omega) (fun b hb=>Pj h h2 _ (by omega) b hb) (by rw[e1,e2];simp)];omega
theorem Lv:∀(l:PL)(b j:Nat),j<JH l b->ZZ (l.getD j ([],[])).1 b=tA|[],b,j,h=>by simp[JH]at h|p::r,b,j,h=>by cases hk:ZZ p.1 b with|true=>simp[JH,hk]at h|false=>cases j with|zero=>simpa using hk|succ j=>have:=Lv r b j (by unfold JH at h⊢;rw[tM (p:=fun q:Pr=>!ZZ q.1 b) (by simp[hk])]at h;simpa using h);simpa using this
theorem Bp:∀(l:PL)(b:Nat),JH l b<l.length->ZZ (l.getD (JH l b) ([],[])).1 b=N|[],b,h=>by simp at h|p::r,b,h=>by cases hk:ZZ p.1 b with|true=>simp[JH,hk]|false=>(have e:JH (p::r) b=JH r b+1:=by unfold JH;rw[tM (p:=fun q:Pr=>!ZZ q.1 b) (by simp[hk])];simp);rw[e]at h⊢;have:=Bp r b (by simpa using h);simpa using this
theorem GH{l:PL}(h:ZH l)(h2:2<=l.length)(j:Nat)(hj:j<l.length):ZZ (l.getD j ([],[])).1 (Qy l).toNat=tI (JH l (Qy l).toNat<=j):=by
 by_cases hlt:j<JH l (Qy l).toNat;·rw[decide_eq_false (by omega)];exact Lv l _ j hlt
 ·rw[decide_eq_true (by omega)];have h0:=Bp l (Qy l).toNat (by omega);by_cases e:j=JH l (Qy l).toNat;(·rw[e];exact h0);·exact NU h h2 _ j (by omega) hj h0
theorem Uu{l:PL}(h:ZH l)(h2:2<=l.length):0<JH l (Qy l).toNat∧JH l (Qy l).toNat<l.length:=by
 obtain⟨e1,e2⟩:=N0 h h2;rw[GH h h2 0 (by omega)]at e1;rw[GH h h2 _ (by omega)]at e2;simp at e1 e2;omega
theorem kK{l:PL}(h:ZH l)(h2:2<=l.length):Y1 l (Qy l).toNat tA=l.take (JH l (Qy l).toNat):=by
 have hs:=Uu h h2;have hb:=fun j hj=>GH h h2 j hj;generalize(Qy l).toNat=b at*;generalize JH l b=n at*;have e:l=l.take n++l.drop n:=(tE n l).symm;rw[Y1];conv=>lhs;rw[e]
 rw[sI,tN.2,sJ.2,tV];·intro q hq;obtain⟨j,hj,rfl⟩:=L.1 hq;(have hjn:n+j<l.length:=by simp at hj;omega);rw[sM,show l[n+j]=l.getD (n+j) ([],[])by simp[hjn],hb _ hjn];simp
 ·intro q hq;obtain⟨j,hj,rfl⟩:=L.1 hq;(have hjn:j<n:=by simp at hj;omega);rw[sE,show l[j]'(by omega)=l.getD j ([],[])by simp[show j<l.length by omega],hb _ (by omega)];simp[hjn]
theorem PC{l:PL}(h:ZH l)(h2:2<=l.length):Y1 l (Qy l).toNat N=l.drop (JH l (Qy l).toNat):=by
 have hs:=Uu h h2;have hb:=fun j hj=>GH h h2 j hj;generalize(Qy l).toNat=b at*;generalize JH l b=n at*;have e:l=l.take n++l.drop n:=(tE n l).symm;rw[Y1];conv=>lhs;rw[e]
 rw[sI,sJ.2,tN.2,pB];·intro q hq;obtain⟨j,hj,rfl⟩:=L.1 hq;(have hjn:n+j<l.length:=by simp at hj;omega);rw[sM,show l[n+j]=l.getD (n+j) ([],[])by simp[hjn],hb _ hjn];simp
 ·intro q hq;obtain⟨j,hj,rfl⟩:=L.1 hq;(have hjn:j<n:=by simp at hj;omega);rw[sE,show l[j]'(by omega)=l.getD j ([],[])by simp[show j<l.length by omega],hb _ (by omega)];simp[hjn]
def U(x:BitVec 64):Int:=(x.toNat:Int)
theorem yV(x:BitVec 64):sB 64 (U x)=x:=by
 unfold U;rw[pL];simp
theorem kD(x:BitVec 64):rF.wrap (x.toNat:Int)=U x:=by
 rw[rV];unfold U;have:=x.isLt;omega
theorem Zr(x y:BitVec 64):bits .xor .u64 (U x) (U y)=U (x^^^y):=by
 show rF.wrap ((sB 64 (U x)^^^sB 64 (U y)).toNat:Int)=_;rw[yV,yV,kD]
theorem Nd(x y:BitVec 64):bits .or .u64 (U x) (U y)=U (x|||y):=by
 show rF.wrap ((sB 64 (U x)|||sB 64 (U y)).toNat:Int)=_;rw[yV,yV,kD]
theorem Kv(x y:BitVec 64):bits .andNot .u64 (U x) (U y)=U (x&&&~~~y):=by
 show rF.wrap ((sB 64 (U x)&&&~~~sB 64 (U y)).toNat:Int)=_;rw[yV,yV,kD]
theorem JP(x:BitVec 64)(k:Nat):rF.wrap (U x*2^k)=U (x<<<k):=by
 rw[rV];unfold U;rw[BitVec.toNat_shiftLeft,Nat.shiftLeft_eq];have e:((x.toNat:Int)*2^k)=((x.toNat*2^k:Nat):Int):=by simp
 rw[e];omega
theorem NS(x:BitVec 64)(k:Nat):U x/2^k=U (x>>>k):=by
 unfold U;rw[BitVec.toNat_ushiftRight,Nat.shiftRight_eq_div_pow];simp
theorem i5(k:Int)(h0:0<=k)(h:k<64):bits .and .u64 k 63=k:=by
 obtain⟨n,rfl⟩:=Int.eq_ofNat_of_zero_le h0;show rF.wrap ((sB 64 (n:Int)&&&sB 64 63).toNat:Int)=_;rw[pL,BitVec.toNat_and];have h1:(BitVec.ofNat 64 n).toNat=n:=by rw[BitVec.toNat_ofNat];omega
 have h2:(sB 64 63).toNat=2^6-1:=by decide
 rw[h1,h2,Nat.and_two_pow_sub_one_eq_mod,rV];omega
def xD(x:BitVec 64)(k:Nat):BitVec 64:=(x<<<k)|||(x>>>(64-k))
section
theorem L3(x:BitVec 64)(k:Int)(h0:0<=k)(h:k<64)(w:I):rX tB 166 #[tK .u64 (U x),tK sZ k] w fun e w'=>e=sQ (tK .u64 (U (xD x k.toNat)))∧w'=w:=by
 have h63:=i5 k h0 h;go_enter Tryz.func166,Tryz.ntmps166;go_wp2;go_ret;refine⟨?_,rfl⟩;rw[show(64-k).toNat=64-k.toNat by omega,JP,NS,Nd];rfl
def Ka(st:List (BitVec 64)):Array O:=(st.map fun x=>tK .u64 (U x)).toArray
structure XZ (n : Nat) (w : I) (b : Nat) (st : List (BitVec 64)) : Prop where
  len : st.length = n
  blk : ∃ t, w.heap[b]? = F (tJ (Ka st) t (0, 0))
section
variable{n:Nat}{w:I}{b:Nat}{st:List (BitVec 64)}
theorem XZ.cell(h:XZ n w b st)(i:Nat)(hi:i<n):w.cell? ⟨b,i,H⟩=F (tK .u64 (U (st.getD i 0))):=by
 obtain⟨t,hb⟩:=h.blk;simp[tZ,hb,Ka,sU,rK (show i<st.length by have:=h.len;omega)]
theorem XZ.frozen(h:XZ n w b st)(i:Nat):w.frozen? ⟨b,i,H⟩=tA:=by
 obtain⟨t,hb⟩:=h.blk;simp[sW,hb]
theorem XZ.lt(h:XZ n w b st):b<w.heap.size:=by
 obtain⟨t,hb⟩:=h.blk;exact(tL.1 hb).1
theorem DK(st:List (BitVec 64))(i:Nat)(x:BitVec 64):(Ka st).setIfInBounds i (tK .u64 (U x))=Ka (st.set i x):=by
 simp[Ka]
theorem XZ.set(h:XZ n w b st)(i:Nat)(x:BitVec 64):XZ n (tG w ⟨b,i,H⟩ (tK .u64 (U x))) b (st.set i x):=by
 obtain⟨t,hb⟩:=h.blk;refine⟨by simp[h.len],t,?_⟩;simp only[tG,tQ,if_true,hb,sO];simp[DK]
theorem XZ.setOther(h:XZ n w b st)(c:Nat)(hc:b≠c)(i:Nat)(v:O):XZ n (tG w ⟨c,i,H⟩ v) b st:=by
 obtain⟨t,hb⟩:=h.blk;exact⟨h.len,t,by rw[Below.heap_setCell _ _ _ _ hc];exact hb⟩
theorem XZ.drewN(h:XZ n w b st)(k:Nat):XZ n (w.drewN k) b st:=⟨h.len,h.blk⟩
theorem XZ.drew(h:XZ n w b st):XZ n w.drew b st:=⟨h.len,h.blk⟩
theorem XZ.alloc(h:XZ n w b st)(o:Obj):XZ n (w.alloc o) b st:=by
 obtain⟨t,hb⟩:=h.blk;exact⟨h.len,t,by rw[Below.heap_alloc _ _ _ h.lt];exact hb⟩
theorem XZ.grown(h:XZ n w b st){w':I}{r:Option Nat}(hg:J w w' r)(hr:F b≠r):XZ n w' b st:=by
 obtain⟨t,hb⟩:=h.blk;exact⟨h.len,t,by rw[hg.block b h.lt hr];exact hb⟩
theorem XZ.new(w:I)(t:sX)(st:List (BitVec 64))(hl:st.length=n):XZ n (w.alloc (tJ (Ka st) t)) w.heap.size st:=⟨hl,t,rJ w _⟩
end
abbrev St:=XZ 25
def Ly(st:List (BitVec 64))(n:Nat):List (BitVec 64):=let a:=st.getD n 0;let b:=st.getD (n+1) 0;let c:=st.getD (n+2) 0;let d:=st.getD (n+3) 0;let e:=st.getD (n+4) 0;((((st.set n (a^^^(c&&&~~~b))).set (n+1) (b^^^(d&&&~~~c))).set (n+2) (c^^^(e&&&~~~d))).set (n+3) (d^^^(a&&&~~~e))).set (n+4) (e^^^(b&&&~~~a))
def VH(st:List (BitVec 64)):Nat->List (BitVec 64)|0=>st|k+1=>Ly (VH st k) (5*k)
theorem Ob(w:I)(b:Nat)(st:List (BitVec 64))(h:St w b st):rX tB 148 #[.pointer (F ⟨b,0,H⟩)] w fun e w'=>e=sQ (pV #[])∧St w' b (VH st 5)∧J w w' (F b):=by
 go_enter Tryz.func148,Tryz.ntmps148;go_wp2;go_loopw[2](fun y wr=>∃k:Nat,k<=5∧y=tK sZ ((5*k:Nat):Int)∧St wr b (VH st k)∧J w wr (F b))(fun y _=>25-(intOf y).toNat);case atStart=>exact⟨0,by omega,rfl,h,Qb _ _⟩
 case round=>obtain⟨k,hk,rfl,hst,hg⟩:=hrel;by_cases hlt:k<5;(·generalize hn:5*k=n;have HN:Hid (5*k=n):=hn;clear hn;(have h25:n+4<25:=by have:=HN.out;omega);have hc:=hst.cell;have hf:=hst.frozen;have c0:=hc n (by omega);have c1:=hc (n+1) (by omega);have c2:=hc (n+2) (by omega);have c3:=hc (n+3) (by omega);have c4:=hc (n+4) (by omega);clear hc;generalize hS:VH st k=S at*;have HS:Hid (VH st k=S):=hS;clear hS;generalize hA:S.getD n 0=A at*;generalize hB:S.getD (n+1) 0=B at*;generalize hC:S.getD (n+2) 0=C at*;generalize hD:S.getD (n+3) 0=D at*;generalize hE:S.getD (n+4) 0=E at*;have HA:Hid (S.getD n 0=A):=hA;have HB:Hid (S.getD (n+1) 0=B):=hB;have HC:Hid (S.getD (n+2) 0=C):=hC;have HD:Hid (S.getD (n+3) 0=D):=hD;have HE:Hid (S.getD (n+4) 0=E):=hE;clear hA hB hC hD hE;(have i1:(n:Int)+4<25:=by omega);go_wp2;go_quiet(fail);go_wp2;go_roundw;(case rel=>refine⟨k+1,by omega,by have:=HN.out;congr 1;omega,?_,?_⟩;(·rw[Kv,Kv,Kv,Kv,Kv,Zr,Zr,Zr,Zr,Zr];(have e:VH st (k+1)=((((S.set n (A^^^(C&&&~~~B))).set (n+1) (B^^^(D&&&~~~C))).set (n+2) (C^^^(E&&&~~~D))).set (n+3) (D^^^(A&&&~~~E))).set (n+4) (E^^^(B&&&~~~A)):=by simp only[VH,Ly,HS.out,HN.out,HA.out,HB.out,HC.out,HD.out,HE.out]);rw[e];exact(((((hst.drewN nq).set n _).set (n+1) _).set (n+2) _).set (n+3) _).set (n+4) _);·exact Qg (Qg (Qg (Qg (Qg (Qn hg nq) n _) (n+1) _) (n+2) _) (n+3) _) (n+4) _);case measure=>simp[intOf];omega);·(obtain rfl:k=5:=by omega);go_wp2;go_end0;exact⟨rfl,hst,hg⟩
end
def Lf(st:List (BitVec 64))(x:Nat):BitVec 64:=st.getD x 0^^^st.getD (x+5) 0^^^st.getD (x+10) 0^^^st.getD (x+15) 0^^^st.getD (x+20) 0
def Vg(st:List (BitVec 64)):Nat->List (BitVec 64)|0=>[0,0,0,0,0]|k+1=>(Vg st k).set k (Lf st k)
def cJ(c:List (BitVec 64)):List (BitVec 64):=[c.getD 4 0^^^xD (c.getD 1 0) 1,c.getD 0 0^^^xD (c.getD 2 0) 1,c.getD 1 0^^^xD (c.getD 3 0) 1,c.getD 2 0^^^xD (c.getD 4 0) 1,c.getD 3 0^^^xD (c.getD 0 0) 1]
def FW(d st:List (BitVec 64))(k:Nat):List (BitVec 64):=let y:=d.getD k 0;((((st.set k (st.getD k 0^^^y)).set (k+5) (st.getD (k+5) 0^^^y)).set (k+10) (st.getD (k+10) 0^^^y)).set (k+15) (st.getD (k+15) 0^^^y)).set (k+20) (st.getD (k+20) 0^^^y)
def jQ(d st:List (BitVec 64)):Nat->List (BitVec 64)|0=>st|k+1=>FW d (jQ d st k) k
theorem bY(w:I)(b:Nat)(st:List (BitVec 64))(h:St w b st):rX tB 146 #[.pointer (F ⟨b,0,H⟩)] w fun e w'=>e=sQ (pV #[])∧St w' b (jQ (cJ (Vg st 5)) st 5)∧J w w' (F b):=by
 have hbn:b≠w.heap.size:=Nat.ne_of_lt h.lt;have h0:=h;go_enter Tryz.func146,Tryz.ntmps146;go_wp2_with fail;go_loopw[6](fun i wr=>∃k:Nat,k<=5∧i=tK sZ (k:Int)∧St wr b st∧XZ 5 wr w.heap.size (Vg st k)∧J w wr (F b))(fun i _=>5-(intOf i).toNat);case atStart=>exact⟨0,by omega,rfl,h.alloc _,XZ.new w 254 [0,0,0,0,0] rfl,Qw (Qb _ _) _⟩
 case round=>obtain⟨k,hk,rfl,hst,hcl,hg⟩:=hrel;by_cases hlt:k<5;(·have c0:=hst.cell k (by omega);have c1:=hst.cell (k+5) (by omega);have c2:=hst.cell (k+10) (by omega);have c3:=hst.cell (k+15) (by omega);have c4:=hst.cell (k+20) (by omega);have d0:=hcl.cell k hlt;have hf:=hcl.frozen k;generalize hx0:st.getD k 0=x0 at*;generalize hx1:st.getD (k+5) 0=x1 at*;generalize hx2:st.getD (k+10) 0=x2 at*;generalize hx3:st.getD (k+15) 0=x3 at*;generalize hx4:st.getD (k+20) 0=x4 at*;(have HX:Hid (Lf st k=x0^^^x1^^^x2^^^x3^^^x4):=by show Lf st k=_;simp only[Lf,hx0,hx1,hx2,hx3,hx4]);generalize hcc:Vg st k=cc at*;have HC:Hid (Vg st k=cc):=hcc;generalize hy:cc.getD k 0=y at*;clear hx0 hx1 hx2 hx3 hx4 hcc hy h;(have i1:(k:Int)+20<25:=by omega);(have i2:(k:Int)<5:=by omega);go_wp2_with fail;go_region;(all_goals go_wp2);go_roundw;(case rel=>rw[Zr,Zr,Zr,Zr];have hlt':=hst.lt;have hlt2:=hcl.lt;refine⟨k+1,by omega,by go_num,(hst.setOther _ hbn _ _).drew,?_,Qk (Qc hg _ (sA _) _ _)⟩;simp only[Vg,HC.out,HX.out];exact(hcl.set k _).drew);case measure=>simp[intOf];omega);·(obtain rfl:k=5:=by omega);have e0:=hcl.cell 0 (by omega);have e1:=hcl.cell 1 (by omega);have e2:=hcl.cell 2 (by omega);have e3:=hcl.cell 3 (by omega);have e4:=hcl.cell 4 (by omega);generalize hcc:Vg st 5=cc at*;have HC:Hid (Vg st 5=cc):=hcc;generalize hx0:cc.getD 0 0=x0 at*;generalize hx1:cc.getD 1 0=x1 at*;generalize hx2:cc.getD 2 0=x2 at*;generalize hx3:cc.getD 3 0=x3 at*;generalize hx4:cc.getD 4 0=x4 at*;(have HD:Hid (cJ cc=[x4^^^xD x1 1,x0^^^xD x2 1,x1^^^xD x3 1,x2^^^xD x4 1,x3^^^xD x0 1]):=by show cJ cc=_;simp only[cJ,hx0,hx1,hx2,hx3,hx4]);clear hcc hx0 hx1 hx2 hx3 hx4 h;have hwr:=hcl.lt;go_upto_region 6with fail;go_cut[4](fun s4 wx=>s4=.pointer (F ⟨wr.heap.size,0,H⟩)∧St wx b st∧XZ 5 wx wr.heap.size (cJ cc)∧J w wx (F b));(case first=>go_region_held3(fun w'=>w'.cell? ⟨w.heap.size,0,H⟩=F (tK .u64 (U x0))∧w'.cell? ⟨w.heap.size,1,H⟩=F (tK .u64 (U x1))∧w'.cell? ⟨w.heap.size,2,H⟩=F (tK .u64 (U x2))∧w'.cell? ⟨w.heap.size,3,H⟩=F (tK .u64 (U x3))∧w'.cell? ⟨w.heap.size,4,H⟩=F (tK .u64 (U x4)))(go_keep)(first|(go_at_call 166;refine(L3 _ (1:Int) (by omega) (by omega) _).mono ?_;rintro e w'⟨rfl,rfl⟩));all_goals(go_wp2_with fail;go_meet;case rel=>(rw[HD.out,Zr,Zr,Zr,Zr,Zr];exact⟨rfl,(hst.alloc _).drew,(XZ.new wr 254 [x4^^^xD x1 1,x0^^^xD x2 1,x1^^^xD x3 1,x2^^^xD x4 1,x3^^^xD x0 1] rfl).drew,Qk (Qw hg _)⟩)));case rest=>obtain⟨rfl,hst2,hd2,hg2⟩:=hcut;clear e0 e1 e2 e3 e4 hst hcl hg;(have hbw:b≠wr.heap.size:=by have:=h0.lt;omega);generalize hD:cJ cc=dd at*;have HDD:Hid (cJ cc=dd):=hD;clear hD HD;generalize hdn:wr.heap.size=db at*;clear hdn hwr;go_wp2_with fail;go_loopw[76](fun i wr=>∃k:Nat,k<=5∧i=tK sZ (k:Int)∧St wr b (jQ dd st k)∧XZ 5 wr db dd∧J w wr (F b))(fun i _=>5-(intOf i).toNat);(case atStart=>exact⟨0,by omega,rfl,hst2,hd2,hg2⟩);case round=>clear hst2 hd2 hg2;obtain⟨k,hk,rfl,hst,hd,hg⟩:=hrel;by_cases hlt:k<5;(·have c0:=hst.cell k (by omega);have c1:=hst.cell (k+5) (by omega);have c2:=hst.cell (k+10) (by omega);have c3:=hst.cell (k+15) (by omega);have c4:=hst.cell (k+20) (by omega);have d0:=hd.cell k hlt;have hf:=hst.frozen;generalize hS:jQ dd st k=S at*;have HS:Hid (jQ dd st k=S):=hS;generalize hy:dd.getD k 0=y at*;generalize hx0:S.getD k 0=x0 at*;generalize hx1:S.getD (k+5) 0=x1 at*;generalize hx2:S.getD (k+10) 0=x2 at*;generalize hx3:S.getD (k+15) 0=x3 at*;generalize hx4:S.getD (k+20) 0=x4 at*;(have HX:Hid (FW dd S k=((((S.set k (x0^^^y)).set (k+5) (x1^^^y)).set (k+10) (x2^^^y)).set (k+15) (x3^^^y)).set (k+20) (x4^^^y)):=by show FW dd S k=_;simp only[FW,hy,hx0,hx1,hx2,hx3,hx4]);clear hS hy hx0 hx1 hx2 hx3 hx4;(have i1:(k:Int)+20<25:=by omega);(have i2:(k:Int)<5:=by omega);go_wp2_with fail;go_region;go_wp2_with fail;go_region;go_wp2_with fail;go_region;go_wp2_with fail;go_region;go_wp2_with fail;go_region;go_wp2_with fail;go_roundw;(case rel=>rw[Zr,Zr,Zr,Zr,Zr];refine⟨k+1,by omega,by go_num,?_,?_,?_⟩;(·simp only[jQ,HS.out,HX.out];exact(((((hst.set k _).set (k+5) _).set (k+10) _).set (k+15) _).set (k+20) _).drew.drew.drew.drew.drew);(·exact(((((hd.setOther b hbw.symm k _).setOther b hbw.symm (k+5) _).setOther b hbw.symm (k+10) _).setOther b hbw.symm (k+15) _).setOther b hbw.symm (k+20) _).drew.drew.drew.drew.drew);·exact Qk (Qk (Qk (Qk (Qk (Qg (Qg (Qg (Qg (Qg hg k _) (k+5) _) (k+10) _) (k+15) _) (k+20) _))))));case measure=>simp[intOf];omega);·(obtain rfl:k=5:=by omega);go_wp2;go_end0;refine⟨rfl,?_,hg⟩;rw[HC.out,HDD.out];exact hst
def Jw:List Nat:=[10,7,11,17,18,3,5,16,8,21,24,4,15,23,19,13,12,2,20,14,22,9,6,1]
def J4:List Nat:=[1,3,6,10,15,21,28,36,45,55,2,14,27,41,56,8,25,43,62,18,39,61,20,44]
def Jy:List (BitVec 64):=[0x0000000000000001,0x0000000000008082,0x800000000000808a,0x8000000080008000,0x000000000000808b,0x0000000080000001,0x8000000080008081,0x8000000000008009,0x000000000000008a,0x0000000000000088,0x0000000080008009,0x000000008000000a,0x000000008000808b,0x800000000000008b,0x8000000000008089,0x8000000000008003,0x8000000000008002,0x8000000000000080,0x000000000000800a,0x800000008000000a,0x8000000080008081,0x8000000000008080,0x0000000080000001,0x8000000080008008]
theorem eL(k:Nat)(h:k<24):Jw.getD k 0<25:=(by
 decide:∀k:Fin 24,Jw.getD k.1 0<25) ⟨k,h⟩
theorem Ov(k:Nat)(h:k<24):J4.getD k 0<64:=(by
 decide:∀k:Fin 24,J4.getD k.1 0<64) ⟨k,h⟩
structure YF(w:I):Prop where nums:∀i,i<24->w.cell? ⟨2,i,H⟩=F (tK .u64 (U (Jy.getD i 0)))walk:∀i,i<24->w.cell? ⟨3,i,H⟩=F (tK sZ ((Jw.getD i 0:Nat):Int))turns:∀i,i<24->w.cell? ⟨4,i,H⟩=F (tK sZ ((J4.getD i 0:Nat):Int))
theorem YF.grown{w w':I}{b:Nat}(h:YF w)(hg:J w w' (F b))(hb:5<=b):YF w':=⟨fun i hi=>hg.cell (h.nums i hi) (by
 simp;omega),fun i hi=>hg.cell (h.walk i hi) (by
 simp;omega),fun i hi=>hg.cell (h.turns i hi) (by
 simp;omega)⟩
def JU(st:List (BitVec 64)):Nat->List (BitVec 64)×BitVec 64|0=>(st,st.getD 1 0)|k+1=>((JU st k).1.set (Jw.getD k 0) (xD (JU st k).2 (J4.getD k 0)),(JU st k).1.getD (Jw.getD k 0) 0)
theorem aQ(w:I)(b:Nat)(hb:5<=b)(st:List (BitVec 64))(h:St w b st)(ht:YF w):rX tB 147 #[.pointer (F ⟨b,0,H⟩)] w fun e w'=>e=sQ (pV #[])∧St w' b (JU st 24).1∧J w w' (F b):=by
 have c1:=h.cell 1 (by omega);go_enter Tryz.func147,Tryz.ntmps147;go_wp2;go_loopw[2,10](fun m i wr=>∃k:Nat,k<=24∧i=tK sZ (k:Int)∧m=tK .u64 (U (JU st k).2)∧St wr b (JU st k).1∧J w wr (F b))(fun _ i _=>24-(intOf i).toNat);case atStart=>exact⟨0,by omega,rfl,by simp[JU],h,Qb _ _⟩
 case round=>obtain⟨k,hk,rfl,rfl,hst,hg⟩:=hrel;clear c1;by_cases hlt:k<24;(·have hT:=ht.grown hg hb;have hw:=eL k hlt;have hr:=Ov k hlt;have t1:=hT.walk k hlt;have t2:=hT.turns k hlt;have c:=hst.cell (Jw.getD k 0) hw;have hf:=hst.frozen;generalize hS:(JU st k).1=S at*;have HS:Hid ((JU st k).1=S):=hS;generalize hM:(JU st k).2=M at*;have HM:Hid ((JU st k).2=M):=hM;generalize hW:Jw.getD k 0=W at*;have HW:Hid (Jw.getD k 0=W):=hW;generalize hR:J4.getD k 0=R at*;have HR:Hid (J4.getD k 0=R):=hR;clear hS hM hW hR;generalize hX:S.getD W 0=X at*;have HX:Hid (S.getD W 0=X):=hX;clear hX hT ht h;(have i1:(W:Int)<25:=by omega);go_wp2_with fail;go_region_with(go_at_call 166;refine(L3 M (R:Int) (by omega) (by omega) _).mono ?_;rintro e w'⟨rfl,rfl⟩);(all_goals go_wp2);go_roundw;(case rel=>refine⟨k+1,by omega,by go_num,?_,?_,Qk (Qg hg _ _)⟩;(·simp only[JU,HS.out,HW.out,HX.out]);·simp only[JU,HS.out,HM.out,HW.out,HR.out];exact(hst.set W _).drew);case measure=>simp[intOf];omega);·(obtain rfl:k=24:=by omega);go_wp2;go_end0;exact⟨rfl,hst,hg⟩
def Ad(st:List (BitVec 64))(n:BitVec 64):List (BitVec 64):=let r:=VH (JU (jQ (cJ (Vg st 5)) st 5) 24).1 5;r.set 0 (r.getD 0 0^^^n)
theorem I0(w:I)(b:Nat)(hb:5<=b)(st:List (BitVec 64))(n:BitVec 64)(h:St w b st)(ht:YF w):rX tB 128 #[.pointer (F ⟨b,0,H⟩),tK .u64 (U n)] w fun e w'=>e=sQ (pV #[])∧St w' b (Ad st n)∧J w w' (F b):=by
 go_enter Tryz.func128,Tryz.ntmps128;go_wp2_with fail;refine(bY _ b st h).mono ?_;rintro e w1⟨rfl,h1,g1⟩;go_wp2_with fail;refine(aQ _ b hb _ h1 (ht.grown g1 hb)).mono ?_;rintro e w2⟨rfl,h2,g2⟩;go_wp2_with fail;refine(Ob _ b _ h2).mono ?_;rintro e w3⟨rfl,h3,g3⟩;have g:=Qa g1 (Qa g2 g3);clear g1 g2 g3 h1 h2 h ht;have HR:Hid (Ad st n=(VH (JU (jQ (cJ (Vg st 5)) st 5) 24).1 5).set 0 ((VH (JU (jQ (cJ (Vg st 5)) st 5) 24).1 5).getD 0 0^^^n)):=rfl;generalize VH (JU (jQ (cJ (Vg st 5)) st 5) 24).1 5=S at*;have c0:=h3.cell 0 (by omega);have hf:=h3.frozen 0;generalize hx:S.getD 0 0=x at*;clear hx;go_wp2_with fail;go_region;go_wp2_with fail;go_end0;refine⟨rfl,?_,Qk (Qg g 0 _)⟩;rw[HR.out,Zr];exact(h3.set 0 _).drew
def kA{α:Type}(p:α->Bool):List α->Option Nat|[]=>H|a::l=>if p a=N then F 0 else(kA p l).map (·+1)
def ZU{α:Type}(p:α->Bool)(l:List α):Int:=match kA p l with|F i=>(i:Int)|none=>-1
theorem Te{α:Type}(p:α->Bool)(d:α):∀(l:List α)(m:Nat),m<l.length->(l.take m).any p=tA->p (l.getD m d)=N->kA p l=F m|[],_,h,_,_=>by simp at h|a::l,0,_,_,h=>by have h':p a=N:=h;rw[kA,if_pos h']|a::l,m+1,h0,h1,h2=>by rw[sG,rT,rP]at h1;rw[kA,if_neg (by rw[h1.1];decide),Te p d l m (by simpa using h0) h1.2 (by simpa using h2)];rfl
theorem P0{α:Type}(p:α->Bool):∀(l:List α),l.any p=tA->kA p l=H|[],_=>rfl|a::l,h=>by rw[rT,rP]at h;rw[kA,if_neg (by rw[h.1];decide),P0 p l h.2];rfl
theorem qP{α:Type}(p:α->Bool)(d:α)(l:List α)(m:Nat)(h:m<l.length)(h1:(l.take m).any p=tA)(h2:p (l.getD m d)=N):ZU p l=(m:Int):=by
 rw[ZU,Te p d l m h h1 h2]
theorem KT{α:Type}(p:α->Bool)(l:List α)(h:l.any p=tA):ZU p l=-1:=by
 rw[ZU,P0 p l h]
theorem U7{α:Type}(p:α->Bool)(d:α):∀(l:List α),l.any p=N->∃m,m<l.length∧(l.take m).any p=tA∧p (l.getD m d)=N∧ZU p l=(m:Int)|[],h=>by simp at h|a::l,h=>by by_cases ha:p a=N;(·exact⟨0,by simp,by simp,ha,qP p d (a::l) 0 (by simp) (by simp) ha⟩);·(have hf:p a=tA:=by simpa using ha);rw[rT,hf,Bool.false_or]at h;obtain⟨m,h1,h2,h3,_⟩:=U7 p d l h;(have e1:m+1<(a::l).length:=by simp;omega);(have e2:((a::l).take (m+1)).any p=tA:=by rw[sG,rT,hf,h2];rfl);(have e3:p ((a::l).getD (m+1) d)=N:=by simpa using h3);exact⟨m+1,e1,e2,e3,qP p d _ _ e1 e2 e3⟩
theorem kL{α:Type}(p:α->Bool)(l:List α):(ZU p l==-1)=!(l.any p):=by
 cases h:l.any p with|false=>rw[KT p l h];rfl|true=>cases l with|nil=>simp at h|cons a l=>obtain⟨m,_,_,_,e⟩:=U7 p a (a::l) h;rw[e];(have:((m:Int)==-1)=tA:=by simp);rw[this];rfl
theorem TG{α:Type}(p:α->Bool)(l:List α):tI (0<=ZU p l)=l.any p:=by
 cases h:l.any p with|false=>rw[KT p l h];rfl|true=>cases l with|nil=>simp at h|cons a l=>obtain⟨m,_,_,_,e⟩:=U7 p a (a::l) h;rw[e];simp
theorem KW(w:I)(v1 v2:O)(b1 b2:List UInt8)(h1:Qe w v1 b1)(h2:Qe w v2 b2):rX tB 56 #[v1,v2] w fun e w'=>e=sQ (pO (tI (b1=b2)))∧w'=w:=by
 have c1:=qG w v1 b1 h1;have c2:=qG w v2 b2 h2;go_enter Tryz.func56,Tryz.ntmps56;go_wp2;go_ret;refine⟨?_,rfl⟩;have e:((qO b1).toList==(qO b2).toList)=tI (b1=b2):=by rw[V8,V8];by_cases h:b1=b2<;>simp[h]
 rw[<-e];rfl
theorem vS(p:Zb):QN [] [p]=Qz p:=by
 have h0:Q9 []=0:=(XM []).2 VI;rw[QN,if_pos h0,if_neg (by simp),ZP];by_cases h:Qz p=0;·have h2:=zV VI h Nm (by omega);have h3:(QW [] p).length<=1:=P7 [] p;rw[if_neg (by omega)]at h2;rw[if_pos h,if_pos h2,ZP,h]
 ·rw[if_neg h]
def F1:Prop:=∀(w:I)(a:Option pE)(n cap:Nat),rX tB 68 #[tH a n cap] w fun e w'=>e=sQ (tK sZ (Qq n))∧J w w' H
theorem YN:F1:=by
 intro w a n cap;by_cases h1:1<=n;·by_cases h2:n<=16;(·rw[Qq,if_pos ⟨h1,h2⟩];(have t1:¬(n:Int)<1:=by omega);(have t2:¬(n:Int)>16:=by omega);go_enter pP,pF;go_wp2;go_ret;exact⟨rfl,Qb _ _⟩);·rw[Qq,if_neg (by omega)];(have t1:¬(n:Int)<1:=by omega);(have t2:(n:Int)>16:=by omega);go_enter pP,pF;go_wp2;go_ret;exact⟨rfl,Qb _ _⟩
 ·rw[Qq,if_neg (by omega)];(have t1:(n:Int)<1:=by omega);go_enter pP,pF;go_wp2;go_ret;exact⟨rfl,Qb _ _⟩
def Zt(l:PL)(k:List UInt8):Nat:=(l.takeWhile fun p=>YI p.1 k).length
def GK(l:PL)(k:List UInt8):Bool:=tI (Zt l k<l.length∧(l.getD (Zt l k) ([],[])).1=k)
def XQ(l:PL)(k:List UInt8):Nat:=if GK l k=N then Zt l k+1 else Zt l k
theorem xW(l:PL)(k:List UInt8):Zt l k<=l.length:=by
 induction l with|nil=>simp[Zt]|cons p r ih=>unfold Zt at ih⊢;rw[pT];cases h:YI p.1 k with|true=>simpa using ih|false=>simp
theorem OS:∀(l:PL)(k:List UInt8)(i:Nat),i<=l.length->(∀j,j<i->YI (l.getD j ([],[])).1 k=N)->(i<l.length->YI (l.getD i ([],[])).1 k=tA)->Zt l k=i|[],k,i,h,_,_=>by(obtain rfl:i=0:=by simpa using h);rfl|p::r,k,0,_,_,h2=>by have:=h2 (by simp);simp only[tX]at this;simp[Zt,this]|p::r,k,i+1,h,h1,h2=>by have h0:=h1 0 (by omega);simp only[tX]at h0;have:=OS r k i (by simpa using h) (fun j hj=>by simpa using h1 (j+1) (by omega)) (fun hi=>by simpa using h2 (by simpa using hi));unfold Zt at this⊢;rw[tM (p:=fun p:Pr=>YI p.1 k) h0];simpa using this
theorem Mj:∀(l:PL)(k:List UInt8)(j:Nat),j<Zt l k->YI (l.getD j ([],[])).1 k=N|[],k,j,h=>by simp[Zt]at h|p::r,k,j,h=>by cases hk:YI p.1 k with|false=>simp[Zt,hk]at h|true=>cases j with|zero=>simpa using hk|succ j=>unfold Zt at h;rw[tM (p:=fun p:Pr=>YI p.1 k) hk]at h;have:=Mj r k j (by unfold Zt;simpa using h);simpa using this
theorem MI:∀(l:PL)(k:List UInt8),Zt l k<l.length->YI (l.getD (Zt l k) ([],[])).1 k=tA|[],k,h=>by simp at h|p::r,k,h=>by cases hk:YI p.1 k with|false=>simp[Zt,hk]|true=>(have e:Zt (p::r) k=Zt r k+1:=by unfold Zt;rw[tM (p:=fun p:Pr=>YI p.1 k) hk];simp);rw[e]at h⊢;have:=MI r k (by simpa using h);simpa using this
theorem kZ(l:PL)(k:List UInt8)(hr:Uk l)(j:Nat)(hj:j<l.length):YI (l.getD j ([],[])).1 k=tI (j<Zt l k):=by
 by_cases h:j<Zt l k;·rw[decide_eq_true h];exact Mj l k j h
 ·rw[decide_eq_false h];have h0:=MI l k (by omega);by_cases e:j=Zt l k;(·rw[e];exact h0);·cases hk:YI (l.getD j ([],[])).1 k with|false=>rfl|true=>have:=Kb _ _ _ (UD l hr (Zt l k) j (by omega) hj) hk;rw[this]at h0;cases h0
theorem vK{l:PL}{k:List UInt8}(h:GK l k=N):Zt l k<l.length∧(l.getD (Zt l k) ([],[])).1=k:=by
 simpa only[GK,decide_eq_true_eq]using h
theorem yO(l:PL)(k:List UInt8):Zt l k<=XQ l k∧XQ l k<=l.length∧XQ l k<=Zt l k+1:=by
 have:=xW l k;unfold XQ;by_cases h:GK l k=N;·rw[if_pos h];have:=(vK h).1;omega
 ·rw[if_neg h];omega
theorem F3(l:PL)(k:List UInt8)(hr:Uk l)(j:Nat)(hj:j<l.length)(he:(l.getD j ([],[])).1=k):GK l k=N∧j=Zt l k:=by
 have hp:Zt l k=j:=by refine OS l k j (by omega) (fun i hi=>?_) (fun _=>?_);(·rw[<-he];exact UD l hr i j hi hj);·rw[he];exact Ya k
 refine⟨?_,hp.symm⟩;rw[GK,hp];exact decide_eq_true ⟨hj,he⟩
theorem dB(l:PL)(k:List UInt8)(hr:Uk l):El l k=if GK l k=N then F (l.getD (Zt l k) ([],[])).2 else H:=by
 by_cases h:GK l k=N;·rw[if_pos h];obtain⟨h1,h2⟩:=vK h;refine OL l k _ h1 (fun j hj e=>?_) h2;have:=Mj l k j hj;rw[e,Ya]at this;cases this
 ·rw[if_neg h];exact D7 l k fun j hj e=>h (F3 l k hr j hj e).1
theorem Ck(l:PL)(p:Pr):J9 l p=l.take (Zt l p.1)++([p]++l.drop (XQ l p.1)):=by
 rw[LZ l p (Zt l p.1) (xW l p.1) (fun j hj=>Mj l p.1 j hj) (MI l p.1)];by_cases h:Zt l p.1<l.length∧(l.getD (Zt l p.1) ([],[])).1=p.1;·rw[if_pos h,XQ,if_pos (by rw[GK];exact decide_eq_true h),rW,if_pos h.1];rfl
 ·rw[if_neg h,XQ,if_neg (by rw[GK];simpa using h)]
theorem Oi(l:PL)(p:Pr):(J9 l p).length=Zt l p.1+1+(l.length-XQ l p.1):=by
 rw[Ck];have h1:=xW l p.1;simp;omega
theorem I7(l:PL)(p:Pr)(hl:l.length<=60):(60<(J9 l p).length)↔(Zt l p.1=XQ l p.1∧l.length=60):=by
 rw[Oi];have:=yO l p.1;omega
theorem CG(l:PL)(f:Pr->Bool)(n:Nat)(hn:n<=l.length)(h1:∀j,j<n->f (l.getD j ([],[]))=tA)(h2:∀j,n<=j->j<l.length->f (l.getD j ([],[]))=N):l.filter f=l.drop n:=by
 have e:l=l.take n++l.drop n:=(tE n l).symm;have ha:(l.take n).filter f=[]:=by rw[sJ];intro q hq;obtain⟨j,hj,rfl⟩:=L.1 hq;(have hjn:j<n:=by simp at hj;omega);have:=h1 j hjn;rw[sE];rw[show l[j]'(by omega)=l.getD j ([],[])by simp[show j<l.length by omega],this];simp
 have hb:(l.drop n).filter f=l.drop n:=by rw[tN];intro q hq;obtain⟨j,hj,rfl⟩:=L.1 hq;(have hjn:n+j<l.length:=by simp at hj;omega);rw[sM,show l[n+j]=l.getD (n+j) ([],[])by simp[hjn]];exact h2 _ (by omega) hjn
 conv=>lhs;rw[e]
 rw[sI,ha,hb,pB]
theorem C5(l:PL)(f:Pr->Bool)(n:Nat)(hn:n<=l.length)(h1:∀j,j<n->f (l.getD j ([],[]))=N)(h2:∀j,n<=j->j<l.length->f (l.getD j ([],[]))=tA):l.filter f=l.take n:=by
 have e:l=l.take n++l.drop n:=(tE n l).symm;have hb:(l.drop n).filter f=[]:=by rw[sJ];intro q hq;obtain⟨j,hj,rfl⟩:=L.1 hq;(have hjn:n+j<l.length:=by simp at hj;omega);rw[sM,show l[n+j]=l.getD (n+j) ([],[])by simp[hjn],h2 _ (by omega) hjn];simp
 have ha:(l.take n).filter f=l.take n:=by rw[tN];intro q hq;obtain⟨j,hj,rfl⟩:=L.1 hq;(have hjn:j<n:=by simp at hj;omega);rw[sE,show l[j]'(by omega)=l.getD j ([],[])by simp[show j<l.length by omega]];exact h1 j hjn
 conv=>lhs;rw[e]
 rw[sI,ha,hb,tV]
theorem OZ(l:PL)(k:List UInt8)(hr:Uk l):kB l k=l.take (Zt l k)++l.drop (XQ l k):=by
 by_cases h:GK l k=N;·obtain⟨h1,h2⟩:=vK h;(have e:l=l.take (Zt l k)++(l.getD (Zt l k) ([],[])::l.drop (Zt l k+1)):=by(conv=>lhs;rw[<-tE (Zt l k) l,sD h1]);simp[h1]);have hne:∀j,j<l.length->j≠Zt l k->(l.getD j ([],[])).1≠k:=fun j hj hn e=>hn (F3 l k hr j hj e).2;(have ha:(l.take (Zt l k)).filter (fun q=>!(q.1==k))=l.take (Zt l k):=by rw[tN];intro q hq;obtain⟨j,hj,rfl⟩:=L.1 hq;(have hjn:j<Zt l k:=by simp at hj;omega);rw[sE,show l[j]'(by omega)=l.getD j ([],[])by simp[show j<l.length by omega]];simpa using hne j (by omega) (by omega));(have hb:(l.drop (Zt l k+1)).filter (fun q=>!(q.1==k))=l.drop (Zt l k+1):=by rw[tN];intro q hq;obtain⟨j,hj,rfl⟩:=L.1 hq;(have hjn:Zt l k+1+j<l.length:=by simp at hj;omega);rw[sM,show l[Zt l k+1+j]=l.getD (Zt l k+1+j) ([],[])by simp[hjn]];simpa using hne _ hjn (by omega));rw[XQ,if_pos h,kB];(conv=>lhs;rw[e]);rw[sI,rM (by simpa using h2),ha,hb]
 ·rw[XQ,if_neg h,tE,kB,tN];intro q hq;obtain⟨j,hj,rfl⟩:=L.1 hq;have:=fun e=>h (F3 l k hr j hj e).1;rw[show l.getD j ([],[])=l[j]by simp[hj]]at this;simpa using this
theorem Fi(l:PL)(k:List UInt8)(hr:Uk l)(j:Nat)(hj:j<l.length):YI k (l.getD j ([],[])).1=tI (XQ l k<=j):=by
 have hp:=kZ l k hr j hj;have hn:=yO l k;by_cases h1:j<Zt l k;·rw[decide_eq_true h1]at hp;rw[Hr _ _ hp,decide_eq_false (by omega)]
 ·rw[decide_eq_false h1]at hp;by_cases e:(l.getD j ([],[])).1=k;(·obtain⟨h2,h3⟩:=F3 l k hr j hj e;rw[e,Ya,XQ,if_pos h2,decide_eq_false (by omega)]);·rw[Uw _ _ hp e];by_cases h:GK l k=N;(·rw[XQ,if_pos h,decide_eq_true (by by_cases hjp:j=Zt l k;(·exact absurd (by rw[hjp];exact(vK h).2) e);·omega)]);·rw[XQ,if_neg h,decide_eq_true (by omega)]
theorem Af(l:PL)(f t:List UInt8)(hr:Uk l):Vf l f t=(l.take (max (Zt l f) (XQ l t))).drop (Zt l f):=by
 have h1:=xW l f;have h2:=yO l t;have e:Vf l f t=(l.filter fun q=>!YI t q.1).filter fun q=>!YI q.1 f:=by rw[Vf,List.filter_filter]
 rw[e,C5 l _ (XQ l t) h2.2.1 (fun j hj=>by rw[Fi l t hr j (by omega),decide_eq_false (by omega)];rfl) (fun j hj hjl=>by rw[Fi l t hr j hjl,decide_eq_true hj];rfl)];have hd:∀(n:Nat),n<=l.length->(l.take n).filter (fun q=>!YI q.1 f)=(l.take n).drop (Zt l f):=by intro n hn;by_cases hc:Zt l f<=n;(·refine CG _ _ _ (by simp;omega) (fun j hj=>?_) (fun j hj hjl=>?_);(·(have:(l.take n).getD j ([],[])=l.getD j ([],[]):=by simp[show j<n by omega]);rw[this,kZ l f hr j (by omega),decide_eq_true hj];rfl);·(have hjn:j<n:=by simp at hjl;omega);(have:(l.take n).getD j ([],[])=l.getD j ([],[]):=by simp[hjn]);rw[this,kZ l f hr j (by omega),decide_eq_false (by omega)];rfl);·rw[tW (by simp;omega),sJ];intro q hq;obtain⟨j,hj,rfl⟩:=L.1 hq;(have hjn:j<n:=by simp at hj;omega);rw[sE,show l[j]'(by omega)=l.getD j ([],[])by simp[show j<l.length by omega],kZ l f hr j (by omega),decide_eq_true (by omega)];simp
 rw[hd _ h2.2.1];by_cases hc:Zt l f<=XQ l t;·rw[Nat.max_eq_right hc]
 ·rw[Nat.max_eq_left (by omega),tW (by simp;omega),tW (by simp;omega)]
theorem NZ:∀(t:FL)(p:Tn)(k:Nat),k<=t.length->(∀j,j<k->YI (t.getD j ([],[])).1 p.1=N)->(k<t.length->YI (t.getD k ([],[])).1 p.1=tA)->YJ t p=if k<t.length∧(t.getD k ([],[])).1=p.1then t.set k p else t.take k++([p]++t.drop k)|[],p,k,hk,_,_=>by(obtain rfl:k=0:=by simpa using hk);simp[YJ]|q::r,p,0,_,_,h2=>by have h:=h2 (by simp);simp only[tX]at h;rw[YJ,if_neg (by rw[h];simp)];by_cases e:q.1=p.1;(·rw[if_pos e,if_pos ⟨by simp,by simpa using e⟩];simp);·rw[if_neg e,if_neg (fun h=>e (by simpa using h.2))];simp|q::r,p,k+1,hk,h1,h2=>by have h:=h1 0 (by omega);simp only[tX]at h;rw[YJ,if_pos h,NZ r p k (by simpa using hk) (fun j hj=>by simpa using h1 (j+1) (by omega)) (fun hk=>by simpa using h2 (by simpa using hk))];by_cases e:k<r.length∧(r.getD k ([],[])).1=p.1;(·rw[if_pos e,if_pos ⟨by simpa using e.1,by simpa using e.2⟩];simp);·rw[if_neg e,if_neg (fun h=>e ⟨by simpa using h.1,by simpa using h.2⟩)];simp
def QA(l:FL)(k:List UInt8):Nat:=(l.takeWhile fun p=>YI p.1 k).length
def J0(l:FL)(k:List UInt8):Bool:=tI (QA l k<l.length∧(l.getD (QA l k) ([],[])).1=k)
def QP(l:FL)(k:List UInt8):Nat:=if J0 l k=N then QA l k+1 else QA l k
theorem uQ(l:FL)(k:List UInt8):QA l k<=l.length:=by
 induction l with|nil=>simp[QA]|cons p r ih=>unfold QA at ih⊢;rw[pT];cases h:YI p.1 k with|true=>simpa using ih|false=>simp
theorem DI:∀(l:FL)(k:List UInt8)(i:Nat),i<=l.length->(∀j,j<i->YI (l.getD j ([],[])).1 k=N)->(i<l.length->YI (l.getD i ([],[])).1 k=tA)->QA l k=i|[],k,i,h,_,_=>by(obtain rfl:i=0:=by simpa using h);rfl|p::r,k,0,_,_,h2=>by have:=h2 (by simp);simp only[tX]at this;simp[QA,this]|p::r,k,i+1,h,h1,h2=>by have h0:=h1 0 (by omega);simp only[tX]at h0;have:=DI r k i (by simpa using h) (fun j hj=>by simpa using h1 (j+1) (by omega)) (fun hi=>by simpa using h2 (by simpa using hi));unfold QA at this⊢;rw[tM (p:=fun p:Tn=>YI p.1 k) h0];simpa using this
theorem uN:∀(l:FL)(k:List UInt8)(j:Nat),j<QA l k->YI (l.getD j ([],[])).1 k=N|[],k,j,h=>by simp[QA]at h|p::r,k,j,h=>by cases hk:YI p.1 k with|false=>simp[QA,hk]at h|true=>cases j with|zero=>simpa using hk|succ j=>unfold QA at h;rw[tM (p:=fun p:Tn=>YI p.1 k) hk]at h;have:=uN r k j (by unfold QA;simpa using h);simpa using this
theorem Pw:∀(l:FL)(k:List UInt8),QA l k<l.length->YI (l.getD (QA l k) ([],[])).1 k=tA|[],k,h=>by simp at h|p::r,k,h=>by cases hk:YI p.1 k with|false=>simp[QA,hk]|true=>(have e:QA (p::r) k=QA r k+1:=by unfold QA;rw[tM (p:=fun p:Tn=>YI p.1 k) hk];simp);rw[e]at h⊢;have:=Pw r k (by simpa using h);simpa using this
theorem Wu(l:FL)(k:List UInt8)(hr:XI l)(j:Nat)(hj:j<l.length):YI (l.getD j ([],[])).1 k=tI (j<QA l k):=by
 by_cases h:j<QA l k;·rw[decide_eq_true h];exact uN l k j h
 ·rw[decide_eq_false h];have h0:=Pw l k (by omega);by_cases e:j=QA l k;(·rw[e];exact h0);·cases hk:YI (l.getD j ([],[])).1 k with|false=>rfl|true=>have:=Kb _ _ _ (qU l hr (QA l k) j (by omega) hj) hk;rw[this]at h0;cases h0
theorem yU{l:FL}{k:List UInt8}(h:J0 l k=N):QA l k<l.length∧(l.getD (QA l k) ([],[])).1=k:=by
 simpa only[J0,decide_eq_true_eq]using h
theorem Pm(l:FL)(k:List UInt8):QA l k<=QP l k∧QP l k<=l.length∧QP l k<=QA l k+1:=by
 have:=uQ l k;unfold QP;by_cases h:J0 l k=N;·rw[if_pos h];have:=(yU h).1;omega
 ·rw[if_neg h];omega
theorem PW(l:FL)(k:List UInt8)(hr:XI l)(j:Nat)(hj:j<l.length)(he:(l.getD j ([],[])).1=k):J0 l k=N∧j=QA l k:=by
 have hp:QA l k=j:=by refine DI l k j (by omega) (fun i hi=>?_) (fun _=>?_);(·rw[<-he];exact qU l hr i j hi hj);·rw[he];exact Ya k
 refine⟨?_,hp.symm⟩;rw[J0,hp];exact decide_eq_true ⟨hj,he⟩
theorem Wv(l:FL)(k:List UInt8)(hr:XI l):Uz l k=if J0 l k=N then F (l.getD (QA l k) ([],[])).2 else H:=by
 by_cases h:J0 l k=N;·rw[if_pos h];obtain⟨h1,h2⟩:=yU h;refine Be l k _ h1 (fun j hj e=>?_) h2;have:=uN l k j hj;rw[e,Ya]at this;cases this
 ·rw[if_neg h];exact T5 l k fun j hj e=>h (PW l k hr j hj e).1
theorem RJ(l:FL)(p:Tn):YJ l p=l.take (QA l p.1)++([p]++l.drop (QP l p.1)):=by
 rw[NZ l p (QA l p.1) (uQ l p.1) (fun j hj=>uN l p.1 j hj) (Pw l p.1)];by_cases h:QA l p.1<l.length∧(l.getD (QA l p.1) ([],[])).1=p.1;·rw[if_pos h,QP,if_pos (by rw[J0];exact decide_eq_true h),rW,if_pos h.1];rfl
 ·rw[if_neg h,QP,if_neg (by rw[J0];simpa using h)]
theorem SZ(l:FL)(p:Tn):(YJ l p).length=QA l p.1+1+(l.length-QP l p.1):=by
 rw[RJ];have h1:=uQ l p.1;simp;omega
theorem TQ(l:FL)(p:Tn)(hl:l.length<=8):(8<(YJ l p).length)↔(QA l p.1=QP l p.1∧l.length=8):=by
 rw[SZ];have:=Pm l p.1;omega
theorem Av(l:FL)(k:List UInt8)(hr:XI l):Gy l k=l.take (QA l k)++l.drop (QP l k):=by
 by_cases h:J0 l k=N;·obtain⟨h1,h2⟩:=yU h;(have e:l=l.take (QA l k)++(l.getD (QA l k) ([],[])::l.drop (QA l k+1)):=by(conv=>lhs;rw[<-tE (QA l k) l,sD h1]);simp[h1]);have hne:∀j,j<l.length->j≠QA l k->(l.getD j ([],[])).1≠k:=fun j hj hn e=>hn (PW l k hr j hj e).2;(have ha:(l.take (QA l k)).filter (fun q=>!(q.1==k))=l.take (QA l k):=by rw[tN];intro q hq;obtain⟨j,hj,rfl⟩:=L.1 hq;(have hjn:j<QA l k:=by simp at hj;omega);rw[sE,show l[j]'(by omega)=l.getD j ([],[])by simp[show j<l.length by omega]];simpa using hne j (by omega) (by omega));(have hb:(l.drop (QA l k+1)).filter (fun q=>!(q.1==k))=l.drop (QA l k+1):=by rw[tN];intro q hq;obtain⟨j,hj,rfl⟩:=L.1 hq;(have hjn:QA l k+1+j<l.length:=by simp at hj;omega);rw[sM,show l[QA l k+1+j]=l.getD (QA l k+1+j) ([],[])by simp[hjn]];simpa using hne _ hjn (by omega));rw[QP,if_pos h,Gy];(conv=>lhs;rw[e]);rw[sI,rM (by simpa using h2),ha,hb]
 ·rw[QP,if_neg h,tE,Gy,tN];intro q hq;obtain⟨j,hj,rfl⟩:=L.1 hq;have:=fun e=>h (PW l k hr j hj e).1;rw[show l.getD j ([],[])=l[j]by simp[hj]]at this;simpa using this
theorem iA(l:FL)(k:List UInt8)(hr:XI l):YX l k=if J0 l k=N then(l.getD (QA l k) ([],[])).2 else[]:=by
 unfold YX;rw[Wv l k hr];by_cases h:J0 l k=N;·rw[if_pos h,if_pos h];rfl
 ·rw[if_neg h,if_neg h];rfl
theorem D9(l:FL)(k:List UInt8)(hr:XI l):((l.take (QP l k)).drop (QA l k)=[]∧YX l k=[]∧QP l k=QA l k)∨(∃t,(l.take (QP l k)).drop (QA l k)=[t]∧YX l k=t.2∧QP l k=QA l k+1):=by
 rw[iA l k hr];by_cases h:J0 l k=N;·right;obtain⟨h1,h2⟩:=yU h;refine⟨l.getD (QA l k) ([],[]),?_,by rw[if_pos h],by rw[QP,if_pos h]⟩;rw[QP,if_pos h,List.take_succ_eq_append_getElem h1,pA (by simp;omega),tW (by simp;omega),pB];simp[h1]
 ·left;refine⟨?_,by rw[if_neg h],by rw[QP,if_neg h]⟩;rw[QP,if_neg h,tW (by simp;omega)]
def dN:Prop:=∀(w:I)(a:Option pE)(n cap:Nat),rX tB 33 #[tH a n cap] w fun e w'=>e=sQ (tK sZ (Qt n))∧J w w' H
def L9:Prop:=∀(w:I)(v:O)(r:Rq),UX w->XJ w v r->yH r->rX tB 44 #[v] w fun e w'=>e=sQ (tK sZ (Yi r))∧J w w' H
end Go.Proofs.YtjnapechlkbfmaaGreatDoor
