/-
  Texts of this proof, joined, with few blanks: Base, LineF, SlM, PartM, Keys, PlaceM, Trees, TreeF, FitsF, ForestF, RdF, WrM0, TapeF, TapeG, KTree, KPure, ForestK, ForestE, WireF, WireG, LineG, RqMem, RqBox, RqEn, RdM0, ProofM, Sides, ForkF, Bits, Lanes, Cols, Move, Round, IdxF, EqB, ApplyOne, CheckC, CheckP, PosF, FPosF, FCName, RqCk.
-/
import Derived.WalkKit
import Derived.WalkSpells
import Derived.WalkLawsBesides
import Derived.BigRegion
import Derived.Deep.QuietTactic
import Derived.BigQuiet
import Derived.Deep.RegionHeld3
import Derived.Deep.DeepCutAuto
import Derived.Lib.Strings
import Derived.Test.YtahggnmfofgddaaGreatDoorChecked
set_option maxRecDepth 100000
set_option maxHeartbeats 8000000
open Array renaming getElem?_eq_some_iff->tL,getElem?_modify->tQ,ext->oW
open BitVec renaming ofInt->sB,ofInt_natCast->pP
open Bool renaming true->N,false->V,or_eq_false_iff->rU,and_eq_true->oN,or_eq_true->oQ
open Classical renaming byContradiction->sQ
open Decidable renaming decide->tI
open Go renaming World->I,Value->O,TypeId->rA,heap_alloc_new->rO,Calls->r8,Addr->pH,maxLen->oY,info_parts->o5
open Go.Ending renaming returned->sS
open Go.IntKind renaming i64->rC,u64->rI,u8->rK,wrap_u64->rY
open Go.Obj renaming cells->tJ
open Go.Op renaming bytesLess->sJ
open Go.Proofs.Tryz renaming prog->tA,underlying24->sN,ntmps41->pI,func41->pT
open Go.Value renaming slice->tH,int->tK,agg->pR,bool->pS,tuple->pZ,ownBlock->oP
open Go.Value.slice renaming injEq->rG
open Go.World renaming grownBy->J,setCell->tG,cell?->tZ,frozen?->sZ,grownBy_alloc->rV
open Int renaming toNat_natCast->rN,le_refl->oX
open List renaming mem_iff_getElem->L,length_append->T,append_assoc->tB,eq_nil_of_length_eq_zero->tD,take_append_drop->tE,takeWhile_cons_of_pos->tM,filter_eq_self->tN,mem_cons->tS,drop_eq_nil_of_le->tV,getD_cons_zero->tW,mem_cons_of_mem->tX,append_nil->tY,drop_eq_getElem_cons->sD,getElem_take->sE,getElem_mem->sH,take_succ_cons->sI,filter_append->sK,filter_eq_nil_iff->sL,getElem_drop->sP,pairwise_singleton->sU,getElem?_map->sW,length_filter_le->rB,pairwise_cons->rJ,flatMap_cons->rM,getElem?_eq_getElem->rP,take_left'->rS,drop_left'->rT,any_cons->rW,mem_cons_self->rX,set_eq_take_append_cons_drop->r7,length_cons->pA,mem_filter->pB,take_append_of_le_length->pC,drop_append_of_le_length->pD,nil_append->pE,getElem?_eq_some_iff->pF,pairwise_iff_getElem->pG,filter_cons_of_neg->pJ,take_of_length_le->pK,find?_cons_of_pos->pM,find?_cons_of_neg->pN,drop_succ_cons->pV,takeWhile_cons->pX,getElem?_take->pY,length_drop->oO,map_cons->oS,take_nil->oT
open List.Pairwise renaming cons->tU,filter->sV,nil->rD
open Nat renaming lt_of_lt_of_le->tR,le_refl->sA,testBit_lt_two_pow->sY,pow_le_pow_right->rF,le_trans->rH,testBit_div_two_pow->pL,div_div_eq_div_mul->pQ,eq_of_testBit_eq->pU,min_eq_left->oR,sub_self->oU,mul_one->oV
open Option renaming some->F,none->H,map_some->sR
open Option.some renaming injEq->tP,inj->pO
open Prod.mk renaming injEq->sC
open UInt8 renaming ofNat->tC,lt_iff_toNat_lt->sM,toNat_ofNat'->pW,toNat_inj->oM
namespace Go.Proofs.YtahggnmfofgddaaGreatDoor
open Go.RowKit
section
theorem Qb(w:I)(r:Option Nat):J w w r:=⟨rfl,rfl,rfl,sA _,fun _ _ _=>rfl⟩
theorem Qa{w w1 w2:I}{r:Option Nat}(h:J w w1 r)(k:J w1 w2 r):J w w2 r:=⟨k.os.trans h.os,k.tape.trans h.tape,k.output.trans h.output,rH h.size k.size,fun i hi hn=>(k.block i (tR hi h.size) hn).trans (h.block i hi hn)⟩
theorem Ql{w w1:I}{r:Option Nat}(h:J w w1 r):J w w1.drew r:=⟨h.os,h.tape,h.output,h.size,h.block⟩
theorem Qs{w w1:I}{r:Option Nat}(h:J w w1 r)(n:Nat):J w (w1.drewN n) r:=⟨h.os,h.tape,h.output,h.size,h.block⟩
theorem Qh{w w1:I}{b:Nat}(h:J w w1 (F b))(i:Nat)(v:O):J w (tG w1 ⟨b,i,H⟩ v) (F b):=Qa h ⟨rfl,rfl,rfl,by
 simp[tG],fun k _ hn=>Below.heap_setCell _ _ _ _ (by
 intro e;exact hn (by rw[e]))⟩
theorem Qu{w w1:I}{r:Option Nat}(h:J w w1 r)(o:Obj):J w (w1.alloc o) r:=Qa h (rV _ _ _)
theorem JX{w w1 w2:I}{r:Option Nat}{c:Nat}(h:J w w1 r)(hc:w.heap.size<=c)(k:J w1 w2 (F c)):J w w2 r:=⟨k.os.trans h.os,k.tape.trans h.tape,k.output.trans h.output,rH h.size k.size,fun i hi hn=>(k.block i (tR hi h.size) (by
 simp;omega)).trans (h.block i hi hn)⟩
theorem Qc{w w1:I}{r:Option Nat}(h:J w w1 r)(c:Nat)(hc:w.heap.size<=c)(i:Nat)(v:O):J w (tG w1 ⟨c,i,H⟩ v) r:=JX h hc (Qh (Qb _ _) i v)
theorem Xm(b o n:Nat):(⟨b,o,H⟩:pH).add n=⟨b,o+n,H⟩:=by
 unfold Addr.add;split;·simp_all
 ·rfl
theorem dX(w:I):(sizeOf (tA.elem 24)).run tA w=.ok 1 w:=by
 kernel_rfl
theorem eS(W:I)(pb o len cap:Nat)(l:Int)(n:Nat)(hn:l=(n:Int))(h1:n<=len)(hc:n<cap):(Instr.slice 24 (tH (F ⟨pb,o,H⟩) len cap) (F (tK rC l)) H H).run tA W=.ok (tH (F ⟨pb,o+n,H⟩) (len-n) (cap-n)) W:=by
 subst hn;rw[run_slice_l _ _ _ _ _ (by kernel_rfl) _ _ (by omega) (by omega),dX];simp only[Result.andThen,sliced,rN,sR,oV,Xm];rw[if_neg (by omega)]
theorem LU(W:I)(pb o len cap:Nat)(l:Int)(n:Nat)(hn:l=(n:Int))(hc:n<=cap)(h0:0<cap):(Instr.slice 24 (tH (F ⟨pb,o,H⟩) len cap) H (F (tK rC l)) H).run tA W=.ok (tH (F ⟨pb,o,H⟩) n cap) W:=by
 subst hn;rw[run_slice_h _ _ _ _ _ (by kernel_rfl) _ _ (by omega) (by omega),dX];simp only[Result.andThen,sliced,rN,sR,oV,Xm];rw[if_neg (by omega)];simp
def K6(w:I)(pb o:Nat)(bs:List UInt8):Prop:=∀i,i<bs.length->w.cell? ⟨pb,o+i,H⟩=F (tK rK ((bs.getD i 0).toNat:Int))
theorem K6.drew{w:I}{pb o:Nat}{bs:List UInt8}(h:K6 w pb o bs):K6 w.drew pb o bs:=h
theorem K6.grown{w w':I}{pb o:Nat}{bs:List UInt8}{r:Option Nat}(h:K6 w pb o bs)(hg:J w w' r)(hr:F pb≠r):K6 w' pb o bs:=fun i hi=>hg.cell (h i hi) hr
def Z5(bs:List UInt8):Array O:=(bs.map fun c=>tK rK (c.toNat:Int)).toArray
def ZS(w:I)(b:Nat)(bs:List UInt8):Prop:=∃t,w.heap[b]?=F (tJ (Z5 bs) t (0,0))
section
variable{w:I}{b:Nat}{bs:List UInt8}
theorem ZS.cell(h:ZS w b bs)(i:Nat)(hi:i<bs.length):w.cell? ⟨b,i,H⟩=F (tK rK ((bs.getD i 0).toNat:Int)):=by
 obtain⟨t,hb⟩:=h;simp[tZ,hb,Z5,sW,rP hi]
theorem ZS.frozen(h:ZS w b bs)(i:Nat):w.frozen? ⟨b,i,H⟩=V:=by
 obtain⟨t,hb⟩:=h;simp[sZ,hb]
theorem ZS.lt(h:ZS w b bs):b<w.heap.size:=by
 obtain⟨t,hb⟩:=h;exact(tL.1 hb).1
theorem Ao(bs:List UInt8)(i:Nat)(x:UInt8):(Z5 bs).setIfInBounds i (tK rK (x.toNat:Int))=Z5 (bs.set i x):=by
 simp[Z5]
theorem ZS.set(h:ZS w b bs)(i:Nat)(x:UInt8):ZS (tG w ⟨b,i,H⟩ (tK rK (x.toNat:Int))) b (bs.set i x):=by
 obtain⟨t,hb⟩:=h;refine⟨t,?_⟩;simp only[tG,tQ,if_true,hb,sR];simp[Ao]
theorem ZS.drewN(h:ZS w b bs)(k:Nat):ZS (w.drewN k) b bs:=h
theorem ZS.drew(h:ZS w b bs):ZS w.drew b bs:=h
theorem ZS.alloc(h:ZS w b bs)(o:Obj):ZS (w.alloc o) b bs:=by
 have hl:=h.lt;obtain⟨t,hb⟩:=h;exact⟨t,by rw[Below.heap_alloc _ _ _ hl];exact hb⟩
theorem ZS.grown(h:ZS w b bs){w':I}{r:Option Nat}(hg:J w w' r)(hr:F b≠r):ZS w' b bs:=by
 have hl:=h.lt;obtain⟨t,hb⟩:=h;exact⟨t,by rw[hg.block b hl hr];exact hb⟩
theorem ZS.new(w:I)(t:rA)(bs:List UInt8):ZS (w.alloc (tJ (Z5 bs) t)) w.heap.size bs:=⟨t,rO w _⟩
theorem ZS.at(h:ZS w b bs)(o:Nat)(cs:List UInt8)(hc:∀i,i<cs.length->o+i<bs.length∧bs.getD (o+i) 0=cs.getD i 0):K6 w b o cs:=by
 intro i hi;rw[h.cell (o+i) (hc i hi).1,(hc i hi).2]
end
def Qe(w:I)(v:O)(bs:List UInt8):Prop:=∃a cap,v=tH a bs.length cap∧bs.length<=cap∧((bs=[]∧(a=H->cap=0))∨∃b o,a=F ⟨b,o,H⟩∧K6 w b o bs)
theorem Qe.grown{w w':I}{v:O}{bs:List UInt8}(h:Qe w v bs)(hg:J w w' H):Qe w' v bs:=by
 obtain⟨a,cap,rfl,hc,h⟩:=h;refine⟨a,cap,rfl,hc,?_⟩;rcases h with h|⟨b,o,rfl,h⟩;·exact .inl h
 ·exact .inr ⟨b,o,rfl,h.grown hg (by simp)⟩
theorem Qe.alloc{w:I}{v:O}{bs:List UInt8}(h:Qe w v bs)(o:Obj):Qe (w.alloc o) v bs:=h.grown (rV _ _ _)
theorem Qe.drew{w:I}{v:O}{bs:List UInt8}(h:Qe w v bs):Qe w.drew v bs:=h
theorem Qe.drewN{w:I}{v:O}{bs:List UInt8}(h:Qe w v bs)(n:Nat):Qe (w.drewN n) v bs:=h
theorem ZS.slice{w:I}{b:Nat}{bs:List UInt8}(h:ZS w b bs)(cap:Nat)(hc:bs.length<=cap):Qe w (tH (F ⟨b,0,H⟩) bs.length cap) bs:=⟨_,cap,rfl,hc,.inr ⟨b,0,rfl,h.at 0 bs fun i hi=>by
 simpa using hi⟩⟩
theorem Qz(w:I):Qe w (tH H 0 0) []:=⟨H,0,rfl,sA _,.inl ⟨rfl,fun _=>rfl⟩⟩
def Uw(n:Nat):List UInt8:=List.replicate n 0
theorem NU(n:Nat):(Uw n).length=n:=by
 simp[Uw]
theorem Lc(n:Nat):madeCells (tK rK 0).cells (n*1)=Z5 (Uw n):=by
 apply oW;·simp[size_madeCells,Z5,Uw]
 ·intro i h1 h2;simp[madeCells,Z5,Uw,Value.cells,Nat.mod_one]
theorem lI:(tA.info? 5).map (fun i=>(i.zero,i.size,i.bytes))=F (F (tK rK 0),1,1):=by
 kernel_rfl
theorem lE:(tA.info? 5).map (·.size)=F 1:=by
 kernel_rfl
theorem SZ(W:I)(c:Int)(n:Nat)(hc:c=(n:Int))(hn:n<=1000000):(Instr.makeSlice 24 (tK rC c) (tK rC c)).run tA W=.ok (tH (F ⟨W.heap.size,0,H⟩) n n) (W.alloc (tJ (Z5 (Uw n)) 5)):=by
 subst hc;obtain⟨i0,hi,hz0,hz1,hz2⟩:=o5 lI;have h:=run_make (P:=tA) W 24 5 i0 (tK rK 0) sN hi hz0 rC rC (n:Int) (n:Int) (by omega) (oX _) (by rw[hz2];omega) (by omega);rw[h,hz1,rN,Lc]
theorem kQ(bs:List UInt8):∀v∈(bs.map fun c=>tK rK (c.toNat:Int)),v.oneCell'=N:=by
 intro v hv;obtain⟨c,_,rfl⟩:=List.mem_map.1 hv;rfl
theorem MJ(w:I)(X Y:Array O)(t:rA):(w.alloc (tJ X t)).setRow w.heap.size Y=w.alloc (tJ Y t):=by
 simp only[World.setRow,World.alloc];congr 1;apply oW;·simp
 ·intro i h1 h2;simp only[Array.getElem_modify,Array.getElem_push];(have hi:i<w.heap.size+1:=by simpa using h2);split<;>split<;>first|rfl|omega|(exfalso;omega)|simp_all
theorem Lv(w:I)(a:Option pH)(bs:List UInt8)(cap n m ty:Nat)(hn:bs.length<=n)(hs:Qe w (tH a bs.length cap) bs):(Builtin.copy_ #[24,24] ty #[tH (F ⟨w.heap.size,0,H⟩) n m,tH a bs.length cap]).run tA (w.alloc (tJ (Z5 (Uw n)) 5))=.ok (tK rC (bs.length:Int)) (w.alloc (tJ (Z5 (bs++Uw (n-bs.length))) 5)):=by
 obtain⟨a',cap',e,hc,h⟩:=hs.alloc (tJ (Z5 (Uw n)) 5);simp only[rG,true_and]at e;obtain⟨rfl,rfl⟩:=e;by_cases h0:bs=[];·subst h0;have:=run_copy_none (P:=tA) (w.alloc (tJ (Z5 (Uw n)) 5)) 24 24 ty 5 (F ⟨w.heap.size,0,H⟩) a n m 0 cap sN lE (by simp);simpa[goInt]using this
 ·rcases h with h|⟨b,o,rfl,h⟩;(·exact absurd h.1 h0);·have:=run_copy_row (P:=tA) (w.alloc (tJ (Z5 (Uw n)) 5)) 24 24 ty 5 w.heap.size 0 n m ⟨b,o,H⟩ bs.length cap (Z5 (Uw n)) 5 (bs.map fun c=>tK rK (c.toNat:Int)) sN lE (rO w _) (by simp only[List.length_map];exact(oR hn).symm) (by intro j v hj;rw[sW]at hj;cases hb:bs[j]?with|none=>rw[hb]at hj;simp at hj|some c=>rw[hb]at hj;simp at hj;subst hj;rw[Xm];have hlt:j<bs.length:=(pF.1 hb).1;rw[h j hlt];simp[hb]) (by simp[Z5,Uw];exact hn) (kQ bs);rw[this,MJ];simp[goInt,Z5,Uw]
def Ga(bs:List UInt8):List O:=bs.map fun c=>tK rK (c.toNat:Int)
theorem cY(bs:List UInt8):(Ga bs).length=bs.length:=by
 simp[Ga]
theorem DU(a b:List UInt8):Ga (a++b)=Ga a++Ga b:=by
 simp[Ga]
theorem Af(bs:List UInt8)(j:Nat)(u:O)(h:(Ga bs)[j]?=F u):j<bs.length∧u=tK rK ((bs.getD j 0).toNat:Int):=by
 rw[Ga,sW]at h;cases hb:bs[j]?with|none=>rw[hb]at h;simp at h|some c=>rw[hb]at h;simp at h;exact⟨(pF.1 hb).1,by simp[hb,<-h]⟩
def Za(base:Nat)(w:I)(v:O)(bs:List UInt8):Prop:=w.ownsRow base 5 1 v bs.length (Ga bs)
theorem QV(base:Nat)(w:I):Za base w (tH H 0 0) []:=World.ownsRow_nil _ _ _ _
theorem Za.grown{base:Nat}{w w':I}{v:O}{bs:List UInt8}(h:Za base w v bs){row:Option Nat}(hg:J w w' row)(hne:v.ownBlock=H∨v.ownBlock≠row):Za base w' v bs:=World.ownsRow.kept h hg hne
theorem Za.grownNone{base:Nat}{w w':I}{v:O}{bs:List UInt8}(h:Za base w v bs)(hg:J w w' H):Za base w' v bs:=by
 refine h.grown hg ?_;cases hv:v.ownBlock with|none=>exact .inl rfl|some k=>exact .inr (by simp)
theorem Za.alloc{base:Nat}{w:I}{v:O}{bs:List UInt8}(h:Za base w v bs)(o:Obj):Za base (w.alloc o) v bs:=World.ownsRow.alloc h o
theorem Za.slice{base:Nat}{w:I}{v:O}{bs:List UInt8}(h:Za base w v bs):Qe w v bs:=by
 obtain⟨h1,h2⟩:=h;rcases h2 with⟨rfl,h0⟩|⟨g,cap,cur,rfl,hb,hg,hn,hm,hs,ht⟩;·obtain rfl:=tD h0;exact Qz w
 ·refine⟨_,cap,rfl,hn,.inr ⟨g,0,rfl,?_⟩⟩;intro i hi;(have hc:cur.toList[i]?=F (tK rK ((bs.getD i 0).toNat:Int)):=by(have e:(cur.toList.take (bs.length*1))[i]?=(Ga bs)[i]?:=by rw[ht]);rw[pY,if_pos (by omega)]at e;rw[e,Ga,sW,rP hi];simp[hi]);simp[tZ,hg];simpa using hc
theorem Za.lt{base:Nat}{w:I}{v:O}{bs:List UInt8}(h:Za base w v bs):∀k,v.ownBlock=F k->base<=k∧k<w.heap.size:=World.ownsRow.lt h
theorem Za.shape{base:Nat}{w:I}{v:O}{bs:List UInt8}(h:Za base w v bs):∃a cap,v=tH a bs.length cap:=by
 obtain⟨a,cap,e,_⟩:=h.slice;exact⟨a,cap,e⟩
theorem TQ(base:Nat)(w:I)(bs:List UInt8)(hb:base<=w.heap.size)(hm:bs.length<=oY):Za base (w.alloc (tJ (Z5 bs) 5)) (tH (F ⟨w.heap.size,0,H⟩) bs.length bs.length) bs:=⟨by
 simp[Ga],.inr ⟨w.heap.size,bs.length,Z5 bs,rfl,hb,rO w _,sA _,hm,by
 simp[Z5],by
 simp[Z5,Ga,pK]⟩⟩
theorem Xs{w W w1:I}{v:O}{bs:List UInt8}(h:J w W H)(ho:Za w.heap.size W v bs)(hg:J W w1 v.ownBlock):J w w1 H:=⟨hg.os.trans h.os,hg.tape.trans h.tape,hg.output.trans h.output,rH h.size hg.size,fun i hi hn=>(hg.block i (tR hi h.size) (fun e=>by
 have:=(ho.lt i e.symm).1;omega)).trans (h.block i hi hn)⟩
theorem MV(w:I)(base ty:Nat)(v:O)(bs:List UInt8)(hown:Za base w v bs)(a:Option pH)(m cap:Nat)(cs:List UInt8)(hs:Qe w (tH a m cap) cs)(hbytes:bs.length+m<=140737488355328)(hbase:base<=w.heap.size):∃v' w',(Builtin.append_ #[24,24] ty #[v,tH a m cap]).run tA w=.ok v' w'∧Za base w' v' (bs++cs)∧J w w' v.ownBlock:=by
 obtain⟨i0,hi,hz0,hz1,hz2⟩:=o5 lI;obtain⟨a',cap',e,hc,h⟩:=hs;simp only[rG]at e;obtain⟨rfl,rfl,rfl⟩:=e;have h63:bs.length+cs.length<=oY:=by unfold oY;omega
 have key:∀ad:pH,(∀j u,(Ga cs)[j]?=F u->w.cell? (ad.add j)=F u)->∃v' w',(Builtin.append_ #[24,24] ty #[v,tH (F ad) cs.length cap]).run tA w=.ok v' w'∧Za base w' v' (bs++cs)∧J w w' v.ownBlock:=by intro ad hnews;obtain⟨v',w',hr,ho,hg,_⟩:=run_append_own (P:=tA) w base 24 ty 5 i0 (tK rK 0) 1 1 sN hi hz0 hz1 hz2 rfl (by decide) v bs.length (Ga bs) hown ad cs.length cap (Ga cs) (by simp[Ga]) hnews (kQ cs) h63 (by omega) hbase;refine⟨v',w',hr,?_,hg⟩;unfold Za;rw[DU,T];exact ho
 rcases h with⟨rfl,hz⟩|⟨b,o,rfl,h⟩;·cases a with|none=>obtain rfl:=hz rfl;refine⟨v,w,run_append_owned_none (P:=tA) (w:=w) base 24 ty 5 i0 1 sN hi v bs.length (Ga bs) hown,?_,Qb _ _⟩;rw[tY];exact hown|some ad=>exact key ad (by simp[Ga])
 ·refine key ⟨b,o,H⟩ fun j u hj=>?_;obtain⟨hlt,rfl⟩:=Af cs j u hj;rw[Xm];exact h j hlt
theorem QJ{w:I}{ops:Array Oper}{rest:List Oper}{o:Oper}{a:Act}{Q:Exit->Act->I->Prop}(hgd:o.guard=H)(s x:Operand)(ho:o.op=.call {callee:=.builtin .append,args:=#[s,x],argTypes:=#[24,24]})(base:Nat)(v:O)(bs:List UInt8)(hs:a.eval s=v)(hown:Za base w v bs)(xa:Option pH)(m cap:Nat)(cs:List UInt8)(hx:a.eval x=tH xa m cap)(hsl:Qe w (tH xa m cap) cs)(hbytes:bs.length+m<=140737488355328)(hbase:base<=w.heap.size)(h:∀v' w',Za base w' v' (bs++cs)->J w w' v.ownBlock->wpList tA ops Q rest (a.put o.dst v') w'):wpList tA ops Q (o::rest) a w:=by
 refine wpList_plain hgd fun K hK=>?_;obtain⟨v',w',hrun,ho',hg⟩:=MV w base o.type v bs hown xa m cap cs hsl hbytes hbase;unfold Oper.wp;simp[execOp,ho,resolve,invoke,builtin,hs,hx,hrun,Result.andThen];exact hK _ _ (h v' w' ho' hg)
theorem Qe.take{w:I}{a:Option pH}{m cap:Nat}{bs:List UInt8}(h:Qe w (tH a m cap) bs)(k:Nat)(hk:k<=m):Qe w (tH a k cap) (bs.take k):=by
 obtain⟨a',cap',e,hc,h⟩:=h;simp only[rG]at e;obtain⟨rfl,rfl,rfl⟩:=e;have hl:(bs.take k).length=k:=by simp;omega
 refine⟨a,cap,by rw[hl],by omega,?_⟩;rcases h with⟨rfl,hz⟩|⟨b,o,rfl,h⟩;·exact .inl ⟨by simp,hz⟩
 ·refine .inr ⟨b,o,rfl,fun i hi=>?_⟩;rw[h i (by omega)];rw[hl]at hi;simp[hi]
theorem In(bs:List UInt8)(s:ByteArray):((bs.map fun c=>((c.toNat:Nat):Int)).foldl (fun r n=>r.push (tC n.toNat)) s)=⟨s.data++bs.toArray⟩:=by
 induction bs generalizing s with|nil=>simp|cons c bs ih=>simp only[oS,List.foldl_cons];rw[ih];congr 1;simp[ByteArray.push]
def uI(bs:List UInt8):ByteArray:=⟨bs.toArray⟩
theorem FJ(bs:List UInt8):(uI bs).toList=bs:=by
 rw[Lib.toList_data];rfl
theorem K8(W:I)(v:O)(bs:List UInt8)(hs:Qe W v bs):(convert 24 9 v).run tA W=.ok (.string (uI bs)) W:=by
 obtain⟨a,cap,rfl,hc,h⟩:=hs;rw[run_convert_bytes_string W 24 9 5 a bs.length cap sN Tryz.underlying5 Tryz.underlying9];have key:∀ad:pH,(∀j u,(Ga bs)[j]?=F u->W.cell? (ad.add j)=F u)->(Conv.bytesToString (tH (F ad) bs.length cap)).run tA W=.ok (.string (uI bs)) W:=by intro ad hcells;have hl:=run_loadCells_list (P:=tA) W ad (Ga bs) hcells;rw[cY]at hl;have:=run_bytesToString (P:=tA) W ad bs.length cap (bs.map fun c=>((c.toNat:Nat):Int)) (by rw[hl];simp[Ga]);rw[this,In];simp[uI]
 rcases h with⟨rfl,hz⟩|⟨b,o,rfl,h⟩;·cases a with|none=>simp[Conv.bytesToString,uI];rfl|some ad=>exact key ad (by simp[Ga])
 ·refine key ⟨b,o,H⟩ fun j u hj=>?_;obtain⟨hlt,rfl⟩:=Af bs j u hj;rw[Xm];exact h j hlt
theorem ZS.slice32{w:I}{b:Nat}{bs:List UInt8}(h:ZS w b bs)(hl:bs.length=32):Qe w (tH (F ⟨b,0,H⟩) 32 32) bs:=by
 have:=h.slice 32 (by omega);rw[hl]at this;exact this
theorem Up(w:I)(x:UInt8)(t:rA):Qe (w.alloc (tJ #[tK rK (x.toNat:Int)] t)) (tH (F ⟨w.heap.size,0,H⟩) 1 1) [x]:=(ZS.new w t [x]).slice 1 (by
 simp)
theorem Mh(w:I)(x y:UInt8)(t:rA):Qe (w.alloc (tJ #[tK rK (x.toNat:Int),tK rK (y.toNat:Int)] t)) (tH (F ⟨w.heap.size,0,H⟩) 2 2) [x,y]:=(ZS.new w t [x,y]).slice 2 (by
 simp)
theorem KT{base base':Nat}{w:I}{v:O}{bs:List UInt8}(h:Za base w v bs)(hb:base'<=base):Za base' w v bs:=by
 refine⟨h.1,?_⟩;rcases h.2with h2|⟨g,cap,cur,h1,h2,h3⟩;·exact .inl h2
 ·exact .inr ⟨g,cap,cur,h1,rH hb h2,h3⟩
end
structure Ac where
  kind : Int
  sess : Int
  keep : Int
  data : List UInt8
def Yz:Ac:=⟨0,0,0,[]⟩
def Jc(a:Ac):Int:=if 1<=a.kind∧a.kind<=4then(if(a.kind=1∧¬(0<=a.sess∧a.sess<=7))∨(a.kind=3∧¬(0<=a.keep∧a.keep<=200000))then 2 else if 4000<a.data.length then 1 else if(a.kind≠1∧a.sess≠0)∨(a.kind≠3∧a.keep≠0)∨(a.kind≠1∧0<a.data.length)then 4 else 0)else 5
structure Js(a:Ac):Prop where kind:1<=a.kind∧a.kind<=4sess:a.kind=1->0<=a.sess∧a.sess<=7keep:a.kind=3->0<=a.keep∧a.keep<=200000data:a.data.length<=4000noSess:a.kind≠1->a.sess=0noKeep:a.kind≠3->a.keep=0noData:a.kind≠1->a.data=[]
theorem vA(a:Ac):Jc a=0↔Js a:=by
 unfold Jc;by_cases h0:1<=a.kind∧a.kind<=4;·rw[if_pos h0];by_cases h1:(a.kind=1∧¬(0<=a.sess∧a.sess<=7))∨(a.kind=3∧¬(0<=a.keep∧a.keep<=200000));(·rw[if_pos h1];refine⟨fun e=>(by cases e),fun h=>?_⟩;rcases h1 with⟨h1,h2⟩|⟨h1,h2⟩;(·exact absurd (h.sess h1) h2);·exact absurd (h.keep h1) h2);·rw[if_neg h1];by_cases h2:4000<a.data.length;(·rw[if_pos h2];exact⟨fun e=>(by cases e),fun h=>by have:=h.data;omega⟩);·rw[if_neg h2];by_cases h3:(a.kind≠1∧a.sess≠0)∨(a.kind≠3∧a.keep≠0)∨(a.kind≠1∧0<a.data.length);(·rw[if_pos h3];refine⟨fun e=>(by cases e),fun h=>?_⟩;rcases h3 with⟨h3,h4⟩|⟨h3,h4⟩|⟨h3,h4⟩;(·exact absurd (h.noSess h3) h4);(·exact absurd (h.noKeep h3) h4);·rw[h.noData h3]at h4;simp at h4);·rw[if_neg h3];refine⟨fun _=>⟨h0,fun h=>?_,fun h=>?_,by omega,fun h=>?_,fun h=>?_,fun h=>?_⟩,fun _=>rfl⟩;(·exact sQ fun e=>h1 (.inl ⟨h,e⟩));(·exact sQ fun e=>h1 (.inr ⟨h,e⟩));(·exact sQ fun e=>h3 (.inl ⟨h,e⟩));(·exact sQ fun e=>h3 (.inr (.inl ⟨h,e⟩)));·refine tD ?_;have:¬0<a.data.length:=fun e=>h3 (.inr (.inr ⟨h,e⟩));omega
 ·rw[if_neg h0];exact⟨fun e=>(by cases e),fun h=>absurd h.kind h0⟩
def nP(n:Nat):UInt8:=tC (48+n)
def lX(n:Nat):List UInt8:=if n<10then[nP n]else lX (n/10)++[nP (n%10)]termination_by n decreasing_by
 omega
def nG(n:Nat):UInt8:=if n<10then tC (48+n)else tC (87+n)
def n9(bs:List UInt8):List UInt8:=bs.flatMap fun c=>[nG (c.toNat/16),nG (c.toNat%16)]
def oC:List UInt8:=[97,115,107]
def mX:List UInt8:=[115,121,110,99]
def mE:List UInt8:=[99,114,97,115,104]
def lO:List UInt8:=[115,116,97,114,116]
def nU(a:Ac):List UInt8:=if a.kind=1then oC++32::(lX a.sess.toNat++32::n9 a.data)else if a.kind=2then mX else if a.kind=3then mE++32::lX a.keep.toNat else if a.kind=4then lO else[]
theorem Zs(w:I)(o:Obj):∃W:I,Hid (W=w.alloc o)∧J w W H∧Hid (W.heap[w.heap.size]?=F o):=⟨w.alloc o,rfl,rV _ _ _,rO w o⟩
theorem Qe.shape{w:I}{v:O}{bs:List UInt8}(h:Qe w v bs):∃a cap,v=tH a bs.length cap:=by
 obtain⟨a,cap,rfl,_⟩:=h;exact⟨a,cap,rfl⟩
theorem QL{W w:I}{b:Nat}{x y:O}{t:rA}(hg:J W w H)(h:W.heap[b]?=F (tJ #[x,y] t)):w.cell? ⟨b,0,H⟩=F x∧w.cell? ⟨b,1,H⟩=F y∧w.frozen? ⟨b,0,H⟩=V∧w.frozen? ⟨b,1,H⟩=V:=by
 have hb:w.heap[b]?=F (tJ #[x,y] t):=by rw[hg.block b (tL.1 h).1 (by simp)];exact h
 refine⟨by simp[tZ,hb],by simp[tZ,hb],by simp[sZ,hb],by simp[sZ,hb]⟩
theorem xW{W w:I}{b:Nat}{x y:O}{t:rA}(hg:J W w H)(h:W.heap[b]?=F (tJ #[x,y] t)){G:Prop}(k:w.heap[b]?=F (tJ #[x,y] t)->w.cell? ⟨b,0,H⟩=F x->w.cell? ⟨b,1,H⟩=F y->w.frozen? ⟨b,0,H⟩=V->w.frozen? ⟨b,1,H⟩=V->G):G:=by
 obtain⟨h1,h2,h3,h4⟩:=QL hg h;exact k (by rw[hg.block b (tL.1 h).1 (by simp)];exact h) h1 h2 h3 h4
theorem Qd{W w:I}{b:Nat}{o:Obj}(hg:J W w H)(h:W.heap[b]?=F o):w.heap[b]?=F o:=by
 rw[hg.block b (tL.1 h).1 (by simp)];exact h
def Qj(base:Nat)(w:I)(v:O)(bs:List UInt8):Prop:=Qe w v bs∧(bs=[]∨∃b,v.ownBlock=F b∧b<w.heap.size∧(b<base∨∃cur fz,w.heap[b]?=F (tJ cur 5 fz)))
theorem Qj.slice{base:Nat}{w:I}{v:O}{bs:List UInt8}(h:Qj base w v bs):Qe w v bs:=h.1
theorem Za.part{base base':Nat}{w:I}{v:O}{bs:List UInt8}(h:Za base' w v bs):Qj base w v bs:=by
 refine⟨h.slice,?_⟩;rcases h.2with⟨rfl,h0⟩|⟨g,cap,cur,rfl,hb,hg,_⟩;·exact .inl (tD h0)
 ·exact .inr ⟨g,rfl,(tL.1 hg).1,.inr ⟨cur,_,hg⟩⟩
theorem UO{w:I}{b o:Nat}{v:O}(h:w.cell? ⟨b,o,H⟩=F v):b<w.heap.size:=by
 by_cases hb:b<w.heap.size;·exact hb
 ·simp[tZ,Array.getElem?_eq_none (Nat.le_of_not_lt hb)]at h
theorem Qe.part{w w':I}{v:O}{bs:List UInt8}(h:Qe w v bs)(hg:J w w' H)(base:Nat)(hb:w.heap.size<=base):Qj base w' v bs:=by
 refine⟨h.grown hg,?_⟩;obtain⟨a,cap,rfl,hc,h⟩:=h;rcases h with⟨rfl,_⟩|⟨b,o,rfl,h⟩;·exact .inl rfl
 ·by_cases h0:bs=[];(·exact .inl h0);·have hl:0<bs.length:=List.length_pos_iff.2 h0;have:=UO (h 0 hl);exact .inr ⟨b,rfl,tR this hg.size,.inl (by omega)⟩
theorem Qj.mono{base base':Nat}{w:I}{v:O}{bs:List UInt8}(h:Qj base w v bs)(hb:base<=base'):Qj base' w v bs:=by
 refine⟨h.1,?_⟩;rcases h.2with h|⟨b,h1,h2,h3⟩;·exact .inl h
 ·refine .inr ⟨b,h1,h2,?_⟩;rcases h3 with h3|h3;(·exact .inl (by omega));·exact .inr h3
theorem ZQ{base:Nat}{w:I}{v:O}{bs:List UInt8}(h:Qj base w v bs):v.oneCell'=N:=by
 obtain⟨⟨a,cap,rfl,_⟩,_⟩:=h;rfl
theorem Qj.keptT{base:Nat}{w w':I}{v:O}{bs:List UInt8}(h:Qj base w v bs){row:Option Nat}(hg:J w w' row)(hrow:row=H∨∃g cur t fz,row=F g∧base<=g∧w.heap[g]?=F (tJ cur t fz)∧t≠5):Qj base w' v bs:=by
 obtain⟨hs,ho⟩:=h;rcases ho with rfl|⟨b,hb,hlt,hc⟩;·obtain⟨a,cap,rfl,hc,h⟩:=hs;refine⟨⟨a,cap,rfl,hc,?_⟩,.inl rfl⟩;rcases h with h|⟨b,o,rfl,h⟩;(·exact .inl h);·exact .inr ⟨b,o,rfl,fun i hi=>by simp at hi⟩
 ·(have hne:F b≠row:=by intro e;rcases hrow with rfl|⟨g,cur,t,fz,rfl,hbg,hgc,ht⟩;(·cases e);·cases e;rcases hc with hc|⟨cur2,fz2,hc⟩;(·omega);·rw[hc]at hgc;simp only[tP,Obj.cells.injEq]at hgc;exact ht hgc.2.1.symm);have hblk:=hg.block b hlt hne;refine⟨?_,.inr ⟨b,hb,tR hlt hg.size,?_⟩⟩;(·obtain⟨a,cap,rfl,hcp,h⟩:=hs;refine⟨a,cap,rfl,hcp,?_⟩;rcases h with h|⟨b',o,rfl,h⟩;(·exact .inl h);·refine .inr ⟨b',o,rfl,fun i hi=>?_⟩;simp[oP]at hb;subst hb;exact hg.cell (h i hi) (by simpa using hne));·rcases hc with hc|⟨cur,fz,hc⟩;(·exact .inl hc);·exact .inr ⟨cur,fz,by rw[hblk];exact hc⟩
def ZH(k:List UInt8)(i:Nat):Bool:=if i/9<k.length then(if i%9=0then N else(k.getD (i/9) 0).toNat.testBit (8-i%9))else V
theorem Uq(k:List UInt8)(p:Nat):ZH k (9*p)=tI (p<k.length):=by
 unfold ZH;rw[show 9*p/9=p by omega,show 9*p%9=0 by omega];by_cases h:p<k.length<;>simp[h]
theorem Ur(k:List UInt8)(p r:Nat)(hp:p<k.length)(hr:1<=r)(hr8:r<=8):ZH k (9*p+r)=(k.getD p 0).toNat.testBit (8-r):=by
 unfold ZH;rw[show(9*p+r)/9=p by omega,show(9*p+r)%9=r by omega,if_pos hp,if_neg (by omega)]
theorem N5(k:List UInt8)(i:Nat)(h:k.length<=i/9):ZH k i=V:=by
 unfold ZH;rw[if_neg (by omega)]
theorem Bs(x y:UInt8)(h:∀j,j<8->x.toNat.testBit j=y.toNat.testBit j):x=y:=by
 apply oM.1;apply pU;intro j;by_cases hj:j<8;·exact h j hj
 ·rw[sY (tR x.toNat_lt (rF (by decide) (by omega:8<=j))),sY (tR y.toNat_lt (rF (by decide) (by omega:8<=j)))]
theorem I9(a b:List UInt8)(ha:a.length<=16)(hb:b.length<=16)(h:∀i,i<145->ZH a i=ZH b i):a=b:=by
 have hl:a.length=b.length:=by have h1:=h (9*a.length) (by omega);have h2:=h (9*b.length) (by omega);rw[Uq,Uq]at h1 h2;simp at h1 h2;omega
 apply List.ext_getElem hl;intro p h1 h2;have e:a.getD p 0=b.getD p 0:=by apply Bs;intro j hj;have:=h (9*p+(8-j)) (by omega);rw[Ur a p _ h1 (by omega) (by omega),Ur b p _ h2 (by omega) (by omega),show 8-(8-j)=j by omega]at this;exact this
 simpa[h1,h2]using e
def yU(a b:List UInt8):Nat->Nat->Int|0,_=>-1|n+1,i=>if ZH a i=ZH b i then yU a b n (i+1)else(i:Int)
def J8(a b:List UInt8):Int:=yU a b 145 0
theorem EW(a b:List UInt8)(n i:Nat):(yU a b n i=-1∧∀j,i<=j->j<i+n->ZH a j=ZH b j)∨∃m:Nat,yU a b n i=(m:Int)∧i<=m∧m<i+n∧(∀j,i<=j->j<m->ZH a j=ZH b j)∧ZH a m≠ZH b m:=by
 induction n generalizing i with|zero=>exact .inl ⟨rfl,fun j _ h=>by omega⟩|succ n ih=>unfold yU;by_cases he:ZH a i=ZH b i;(·rw[if_pos he];rcases ih (i+1)with⟨h1,h2⟩|⟨m,h1,h2,h3,h4,h5⟩;(·refine .inl ⟨h1,fun j hj hj2=>?_⟩;by_cases hji:j=i;(·subst hji;exact he);·exact h2 j (by omega) (by omega));·refine .inr ⟨m,h1,by omega,by omega,fun j hj hj2=>?_,h5⟩;by_cases hji:j=i;(·subst hji;exact he);·exact h4 j (by omega) hj2);·rw[if_neg he];exact .inr ⟨i,rfl,sA _,by omega,fun j h1 h2=>by omega,he⟩
theorem Ke(a b:List UInt8):(J8 a b=-1∧∀j,j<145->ZH a j=ZH b j)∨∃m:Nat,J8 a b=(m:Int)∧m<145∧(∀j,j<m->ZH a j=ZH b j)∧ZH a m≠ZH b m:=by
 rcases EW a b 145 0with⟨h1,h2⟩|⟨m,h1,_,h3,h4,h5⟩;·exact .inl ⟨h1,fun j hj=>h2 j (by omega) (by omega)⟩
 ·exact .inr ⟨m,h1,by omega,fun j hj=>h4 j (by omega) hj,h5⟩
theorem Cr(a b:List UInt8)(m:Nat)(hm:m<145)(h:∀j,j<m->ZH a j=ZH b j)(hd:ZH a m≠ZH b m):J8 a b=(m:Int):=by
 rcases Ke a b with⟨_,h2⟩|⟨m',h1,h2,h3,h4⟩;·exact absurd (h2 m hm) hd
 ·by_cases hlt:m'<m;(·exact absurd (h m' hlt) h4);·by_cases hgt:m<m';(·exact absurd (h3 m hgt) hd);·rw[h1];omega
theorem Rz(a b:List UInt8)(h:∀j,j<145->ZH a j=ZH b j):J8 a b=-1:=by
 rcases Ke a b with⟨h1,_⟩|⟨m',_,h2,_,h4⟩;·exact h1
 ·exact absurd (h m' h2) h4
theorem FQ(a b:List UInt8):-1<=J8 a b∧J8 a b<=144:=by
 rcases Ke a b with⟨h,_⟩|⟨m,h,hm,_⟩<;>omega
theorem Sl(a b:List UInt8)(ha:a.length<=16)(hb:b.length<=16):J8 a b<0↔a=b:=by
 constructor;·intro h;rcases Ke a b with⟨_,h2⟩|⟨m,h1,_⟩;(·exact I9 a b ha hb h2);·omega
 ·rintro rfl;rw[Rz a a fun _ _=>rfl];decide
theorem Fh(x y:UInt8)(a b:List UInt8):sJ (x::a) (y::b)=(tI (x<y)||(x==y&&sJ a b)):=by
 simp[sJ]
theorem Mm:∀(p:Nat)(a b:List UInt8),(∀i,i<p->i<a.length∧i<b.length∧a.getD i 0=b.getD i 0)->sJ a b=sJ (a.drop p) (b.drop p)|0,a,b,_=>by simp|p+1,[],b,h=>by have:=(h 0 (by omega)).1;simp at this|p+1,x::a,[],h=>by have:=(h 0 (by omega)).2.1;simp at this|p+1,x::a,y::b,h=>by have h0:=(h 0 (by omega)).2.2;simp at h0;subst h0;rw[Fh,pV,pV,<-Mm p a b fun i hi=>by have:=h (i+1) (by omega);simp at this;simpa using this];simp
theorem C5(a:List UInt8):sJ a []=V:=by
 cases a<;>rfl
theorem Fy(a:List UInt8)(p:Nat)(h:p<a.length):a.drop p=a.getD p 0::a.drop (p+1):=by
 rw[sD h];simp[h]
theorem Nw(x y j:Nat)(hx:x.testBit j=V)(hy:y.testBit j=N)(h:∀i,j<i->x.testBit i=y.testBit i):x<y:=by
 have hq:x/2^(j+1)=y/2^(j+1):=by apply pU;intro i;rw[pL,pL];exact h _ (by omega)
 rw[Nat.testBit_eq_decide_div_mod_eq]at hx hy;simp at hx hy;rw[Nat.pow_succ,<-pQ,<-pQ]at hq;exact Nat.lt_of_div_lt_div (c:=2^j) (by omega)
theorem OG(x y:UInt8)(j:Nat)(hd:x.toNat.testBit j≠y.toNat.testBit j)(h:∀i,j<i->x.toNat.testBit i=y.toNat.testBit i):(tI (x<y)||(x==y&&V))=y.toNat.testBit j:=by
 cases hy:y.toNat.testBit j with|true=>(have hx:x.toNat.testBit j=V:=by cases hx:x.toNat.testBit j with|true=>exact absurd (hx.trans hy.symm) hd|false=>rfl);have:=Nw _ _ j hx hy h;simp[sM,this]|false=>(have hx:x.toNat.testBit j=N:=by cases hx:x.toNat.testBit j with|true=>rfl|false=>exact absurd (hx.trans hy.symm) hd);have:=Nw _ _ j hy hx (fun i hi=>(h i hi).symm);simp[sM];omega
theorem T6(a b:List UInt8)(m:Nat)(h:∀j,j<m->ZH a j=ZH b j)(hd:ZH a m≠ZH b m):ZH b m=sJ a b:=by
 have hone:m/9<a.length∨m/9<b.length:=by by_cases h1:m/9<a.length;(·exact .inl h1);·by_cases h2:m/9<b.length;(·exact .inr h2);·rw[N5 a m (by omega),N5 b m (by omega)]at hd;exact absurd rfl hd
 have hpre:∀i,i<m/9->i<a.length∧i<b.length∧a.getD i 0=b.getD i 0:=by intro i hi;have hh:=h (9*i) (by omega);rw[Uq,Uq]at hh;(have hl:i<a.length∧i<b.length:=by simp at hh;omega);refine⟨hl.1,hl.2,Bs _ _ fun j hj=>?_⟩;have:=h (9*i+(8-j)) (by omega);rw[Ur a i _ hl.1 (by omega) (by omega),Ur b i _ hl.2 (by omega) (by omega),show 8-(8-j)=j by omega]at this;exact this
 rw[Mm (m/9) a b hpre];by_cases hr:m%9=0;·(have em:m=9*(m/9):=by omega);have ha:=Uq a (m/9);have hb:=Uq b (m/9);rw[<-em]at ha hb;by_cases hlb:m/9<b.length;(·have hla:¬m/9<a.length:=fun hla=>hd (by rw[ha,hb];simp[hla,hlb]);rw[hb,tV (by omega),Fy b _ hlb];simp[hlb,sJ]);·rw[hb,tV (show b.length<=m/9by omega),C5];simp[hlb]
 ·have hh:=h (9*(m/9)) (by omega);rw[Uq,Uq]at hh;(have hl:m/9<a.length∧m/9<b.length:=by simp at hh;omega);(have em:m=9*(m/9)+m%9:=by omega);have ha:=Ur a (m/9) (m%9) hl.1 (by omega) (by omega);have hb:=Ur b (m/9) (m%9) hl.2 (by omega) (by omega);rw[<-em]at ha hb;rw[Fy a _ hl.1,Fy b _ hl.2,Fh,hb];rw[ha,hb]at hd;(have hne:(a.getD (m/9) 0==b.getD (m/9) 0)=V:=by rw[beq_eq_false_iff_ne];intro e;rw[e]at hd;exact hd rfl);rw[hne,Bool.false_and];have:=OG (a.getD (m/9) 0) (b.getD (m/9) 0) (8-m%9) hd (fun i hi=>by by_cases hi8:i<8;(·have:=h (9*(m/9)+(8-i)) (by omega);rw[Ur a _ _ hl.1 (by omega) (by omega),Ur b _ _ hl.2 (by omega) (by omega),show 8-(8-i)=i by omega]at this;exact this);·rw[sY (tR (a.getD (m/9) 0).toNat_lt (rF (by decide) (by omega:8<=i))),sY (tR (b.getD (m/9) 0).toNat_lt (rF (by decide) (by omega:8<=i)))]);rw[Bool.and_false]at this;exact this.symm
def Qn(n:Nat):Int:=if 1<=n∧n<=16then 0 else 1
def vX(k:List UInt8)(i:Int):Bool×Int:=if 1<=k.length∧k.length<=16then(if 0<=i∧i<=144then(ZH k i.toNat,0)else(V,2))else(V,1)
def TW(a b:List UInt8):Int×Int:=if 1<=a.length∧a.length<=16then(if 1<=b.length∧b.length<=16then(J8 a b,0)else(0,1))else(0,1)
theorem gA(k:List UInt8)(i:Nat)(hk:1<=k.length∧k.length<=16)(hi:i<145):vX k (i:Int)=(ZH k i,0):=by
 rw[vX,if_pos hk,if_pos (by omega)];rfl
theorem cK(a b:List UInt8)(ha:1<=a.length∧a.length<=16)(hb:1<=b.length∧b.length<=16):TW a b=(J8 a b,0):=by
 rw[TW,if_pos ha,if_pos hb]
structure Zi where
  name : List UInt8
  key : List UInt8
  value : List UInt8
  gone : Bool
def Y6(p:Zi):Prop:=p.name.length<=140737488355328∧p.key.length<=140737488355328∧p.value.length<=140737488355328
def Qr:Zi:=⟨[],[],[],V⟩
theorem Qi{W w:I}{b:Nat}{x y z u:O}{t:rA}(hg:J W w H)(h:W.heap[b]?=F (tJ #[x,y,z,u] t)):(w.cell? ⟨b,0,H⟩=F x∧w.cell? ⟨b,1,H⟩=F y∧w.cell? ⟨b,2,H⟩=F z∧w.cell? ⟨b,3,H⟩=F u)∧w.frozen? ⟨b,0,H⟩=V∧w.frozen? ⟨b,1,H⟩=V∧w.frozen? ⟨b,2,H⟩=V∧w.frozen? ⟨b,3,H⟩=V∧w.heap[b]?=F (tJ #[x,y,z,u] t):=by
 have hb:w.heap[b]?=F (tJ #[x,y,z,u] t):=by rw[hg.block b (tL.1 h).1 (by simp)];exact h
 refine⟨⟨?_,?_,?_,?_⟩,?_,?_,?_,?_,hb⟩;all_goals simp[tZ,sZ,hb]
theorem JP{w:I}{b:Nat}{x y z u:O}{t:rA}(h:w.heap[b]?=F (tJ #[x,y,z,u] t))(x' y' z' u':O):((((tG w ⟨b,0,H⟩ x').setCell ⟨b,1,H⟩ y').setCell ⟨b,2,H⟩ z').setCell ⟨b,3,H⟩ u').heap[b]?=F (tJ #[x',y',z',u'] t)∧(tG w ⟨b,0,H⟩ x').cell? ⟨b,0,H⟩=F x'∧((tG w ⟨b,0,H⟩ x').setCell ⟨b,1,H⟩ y').cell? ⟨b,1,H⟩=F y'∧(((tG w ⟨b,0,H⟩ x').setCell ⟨b,1,H⟩ y').setCell ⟨b,2,H⟩ z').cell? ⟨b,2,H⟩=F z'∧((((tG w ⟨b,0,H⟩ x').setCell ⟨b,1,H⟩ y').setCell ⟨b,2,H⟩ z').setCell ⟨b,3,H⟩ u').cell? ⟨b,3,H⟩=F u':=by
 have h0:(tG w ⟨b,0,H⟩ x').heap[b]?=F (tJ #[x',y,z,u] t):=by simp only[tG,tQ,if_true,h,sR];first|rfl|simp
 have h1:((tG w ⟨b,0,H⟩ x').setCell ⟨b,1,H⟩ y').heap[b]?=F (tJ #[x',y',z,u] t):=by rw[tG,tQ,if_pos rfl,h0];first|rfl|simp
 have h2:(((tG w ⟨b,0,H⟩ x').setCell ⟨b,1,H⟩ y').setCell ⟨b,2,H⟩ z').heap[b]?=F (tJ #[x',y',z',u] t):=by rw[tG,tQ,if_pos rfl,h1];first|rfl|simp
 have h3:((((tG w ⟨b,0,H⟩ x').setCell ⟨b,1,H⟩ y').setCell ⟨b,2,H⟩ z').setCell ⟨b,3,H⟩ u').heap[b]?=F (tJ #[x',y',z',u'] t):=by rw[tG,tQ,if_pos rfl,h2];first|rfl|simp
 exact⟨h3,by simp[tZ,h0],by simp[tZ,h1],by simp[tZ,h2],by simp[tZ,h3]⟩
theorem Za.setBlk{base:Nat}{w:I}{v:O}{bs:List UInt8}(h:Za base w v bs){b:Nat}{cur:Array O}{t:rA}{fz:Nat×Nat}(hb:w.heap[b]?=F (tJ cur t fz))(ht:t≠5)(i:Nat)(u:O):Za base (tG w ⟨b,i,H⟩ u) v bs:=by
 refine h.grown (row:=F b) (Qh (Qb _ _) i u) ?_;rcases h.2with⟨rfl,_⟩|⟨g,cap,cur2,rfl,_,hg,_⟩;·exact .inl rfl
 ·right;intro e;simp[oP]at e;subst e;rw[hg]at hb;simp at hb;exact ht hb.2.1.symm
theorem JC{w w1:I}(h:J w w1 H)(b:Nat)(hb:w.heap.size<=b)(x y z u:O):J w ((((tG w1 ⟨b,0,H⟩ x).setCell ⟨b,1,H⟩ y).setCell ⟨b,2,H⟩ z).setCell ⟨b,3,H⟩ u) H:=Qc (Qc (Qc (Qc h _ hb _ _) _ hb _ _) _ hb _ _) _ hb _ _
abbrev Pr:=List UInt8×List UInt8
abbrev PL:=List Pr
abbrev YX(a b:List UInt8):Bool:=sJ a b
theorem TI(a:List UInt8):YX a []=V:=C5 a
theorem Pw(x y:UInt8)(a b:List UInt8):YX (x::a) (y::b)=(tI (x<y)||(x==y&&YX a b)):=Fh x y a b
theorem Yg:∀a:List UInt8,YX a a=V|[]=>rfl|x::a=>by rw[Pw,Yg a];simp
theorem Kz:∀a b c:List UInt8,YX a b=N->YX b c=N->YX a c=N|_,[],_,h,_=>by rw[TI]at h;cases h|_,_::_,[],_,h=>by rw[TI]at h;cases h|[],_::_,_::_,_,_=>rfl|x::a,y::b,z::c,h1,h2=>by rw[Pw]at h1 h2⊢;simp only[oQ,decide_eq_true_eq,oN,beq_iff_eq,sM]at h1 h2⊢;rcases h1 with h1|⟨rfl,h1⟩;(·rcases h2 with h2|⟨rfl,h2⟩;(·left;omega);·left;exact h1);·rcases h2 with h2|⟨rfl,h2⟩;(·left;exact h2);·right;exact⟨rfl,Kz a b c h1 h2⟩
theorem UX:∀a b:List UInt8,YX a b=V->a≠b->YX b a=N|[],[],_,h=>absurd rfl h|[],_::_,h,_=>by cases h|_::_,[],_,_=>rfl|x::a,y::b,h1,h2=>by rw[Pw]at h1⊢;simp only[rU,decide_eq_false_iff_not,Bool.and_eq_false_iff,beq_eq_false_iff_ne,sM]at h1;simp only[oQ,decide_eq_true_eq,oN,beq_iff_eq,sM];by_cases e:y=x;(·subst e;right;refine⟨rfl,UX a b ?_ (fun e=>h2 (by rw[e]))⟩;rcases h1.2with h|h;(·exact absurd rfl h);·exact h);·left;have:x.toNat≠y.toNat:=fun h=>e (oM.1 h.symm);omega
theorem WC(a b:List UInt8)(h:YX a b=N):YX b a=V:=by
 cases hb:YX b a with|false=>rfl|true=>have:=Kz a b a h hb;rw[Yg]at this;cases this
theorem OO{a b:List UInt8}(h:YX a b=N):a≠b:=by
 rintro rfl;rw[Yg]at h;cases h
def QN(p:Pr):Int:=if 32<p.2.length then 1 else Qn p.1.length
def Xw(l:PL)(i:Nat):Int:=if QN (l.getD i ([],[]))=0then(if 0<i∧YX (l.getD (i-1) ([],[])).1 (l.getD i ([],[])).1=V then 3 else 0)else QN (l.getD i ([],[]))
def Kv(l:PL):Nat->Nat->Int|0,_=>0|n+1,i=>if Xw l i=0then Kv l n (i+1)else Xw l i
def QA(l:PL):Int:=if 60<l.length then 1 else Kv l l.length 0
theorem xM(l:PL)(n i:Nat)(hi:i<=n)(h:∀j,j<i->Xw l j=0):Kv l n 0=Kv l (n-i) i:=by
 induction i with|zero=>rfl|succ i ih=>rw[ih (by omega) (fun j hj=>h j (by omega)),show n-i=(n-(i+1))+1by omega,Kv,if_pos (h i (by omega))]
theorem qE(l:PL)(i:Nat)(hi:i<l.length)(hl:l.length<=60)(h:∀j,j<i->Xw l j=0)(hf:Xw l i≠0):QA l=Xw l i:=by
 rw[QA,if_neg (by omega),xM l _ i (by omega) h,show l.length-i=(l.length-(i+1))+1by omega,Kv,if_neg hf]
theorem JN(l:PL)(hl:l.length<=60)(h:∀j,j<l.length->Xw l j=0):QA l=0:=by
 rw[QA,if_neg (by omega),xM l _ l.length (sA _) h,oU,Kv]
theorem xJ(l:PL)(hl:60<l.length):QA l=1:=by
 rw[QA,if_pos hl]
theorem yI(l:PL):∀(n i:Nat),Kv l n i=0->∀j,i<=j->j<i+n->Xw l j=0|0,i,_,j,h1,h2=>by omega|n+1,i,h,j,h1,h2=>by rw[Kv]at h;by_cases e:Xw l i=0;(·rw[if_pos e]at h;by_cases hj:j=i;(·subst hj;exact e);·exact yI l n (i+1) h j (by omega) (by omega));·rw[if_neg e]at h;exact absurd h e
def UI(l:PL):Prop:=l.Pairwise fun p q=>YX p.1 q.1=N
structure Zd(l:PL):Prop where room:l.length<=60pairs:∀p∈l,(1<=p.1.length∧p.1.length<=16)∧p.2.length<=32rises:UI l
theorem Ys(p:Pr):QN p=0↔(1<=p.1.length∧p.1.length<=16)∧p.2.length<=32:=by
 unfold QN Qn;by_cases h:32<p.2.length;·rw[if_pos h];constructor;(·intro h;cases h);·intro h;omega
 ·rw[if_neg h];by_cases h2:1<=p.1.length∧p.1.length<=16;(·rw[if_pos h2];exact⟨fun _=>⟨h2,by omega⟩,fun _=>rfl⟩);·rw[if_neg h2];constructor;(·intro h;cases h);·intro h;exact absurd h.1 h2
theorem Vm(l:PL)(i:Nat):Xw l i=0↔QN (l.getD i ([],[]))=0∧(0<i->YX (l.getD (i-1) ([],[])).1 (l.getD i ([],[])).1=N):=by
 unfold Xw;by_cases h:QN (l.getD i ([],[]))=0;·rw[if_pos h];by_cases h2:0<i∧YX (l.getD (i-1) ([],[])).1 (l.getD i ([],[])).1=V;(·rw[if_pos h2];constructor;(·intro h;cases h);·intro h3;have:=h3.2 h2.1;rw[h2.2]at this;cases this);·rw[if_neg h2];refine⟨fun _=>⟨h,fun hi=>?_⟩,fun _=>rfl⟩;cases hk:YX (l.getD (i-1) ([],[])).1 (l.getD i ([],[])).1with|true=>rfl|false=>exact absurd ⟨hi,hk⟩ h2
 ·rw[if_neg h];constructor;(·intro h2;exact absurd h2 h);·intro h2;exact absurd h2.1 h
theorem yD:∀l:PL,(∀i,0<i->i<l.length->YX (l.getD (i-1) ([],[])).1 (l.getD i ([],[])).1=N)->UI l|[],_=>rD|[_],_=>sU _ _|p::q::r,h=>by(have ih:UI (q::r):=yD (q::r) fun i h0 hi=>by have:=h (i+1) (by omega) (by simp at hi⊢;omega);rw[show i+1-1=(i-1)+1by omega]at this;simpa using this);(have h01:YX p.1 q.1=N:=by have:=h 1 (by omega) (by simp);simpa using this);refine tU (fun x hx=>?_) ih;rcases tS.1 hx with rfl|hx;(·exact h01);·exact Kz _ _ _ h01 ((rJ.1 ih).1 x hx)
theorem Ue(l:PL)(h:UI l)(i j:Nat)(hij:i<j)(hj:j<l.length):YX (l.getD i ([],[])).1 (l.getD j ([],[])).1=N:=by
 have:=pG.1 h i j (by omega) hj hij;simpa[hj,show i<l.length by omega]using this
theorem Yj(l:PL):QA l=0↔Zd l:=by
 constructor;·intro h;(have hl:l.length<=60:=by by_cases hl:60<l.length;(·rw[xJ l hl]at h;cases h);·omega);rw[QA,if_neg (by omega)]at h;have ha:=fun j(hj:j<l.length)=>(Vm l j).1 (yI l l.length 0 h j (by omega) (by omega));refine⟨hl,fun p hp=>?_,yD l fun i h0 hi=>(ha i hi).2 h0⟩;obtain⟨i,hi,rfl⟩:=L.1 hp;have:=(Ys _).1 (ha i hi).1;simpa[hi]using this
 ·intro h;refine JN l h.room fun j hj=>(Vm l j).2 ⟨(Ys _).2 ?_,fun h0=>Ue l h.rises _ _ (by omega) hj⟩;have:=h.pairs l[j] (sH hj);simpa[hj]using this
theorem Bo:Zd []:=⟨by
 simp,by
 simp,rD⟩
def YW(l:PL)(k:List UInt8):Option (List UInt8):=(l.find? fun p=>p.1==k).map (·.2)
theorem gR(k:List UInt8):YW [] k=H:=rfl
theorem Px(p:Pr)(l:PL)(k:List UInt8):YW (p::l) k=if p.1=k then F p.2 else YW l k:=by
 unfold YW;by_cases h:p.1=k;·rw[pM (by simpa using h),if_pos h];rfl
 ·rw[pN (by simpa using h),if_neg h]
theorem Sp:∀(l:PL)(k:List UInt8)(i:Nat),i<l.length->(∀j,j<i->(l.getD j ([],[])).1≠k)->(l.getD i ([],[])).1=k->YW l k=F (l.getD i ([],[])).2|[],_,_,h,_,_=>by simp at h|p::l,k,0,_,_,h2=>by rw[Px,if_pos (by simpa using h2)];simp|p::l,k,i+1,h,h1,h2=>by rw[Px,if_neg (by simpa using h1 0 (by omega))];have:=Sp l k i (by simpa using h) (fun j hj=>by simpa using h1 (j+1) (by omega)) (by simpa using h2);simpa using this
theorem Ry:∀(l:PL)(k:List UInt8),(∀j,j<l.length->(l.getD j ([],[])).1≠k)->YW l k=H|[],_,_=>rfl|p::l,k,h=>by rw[Px,if_neg (by simpa using h 0 (by simp))];exact Ry l k fun j hj=>by simpa using h (j+1) (by simpa using hj)
def Kx:PL->Pr->PL|[],p=>[p]|q::r,p=>if YX q.1 p.1=N then q::Kx r p else if q.1=p.1then p::r else p::q::r
def uD(l:PL)(k:List UInt8):PL:=l.filter fun q=>!(q.1==k)
def Vx(l:PL)(a b:List UInt8):PL:=l.filter fun q=>!YX q.1 a&&!YX b q.1
theorem M2(l:PL)(p x:Pr):x∈Kx l p->x=p∨x∈l:=by
 induction l with|nil=>intro h;simp[Kx]at h;exact .inl h|cons q r ih=>intro h;rw[Kx]at h;by_cases h1:YX q.1 p.1=N;(·rw[if_pos h1]at h;rcases tS.1 h with rfl|h;(·exact .inr (by simp));·rcases ih h with h|h;(·exact .inl h);·exact .inr (tX _ h));·rw[if_neg h1]at h;by_cases h2:q.1=p.1;(·rw[if_pos h2]at h;rcases tS.1 h with h|h;(·exact .inl h);·exact .inr (tX _ h));·rw[if_neg h2]at h;rcases tS.1 h with h|h;(·exact .inl h);·exact .inr h
theorem P0(l:PL)(p:Pr)(h:UI l):UI (Kx l p):=by
 induction l with|nil=>exact sU _ _|cons q r ih=>have hr:=rJ.1 h;rw[Kx];by_cases h1:YX q.1 p.1=N;(·rw[if_pos h1];refine tU (fun x hx=>?_) (ih hr.2);rcases M2 r p x hx with rfl|hx;(·exact h1);·exact hr.1 x hx);·rw[if_neg h1];by_cases h2:q.1=p.1;(·rw[if_pos h2];exact tU (fun x hx=>by rw[<-h2];exact hr.1 x hx) hr.2);·rw[if_neg h2];have hpq:=UX _ _ (by simpa using h1) h2;refine tU (fun x hx=>?_) h;rcases tS.1 hx with rfl|hx;(·exact hpq);·exact Kz _ _ _ hpq (hr.1 x hx)
theorem Me(l:PL)(k:List UInt8)(h:UI l):UI (uD l k):=sV _ h
theorem BY(l:PL)(a b:List UInt8)(h:UI l):UI (Vx l a b):=sV _ h
def Xh(l:PL)(k:List UInt8):Int:=if QA l=0then Qn k.length else QA l
theorem j8{l:PL}{k:List UInt8}(h:Xh l k=0):Zd l:=by
 unfold Xh at h;by_cases h0:QA l=0;·exact(Yj l).1 h0
 ·rw[if_neg h0]at h;exact absurd h h0
theorem Zc(n:Nat):Qn n=0↔1<=n∧n<=16:=by
 unfold Qn;by_cases h:1<=n∧n<=16;·rw[if_pos h];exact⟨fun _=>h,fun _=>rfl⟩
 ·rw[if_neg h];constructor;(·intro h2;cases h2);·intro h2;exact absurd h2 h
theorem bJ{l:PL}{k:List UInt8}(h:Xh l k=0):1<=k.length∧k.length<=16:=by
 have ht:=(Yj l).2 (j8 h);unfold Xh at h;rw[if_pos ht]at h;exact(Zc _).1 h
theorem j9{l:PL}{k:List UInt8}(h:Zd l)(hk:1<=k.length∧k.length<=16):Xh l k=0:=by
 unfold Xh;rw[if_pos ((Yj l).2 h)];exact(Zc _).2 hk
def Rm(l:PL)(k:List UInt8):Bool:=Xh l k==0&&(YW l k).isSome
def R9(l:PL)(k:List UInt8):List UInt8:=if Xh l k=0then(YW l k).getD []else[]
def xS(l:PL)(k:List UInt8):PL:=if Xh l k=0then uD l k else[]
theorem LY(l:PL)(k:List UInt8):(uD l k).length<=l.length:=rB _ _
def YM(l:PL)(f t:List UInt8):Int:=if Xh l f=0then Qn t.length else Xh l f
theorem AJ{l:PL}{f t:List UInt8}(h:YM l f t=0):Xh l f=0:=by
 unfold YM at h;by_cases h0:Xh l f=0;·exact h0
 ·rw[if_neg h0]at h;exact absurd h h0
def Uc(l:PL)(f t:List UInt8):PL:=if YM l f t=0then Vx l f t else[]
theorem II(l:PL)(f t:List UInt8):(Vx l f t).length<=l.length:=rB _ _
def Gv(l:PL)(p:Pr):Int:=if QA l=0then QN p else QA l
def KG(l:PL)(p:Pr):Int:=if Gv l p=0then(if 60<(Kx l p).length then 11 else 0)else Gv l p
def VK(l:PL)(p:Pr):PL:=if KG l p=0then Kx l p else[]
theorem gK(l:PL)(p:Pr):(Kx l p).length<=l.length+1:=by
 induction l with|nil=>simp[Kx]|cons q r ih=>rw[Kx];by_cases h1:YX q.1 p.1=N;(·rw[if_pos h1];simp;omega);·rw[if_neg h1];by_cases h2:q.1=p.1;(·rw[if_pos h2];simp);·rw[if_neg h2];simp
structure kX (l : PL) : Prop where
  many : l.length * 48 <= 140737488355328
  each : ∀ i, i < l.length -> (l.getD i ([], [])).1.length <= 140737488355328 ∧ (l.getD i ([], [])).2.length <= 140737488355328
theorem kX.len{l:PL}(h:kX l):l.length<=140737488355328:=by
 have:=h.many;omega
theorem Zd.fits{l:PL}(h:Zd l):kX l:=by
 refine⟨by have:=h.room;omega,fun i hi=>?_⟩;have:=h.pairs l[i] (sH hi);rw[show l[i]=l.getD i ([],[])by simp[hi]]at this;omega
abbrev Tn:=List UInt8×PL
abbrev FL:=List Tn
def YN(l:FL):Prop:=l.Pairwise fun p q=>YX p.1 q.1=N
def G8(l:FL)(k:List UInt8):Option PL:=(l.find? fun p=>p.1==k).map (·.2)
theorem zO(p:Tn)(l:FL)(k:List UInt8):G8 (p::l) k=if p.1=k then F p.2 else G8 l k:=by
 unfold G8;by_cases h:p.1=k;·rw[pM (by simpa using h),if_pos h];rfl
 ·rw[pN (by simpa using h),if_neg h]
theorem Bz:∀(l:FL)(k:List UInt8)(i:Nat),i<l.length->(∀j,j<i->(l.getD j ([],[])).1≠k)->(l.getD i ([],[])).1=k->G8 l k=F (l.getD i ([],[])).2|[],_,_,h,_,_=>by simp at h|p::l,k,0,_,_,h2=>by rw[zO,if_pos (by simpa using h2)];simp|p::l,k,i+1,h,h1,h2=>by rw[zO,if_neg (by simpa using h1 0 (by omega))];have:=Bz l k i (by simpa using h) (fun j hj=>by simpa using h1 (j+1) (by omega)) (by simpa using h2);simpa using this
theorem Ea:∀(l:FL)(k:List UInt8),(∀j,j<l.length->(l.getD j ([],[])).1≠k)->G8 l k=H|[],_,_=>rfl|p::l,k,h=>by rw[zO,if_neg (by simpa using h 0 (by simp))];exact Ea l k fun j hj=>by simpa using h (j+1) (by simpa using hj)
def JF:FL->Tn->FL|[],p=>[p]|q::r,p=>if YX q.1 p.1=N then q::JF r p else if q.1=p.1then p::r else p::q::r
def uK(l:FL)(k:List UInt8):FL:=l.filter fun q=>!(q.1==k)
theorem Np(l:FL)(p x:Tn):x∈JF l p->x=p∨x∈l:=by
 induction l with|nil=>intro h;simp[JF]at h;exact .inl h|cons q r ih=>intro h;rw[JF]at h;by_cases h1:YX q.1 p.1=N;(·rw[if_pos h1]at h;rcases tS.1 h with rfl|h;(·exact .inr (by simp));·rcases ih h with h|h;(·exact .inl h);·exact .inr (tX _ h));·rw[if_neg h1]at h;by_cases h2:q.1=p.1;(·rw[if_pos h2]at h;rcases tS.1 h with h|h;(·exact .inl h);·exact .inr (tX _ h));·rw[if_neg h2]at h;rcases tS.1 h with h|h;(·exact .inl h);·exact .inr h
theorem DQ(l:FL)(p:Tn)(h:YN l):YN (JF l p):=by
 induction l with|nil=>exact sU _ _|cons q r ih=>have hr:=rJ.1 h;rw[JF];by_cases h1:YX q.1 p.1=N;(·rw[if_pos h1];refine tU (fun x hx=>?_) (ih hr.2);rcases Np r p x hx with rfl|hx;(·exact h1);·exact hr.1 x hx);·rw[if_neg h1];by_cases h2:q.1=p.1;(·rw[if_pos h2];exact tU (fun x hx=>by rw[<-h2];exact hr.1 x hx) hr.2);·rw[if_neg h2];have hpq:=UX _ _ (by simpa using h1) h2;refine tU (fun x hx=>?_) h;rcases tS.1 hx with rfl|hx;(·exact hpq);·exact Kz _ _ _ hpq (hr.1 x hx)
theorem BA(l:FL)(k:List UInt8)(h:YN l):YN (uK l k):=sV _ h
theorem Iz(l:FL)(p:Tn):(JF l p).length<=l.length+1:=by
 induction l with|nil=>simp[JF]|cons q r ih=>rw[JF];by_cases h1:YX q.1 p.1=N;(·rw[if_pos h1];simp;omega);·rw[if_neg h1];by_cases h2:q.1=p.1;(·rw[if_pos h2];simp);·rw[if_neg h2];simp
theorem Mn(l:FL)(k:List UInt8):(uK l k).length<=l.length:=rB _ _
def Qt(n:Nat):Int:=if 1<=n∧n<=8then 0 else 1
theorem Zl(n:Nat):Qt n=0↔1<=n∧n<=8:=by
 unfold Qt;by_cases h:1<=n∧n<=8;·rw[if_pos h];exact⟨fun _=>h,fun _=>rfl⟩
 ·rw[if_neg h];constructor;(·intro h2;cases h2);·intro h2;exact absurd h2 h
def XJ(t:Tn):Int:=if Qt t.1.length=0then(if t.2.length=0then 4 else QA t.2)else Qt t.1.length
theorem PA(t:Tn):XJ t=0↔(1<=t.1.length∧t.1.length<=8)∧t.2≠[]∧Zd t.2:=by
 unfold XJ;by_cases h:Qt t.1.length=0;·rw[if_pos h];by_cases h2:t.2.length=0;(·rw[if_pos h2];constructor;(·intro h3;cases h3);·intro h3;exact absurd (tD h2) h3.2.1);·rw[if_neg h2,Yj];exact⟨fun h3=>⟨(Zl _).1 h,fun e=>h2 (by rw[e];rfl),h3⟩,fun h3=>h3.2.2⟩
 ·rw[if_neg h];constructor;(·intro h2;exact absurd h2 h);·intro h2;exact absurd ((Zl _).2 h2.1) h
def KI(l:FL)(i:Nat):Int:=if XJ (l.getD i ([],[]))=0then(if 0<i∧YX (l.getD (i-1) ([],[])).1 (l.getD i ([],[])).1=V then 3 else 0)else XJ (l.getD i ([],[]))
def VY(l:FL):Nat->Nat->Int|0,_=>0|n+1,i=>if KI l i=0then VY l n (i+1)else KI l i
def Q5(l:FL):Int:=if 8<l.length then 1 else VY l l.length 0
theorem kL(l:FL)(n i:Nat)(hi:i<=n)(h:∀j,j<i->KI l j=0):VY l n 0=VY l (n-i) i:=by
 induction i with|zero=>rfl|succ i ih=>rw[ih (by omega) (fun j hj=>h j (by omega)),show n-i=(n-(i+1))+1by omega,VY,if_pos (h i (by omega))]
theorem ED(l:FL)(i:Nat)(hi:i<l.length)(hl:l.length<=8)(h:∀j,j<i->KI l j=0)(hf:KI l i≠0):Q5 l=KI l i:=by
 rw[Q5,if_neg (by omega),kL l _ i (by omega) h,show l.length-i=(l.length-(i+1))+1by omega,VY,if_neg hf]
theorem vN(l:FL)(hl:l.length<=8)(h:∀j,j<l.length->KI l j=0):Q5 l=0:=by
 rw[Q5,if_neg (by omega),kL l _ l.length (sA _) h,oU,VY]
theorem Pu(l:FL)(hl:8<l.length):Q5 l=1:=by
 rw[Q5,if_pos hl]
theorem Pq(l:FL):∀(n i:Nat),VY l n i=0->∀j,i<=j->j<i+n->KI l j=0|0,i,_,j,h1,h2=>by omega|n+1,i,h,j,h1,h2=>by rw[VY]at h;by_cases e:KI l i=0;(·rw[if_pos e]at h;by_cases hj:j=i;(·subst hj;exact e);·exact Pq l n (i+1) h j (by omega) (by omega));·rw[if_neg e]at h;exact absurd h e
theorem Nj(l:FL)(i:Nat):KI l i=0↔XJ (l.getD i ([],[]))=0∧(0<i->YX (l.getD (i-1) ([],[])).1 (l.getD i ([],[])).1=N):=by
 unfold KI;by_cases h:XJ (l.getD i ([],[]))=0;·rw[if_pos h];by_cases h2:0<i∧YX (l.getD (i-1) ([],[])).1 (l.getD i ([],[])).1=V;(·rw[if_pos h2];constructor;(·intro h;cases h);·intro h3;have:=h3.2 h2.1;rw[h2.2]at this;cases this);·rw[if_neg h2];refine⟨fun _=>⟨h,fun hi=>?_⟩,fun _=>rfl⟩;cases hk:YX (l.getD (i-1) ([],[])).1 (l.getD i ([],[])).1with|true=>rfl|false=>exact absurd ⟨hi,hk⟩ h2
 ·rw[if_neg h];constructor;(·intro h2;exact absurd h2 h);·intro h2;exact absurd h2.1 h
theorem qZ:∀l:FL,(∀i,0<i->i<l.length->YX (l.getD (i-1) ([],[])).1 (l.getD i ([],[])).1=N)->YN l|[],_=>rD|[_],_=>sU _ _|p::q::r,h=>by(have ih:YN (q::r):=qZ (q::r) fun i h0 hi=>by have:=h (i+1) (by omega) (by simp at hi⊢;omega);rw[show i+1-1=(i-1)+1by omega]at this;simpa using this);(have h01:YX p.1 q.1=N:=by have:=h 1 (by omega) (by simp);simpa using this);refine tU (fun x hx=>?_) ih;rcases tS.1 hx with rfl|hx;(·exact h01);·exact Kz _ _ _ h01 ((rJ.1 ih).1 x hx)
theorem zZ(l:FL)(h:YN l)(i j:Nat)(hij:i<j)(hj:j<l.length):YX (l.getD i ([],[])).1 (l.getD j ([],[])).1=N:=by
 have:=pG.1 h i j (by omega) hj hij;simpa[hj,show i<l.length by omega]using this
structure ZN(l:FL):Prop where room:l.length<=8tens:∀t∈l,(1<=t.1.length∧t.1.length<=8)∧t.2≠[]∧Zd t.2rises:YN l
theorem Xd(l:FL):Q5 l=0↔ZN l:=by
 constructor;·intro h;(have hl:l.length<=8:=by by_cases hl:8<l.length;(·rw[Pu l hl]at h;cases h);·omega);rw[Q5,if_neg (by omega)]at h;have ha:=fun j(hj:j<l.length)=>(Nj l j).1 (Pq l l.length 0 h j (by omega) (by omega));refine⟨hl,fun p hp=>?_,qZ l fun i h0 hi=>(ha i hi).2 h0⟩;obtain⟨i,hi,rfl⟩:=L.1 hp;have:=(PA _).1 (ha i hi).1;simpa[hi]using this
 ·intro h;refine vN l h.room fun j hj=>(Nj l j).2 ⟨(PA _).2 ?_,fun h0=>zZ l h.rises _ _ (by omega) hj⟩;have:=h.tens l[j] (sH hj);simpa[hj]using this
theorem UV:ZN []:=⟨by
 simp,by
 simp,rD⟩
def XT(l:FL)(n:List UInt8):PL:=(G8 l n).getD []
theorem lM(n:List UInt8):XT [] n=[]:=rfl
theorem J6{l:FL}(h:ZN l)(n:List UInt8):Zd (XT l n):=by
 unfold XT G8;cases hf:l.find? (fun p=>p.1==n)with|none=>exact Bo|some t=>exact(h.tens t (List.mem_of_find?_eq_some hf)).2.2
def QD(w:Zi):Int:=if Qt w.name.length=0then(if w.gone=N then(if Qn w.key.length=0then(if 0<w.value.length then 4 else 0)else Qn w.key.length)else QN (w.key,w.value))else Qt w.name.length
def YH(l:FL)(w:Zi):PL:=if w.gone=N then uD (XT l w.name) w.key else Kx (XT l w.name) (w.key,w.value)
def zH(l:FL)(w:Zi):Int:=if w.gone=N then Xh (XT l w.name) w.key else KG (XT l w.name) (w.key,w.value)
def ZA(l:FL)(w:Zi):FL:=if(YH l w).length=0then uK l w.name else JF l (w.name,YH l w)
def YL(l:FL)(w:Zi):Int:=if zH l w=0then(if 8<(ZA l w).length then 11 else 0)else zH l w
def Xj:FL->List Zi->Int|_,[]=>0|l,w::ws=>if QD w=0then(if YL l w=0then Xj (ZA l w) ws else YL l w)else QD w
def JI:FL->List Zi->FL|l,[]=>l|l,w::ws=>JI (ZA l w) ws
def Q4(l:FL)(ws:List Zi):Int:=if Q5 l=0then(if 10<ws.length then 1 else Xj l ws)else Q5 l
def XC(l:FL)(ws:List Zi):FL:=if Q4 l ws=0then JI l ws else[]
theorem XU(w:Zi):QD w=0↔(1<=w.name.length∧w.name.length<=8)∧(1<=w.key.length∧w.key.length<=16)∧(if w.gone=N then w.value=[]else w.value.length<=32):=by
 unfold QD;by_cases hn:Qt w.name.length=0;·rw[if_pos hn];have hn':=(Zl _).1 hn;by_cases hg:w.gone=N;(·rw[if_pos hg,if_pos hg];by_cases hk:Qn w.key.length=0;(·rw[if_pos hk];have hk':=(Zc _).1 hk;by_cases hv:0<w.value.length;(·rw[if_pos hv];constructor;(·intro h;cases h);·intro h;rw[h.2.2]at hv;simp at hv);·rw[if_neg hv];exact⟨fun _=>⟨hn',hk',tD (by omega)⟩,fun _=>rfl⟩);·rw[if_neg hk];constructor;(·intro h;exact absurd h hk);·intro h;exact absurd ((Zc _).2 h.2.1) hk);·rw[if_neg hg,if_neg hg,Ys];exact⟨fun h=>⟨hn',h.1,h.2⟩,fun h=>⟨h.2.1,h.2.2⟩⟩
 ·rw[if_neg hn];constructor;(·intro h;exact absurd h hn);·intro h;exact absurd ((Zl _).2 h.1) hn
theorem OH{l:FL}(h:ZN l){w:Zi}(hw:QD w=0)(he:zH l w=0):Zd (YH l w):=by
 obtain⟨_,hk,hv⟩:=(XU w).1 hw;have hT:=J6 h w.name;unfold YH;unfold zH at he;by_cases hg:w.gone=N;·rw[if_pos hg];exact⟨rH (LY _ _) hT.room,fun p hp=>hT.pairs p (pB.1 hp).1,Me _ _ hT.rises⟩
 ·rw[if_neg hg]at he hv⊢;(have h60:¬60<(Kx (XT l w.name) (w.key,w.value)).length:=by intro h60;unfold KG at he;by_cases h0:Gv (XT l w.name) (w.key,w.value)=0;(·rw[if_pos h0,if_pos h60]at he;cases he);·rw[if_neg h0]at he;exact h0 he);refine⟨by omega,fun q hq=>?_,P0 _ _ hT.rises⟩;rcases M2 _ _ q hq with rfl|hq;(·exact⟨hk,hv⟩);·exact hT.pairs q hq
theorem EX{l:FL}(h:YN l)(w:Zi):YN (ZA l w):=by
 unfold ZA;by_cases hn:(YH l w).length=0;·rw[if_pos hn];exact BA _ _ h
 ·rw[if_neg hn];exact DQ _ _ h
theorem jI{l:FL}(h:ZN l){w:Zi}(hw:QD w=0)(he:YL l w=0):ZN (ZA l w):=by
 have hE:zH l w=0:=by by_cases h0:zH l w=0;(·exact h0);·unfold YL at he;rw[if_neg h0]at he;exact absurd he h0
 have hl:(ZA l w).length<=8:=by unfold YL at he;rw[if_pos hE]at he;by_cases h8:8<(ZA l w).length;(·rw[if_pos h8]at he;cases he);·omega
 obtain⟨hn,_,_⟩:=(XU w).1 hw;refine⟨hl,fun t ht=>?_,EX h.rises w⟩;unfold ZA at ht;by_cases h0:(YH l w).length=0;·rw[if_pos h0]at ht;exact h.tens t (pB.1 ht).1
 ·rw[if_neg h0]at ht;rcases Np _ _ t ht with rfl|ht;(·exact⟨hn,fun e=>h0 (by rw[show YH l w=[]from e];rfl),OH h hw hE⟩);·exact h.tens t ht
structure Rd where
  name : List UInt8
  key : List UInt8
  wide : Bool
  last : List UInt8
def Zh:Rd:=⟨[],[],V,[]⟩
def XM(r:Rd):Int:=if Qt r.name.length=0then(if Qn r.key.length=0then(if r.wide=N then Qn r.last.length else(if 0<r.last.length then 4 else 0))else Qn r.key.length)else Qt r.name.length
theorem Ni(r:Rd):XM r=0↔(1<=r.name.length∧r.name.length<=8)∧(1<=r.key.length∧r.key.length<=16)∧(if r.wide=N then 1<=r.last.length∧r.last.length<=16 else r.last=[]):=by
 unfold XM;by_cases hn:Qt r.name.length=0;·rw[if_pos hn];have hn':=(Zl _).1 hn;by_cases hk:Qn r.key.length=0;(·rw[if_pos hk];have hk':=(Zc _).1 hk;by_cases hw:r.wide=N;(·rw[if_pos hw,if_pos hw,Zc];exact⟨fun h=>⟨hn',hk',h⟩,fun h=>h.2.2⟩);·rw[if_neg hw,if_neg hw];by_cases hl:0<r.last.length;(·rw[if_pos hl];exact⟨fun h=>by omega,fun h=>by rw[h.2.2]at hl;simp at hl⟩);·rw[if_neg hl];exact⟨fun _=>⟨hn',hk',tD (by omega)⟩,fun _=>rfl⟩);·rw[if_neg hk];exact⟨fun h=>absurd h hk,fun h=>absurd ((Zc _).2 h.2.1) hk⟩
 ·rw[if_neg hn];exact⟨fun h=>absurd h hn,fun h=>absurd ((Zl _).2 h.1) hn⟩
def Xg(w:I)(v:O)(p:Zi):Prop:=∃vn vk vv,v=pR #[vn,vk,pS p.gone,vv]∧Qe w vn p.name∧Qe w vk p.key∧Qe w vv p.value
theorem Xg.grown{w w':I}{v:O}{p:Zi}(h:Xg w v p)(hg:J w w' H):Xg w' v p:=by
 obtain⟨vn,vk,vv,rfl,h1,h2,h3⟩:=h;exact⟨vn,vk,vv,rfl,h1.grown hg,h2.grown hg,h3.grown hg⟩
theorem Xg.aggW{w:I}{v:O}{p:Zi}(h:Xg w v p):∃na nc ka kc va vc,v=pR #[tH na p.name.length nc,tH ka p.key.length kc,pS p.gone,tH va p.value.length vc]:=by
 obtain⟨vn,vk,vv,rfl,h1,h2,h3⟩:=h;obtain⟨na,nc,rfl⟩:=h1.shape;obtain⟨ka,kc,rfl⟩:=h2.shape;obtain⟨va,vc,rfl⟩:=h3.shape;exact⟨na,nc,ka,kc,va,vc,rfl⟩
def Pe(w:I)(b o:Nat)(p:Zi):Prop:=∃vn vk vv,w.cell? ⟨b,o,H⟩=F vn∧w.cell? ⟨b,o+1,H⟩=F vk∧w.cell? ⟨b,o+2,H⟩=F (pS p.gone)∧w.cell? ⟨b,o+3,H⟩=F vv∧Qe w vn p.name∧Qe w vk p.key∧Qe w vv p.value
theorem Pe.grown{w w':I}{b o:Nat}{p:Zi}(h:Pe w b o p)(hg:J w w' H):Pe w' b o p:=by
 obtain⟨vn,vk,vv,c1,c2,c3,c4,h1,h2,h3⟩:=h;exact⟨vn,vk,vv,hg.cell c1 (by simp),hg.cell c2 (by simp),hg.cell c3 (by simp),hg.cell c4 (by simp),h1.grown hg,h2.grown hg,h3.grown hg⟩
def QS(w:I)(v:O)(l:List Zi):Prop:=∃a cap,v=tH a l.length cap∧l.length<=cap∧((l=[]∧(a=H->cap=0))∨∃b o,a=F ⟨b,o,H⟩∧∀i,i<l.length->Pe w b (o+i*4) (l.getD i Qr))
theorem QS.shape{w:I}{v:O}{l:List Zi}(h:QS w v l):∃a cap,v=tH a l.length cap:=by
 obtain⟨a,cap,rfl,_⟩:=h;exact⟨a,cap,rfl⟩
theorem QS.grown{w w':I}{v:O}{l:List Zi}(h:QS w v l)(hg:J w w' H):QS w' v l:=by
 obtain⟨a,cap,rfl,hc,h⟩:=h;refine⟨a,cap,rfl,hc,?_⟩;rcases h with h|⟨b,o,rfl,h⟩;·exact .inl h
 ·exact .inr ⟨b,o,rfl,fun i hi=>(h i hi).grown hg⟩
theorem QS.at{w:I}{a:Option pH}{n cap:Nat}{l:List Zi}(h:QS w (tH a n cap) l)(i:Nat)(hi:i<l.length):∃b o,a=F ⟨b,o,H⟩∧Pe w b (o+i*4) (l.getD i Qr):=by
 obtain⟨a',cap',e,hc,h⟩:=h;simp only[rG]at e;obtain⟨rfl,rfl,rfl⟩:=e;rcases h with⟨rfl,_⟩|⟨b,o,rfl,h⟩;·simp at hi
 ·exact⟨b,o,rfl,h i hi⟩
structure vC (l : List Zi) : Prop where
  many : l.length * 80 <= 140737488355328
  each : ∀ i, i < l.length -> Y6 (l.getD i Qr)
theorem vC.len{l:List Zi}(h:vC l):l.length<=140737488355328:=by
 have:=h.many;omega
structure XO where
  turn : Int
  writes : List Zi
def Zr:XO:=⟨0,[]⟩
def AL:Nat->List Zi->Int|_,[]=>0|i,w::ws=>if(if 10<=i then(1:Int)else QD w)=0then AL (i+1) ws else(if 10<=i then(1:Int)else QD w)
def Zb(c:XO):Int:=if 1<=c.turn∧c.turn<=1048576then(if c.writes.length=0then 1 else AL 0 c.writes)else 2
theorem Hj:∀(ws:List Zi)(i:Nat),AL i ws=0↔(ws=[]∨i+ws.length<=10)∧∀w∈ws,QD w=0|[],i=>by simp[AL]|w::ws,i=>by have ih:=Hj ws (i+1);rw[AL];by_cases h10:10<=i;(·rw[if_pos h10,if_neg (by omega)];constructor;(·intro h;omega);·rintro⟨h|h,_⟩;(·cases h);·simp at h;omega);·rw[if_neg h10];by_cases hw:QD w=0;(·rw[if_pos hw,ih];constructor;(·rintro⟨h1,h2⟩;refine⟨.inr ?_,?_⟩;(·rcases h1 with rfl|h1;(·simp;omega);·simp;omega);·intro x hx;rcases tS.1 hx with rfl|hx;(·exact hw);·exact h2 x hx);·rintro⟨h1,h2⟩;refine⟨.inr ?_,fun x hx=>h2 x (tX _ hx)⟩;rcases h1 with h1|h1;(·cases h1);·simp at h1;omega);·rw[if_neg hw];constructor;(·intro h;exact absurd h hw);·rintro⟨_,h2⟩;exact absurd (h2 w (rX ..)) hw
theorem Ud(c:XO):Zb c=0↔(1<=c.turn∧c.turn<=1048576)∧(1<=c.writes.length∧c.writes.length<=10)∧∀w∈c.writes,QD w=0:=by
 unfold Zb;by_cases h1:1<=c.turn∧c.turn<=1048576;·rw[if_pos h1];by_cases h2:c.writes.length=0;(·rw[if_pos h2];constructor;(·intro h;omega);·rintro⟨_,h,_⟩;omega);·rw[if_neg h2,Hj];constructor;(·rintro⟨h3|h3,h4⟩;(·rw[h3]at h2;simp at h2);·exact⟨h1,⟨by omega,by omega⟩,h4⟩);·rintro⟨_,h3,h4⟩;exact⟨.inr (by omega),h4⟩
 ·rw[if_neg h1];constructor;(·intro h;omega);·rintro⟨h,_⟩;exact absurd h h1
theorem eM(ws:List Zi)(i:Nat)(h:i<ws.length):AL i (ws.drop i)=if(if 10<=i then(1:Int)else QD (ws.getD i Qr))=0then AL (i+1) (ws.drop (i+1))else(if 10<=i then(1:Int)else QD (ws.getD i Qr)):=by
 rw[sD h,AL,show ws[i]=ws.getD i Qr by simp[h]]
theorem gD(ws:List Zi):AL ws.length (ws.drop ws.length)=0:=by
 rw[List.drop_length,AL]
def XX(p:List UInt8):List UInt8:=tC p.length::p
theorem zL(p:List UInt8):(XX p).length=p.length+1:=rfl
def G4(w:Zi):List UInt8:=if w.gone=N then[255]else XX w.value
def Yo(w:Zi):List UInt8:=XX w.name++XX w.key++G4 w
def Vn(t n:Nat):List UInt8:=[tC (t/65536),tC (t/256%256),tC (t%256),tC n]
def Zn(c:XO):List UInt8:=Vn c.turn.toNat c.writes.length++c.writes.flatMap Yo
def ZD:List UInt8->Option (List UInt8×List UInt8)|[]=>H|x::r=>if x.toNat<=r.length then F (r.take x.toNat,r.drop x.toNat)else H
def vT(n k r:List UInt8):Option (Zi×List UInt8):=if r.head?=F 255then F (⟨n,k,[],N⟩,r.tail)else match ZD r with|F (v,r2)=>F (⟨n,k,v,V⟩,r2)|none=>H
def Dn(n r:List UInt8):Option (Zi×List UInt8):=match ZD r with|F (k,r2)=>vT n k r2|none=>H
def Jl(r:List UInt8):Option (Zi×List UInt8):=match ZD r with|F (n,r2)=>Dn n r2|none=>H
def ZZ:Nat->List UInt8->Option (List Zi×List UInt8)|0,r=>F ([],r)|n+1,r=>match Jl r with|F (w,r1)=>(match ZZ n r1 with|F (ws,r2)=>F (w::ws,r2)|none=>H)|none=>H
theorem Cs{p:List UInt8}(h:p.length<256):(tC p.length).toNat=p.length:=by
 simp;omega
theorem VL(p r:List UInt8)(h:p.length<256):ZD (XX p++r)=F (p,r):=by
 show ZD (tC p.length::(p++r))=_;rw[ZD,Cs h,if_pos (by simp),rS,rT]<;>rfl
theorem GS{r p r2:List UInt8}(h:ZD r=F (p,r2)):r=XX p++r2:=by
 cases r with|nil=>cases h|cons x r=>rw[ZD]at h;by_cases hx:x.toNat<=r.length;(·rw[if_pos hx]at h;simp only[tP,sC]at h;obtain⟨rfl,rfl⟩:=h;(have hl:(r.take x.toNat).length=x.toNat:=by simp;omega);show x::r=tC (r.take x.toNat).length::(r.take x.toNat++r.drop x.toNat);rw[hl,tE];simp);·rw[if_neg hx]at h;cases h
theorem Sa{r p r2:List UInt8}(h:ZD r=F (p,r2))(x:List UInt8):ZD (r++x)=F (p,r2++x):=by
 cases r with|nil=>cases h|cons y r=>rw[ZD]at h;by_cases hy:y.toNat<=r.length;(·rw[if_pos hy]at h;simp only[tP,sC]at h;obtain⟨rfl,rfl⟩:=h;show ZD (y::(r++x))=_;rw[ZD,if_pos (by simp;omega),pC hy,pD hy]);·rw[if_neg hy]at h;cases h
theorem Sq{w:Zi}(hw:QD w=0)(r:List UInt8):Jl (Yo w++r)=F (w,r):=by
 obtain⟨h1,h2,h3⟩:=(XU w).1 hw;unfold Jl Yo;rw[tB,tB,VL _ _ (by omega)];show Dn w.name (XX w.key++(G4 w++r))=_;unfold Dn;rw[VL _ _ (by omega)];show vT w.name w.key (G4 w++r)=_;unfold vT G4;by_cases hg:w.gone=N;·rw[if_pos hg]at h3⊢;rw[if_pos (by rfl)];obtain⟨n,k,v,g⟩:=w;simp only at hg h3;subst hg h3;rfl
 ·rw[if_neg hg]at h3⊢;rw[if_neg,VL _ _ (by omega)];(·obtain⟨n,k,v,g⟩:=w;simp only[Bool.not_eq_true]at hg;subst hg;rfl);·show¬(F (tC w.value.length)=F 255);intro e;have:=congrArg UInt8.toNat (pO e);rw[Cs (by omega)]at this;have h255:(255:UInt8).toNat=255:=rfl;omega
theorem Tf:∀(ws:List Zi)(_:∀w∈ws,QD w=0)(r:List UInt8),ZZ ws.length (ws.flatMap Yo++r)=F (ws,r)|[],_,r=>rfl|w::ws,h,r=>by show ZZ (ws.length+1) ((w::ws).flatMap Yo++r)=_;rw[ZZ,rM,tB,Sq (h w (rX ..))];show(match ZZ ws.length (ws.flatMap Yo++r)with|F (ws',r2)=>F (w::ws',r2)|none=>H)=_;rw[Tf ws (fun x hx=>h x (tX _ hx)) r]
theorem Ce{r r2:List UInt8}{w:Zi}(h:Jl r=F (w,r2)):r=Yo w++r2:=by
 unfold Jl at h;cases h1:ZD r with|none=>rw[h1]at h;cases h|some q=>obtain⟨n,ra⟩:=q;rw[h1]at h;have h:Dn n ra=F (w,r2):=h;unfold Dn at h;cases h2:ZD ra with|none=>rw[h2]at h;cases h|some q=>obtain⟨k,rb⟩:=q;rw[h2]at h;have h:vT n k rb=F (w,r2):=h;rw[GS h1,GS h2];unfold vT at h;by_cases hg:rb.head?=F 255;(·rw[if_pos hg]at h;simp only[tP,sC]at h;obtain⟨rfl,rfl⟩:=h;cases rb with|nil=>cases hg|cons x rb=>obtain rfl:x=255:=pO hg;show XX n++(XX k++255::rb)=XX n++XX k++[255]++rb;simp[tB]);·rw[if_neg hg]at h;cases h3:ZD rb with|none=>rw[h3]at h;cases h|some q=>obtain⟨v,rc⟩:=q;rw[h3]at h;simp only[tP,sC]at h;obtain⟨rfl,rfl⟩:=h;rw[GS h3];show XX n++(XX k++(XX v++rc))=XX n++XX k++XX v++rc;simp[tB]
theorem PH:∀(n:Nat){r r2:List UInt8}{ws:List Zi},ZZ n r=F (ws,r2)->r=ws.flatMap Yo++r2∧ws.length=n|0,r,r2,ws,h=>by rw[ZZ]at h;simp only[tP,sC]at h;obtain⟨rfl,rfl⟩:=h;exact⟨rfl,rfl⟩|n+1,r,r2,ws,h=>by rw[ZZ]at h;cases h1:Jl r with|none=>rw[h1]at h;cases h|some q=>obtain⟨w,ra⟩:=q;rw[h1]at h;have h:(match ZZ n ra with|F (ws,r2)=>F (w::ws,r2)|none=>H)=F (ws,r2):=h;cases h2:ZZ n ra with|none=>rw[h2]at h;cases h|some q=>obtain⟨ws',rb⟩:=q;rw[h2]at h;simp only[tP,sC]at h;obtain⟨rfl,rfl⟩:=h;obtain⟨e1,e2⟩:=PH n h2;exact⟨by rw[Ce h1,e1,rM,tB],by simp[e2]⟩
theorem yC : ∀ (n : Nat) (r : List UInt8), ZZ (n + 1) r = match ZZ n r with | F (ws, r1) => (match Jl r1 with | F (w, r2) => F (ws ++ [w], r2) | none => H) | none => H
  | 0, r => by
    rw [ZZ]
    cases h : Jl r with
    | none => simp [ZZ, h]
    | some q => obtain ⟨w, ra⟩ := q; simp [ZZ, h]
  | n + 1, r => by
    rw [ZZ]
    cases h : Jl r with
    | none =>
      show H = _
      rw [ZZ, h]
    | some q =>
      obtain ⟨w, ra⟩ := q
      show (match ZZ (n + 1) ra with | F (ws, r2) => F (w :: ws, r2) | none => H) = _
      rw [yC n ra, show ZZ (n + 1) r = (match ZZ n ra with | F (ws, r2) => F (w :: ws, r2) | none => H) by rw [ZZ, h]]
      cases h2 : ZZ n ra with
      | none => rfl
      | some q =>
        obtain ⟨ws, rb⟩ := q
        show (match (match Jl rb with | F (w, r2) => F (ws ++ [w], r2) | none => H) with | F (ws, r2) => F (w :: ws, r2) | none => H) = (match Jl rb with | F (w', r2) => F (w :: ws ++ [w'], r2) | none => H)
        cases Jl rb with
        | none => rfl
        | some q => rfl
def GF(b:List UInt8):Nat:=65536*(b.getD 0 0).toNat+256*(b.getD 1 0).toNat+(b.getD 2 0).toNat
def qX(b:List UInt8):Option (List Zi×List UInt8):=ZZ (b.getD 3 0).toNat (b.drop 4)
def YU(b:List UInt8):Int:=if 4000<b.length then 1 else if b.length<4then 14 else match qX b with|none=>14|F (ws,r)=>if r.length=0then Zb ⟨(GF b:Int),ws⟩else 4
def JZ(b:List UInt8):XO:=if YU b=0then(match qX b with|F (ws,_)=>⟨(GF b:Int),ws⟩|none=>Zr)else Zr
theorem Fr(t n:Nat):(Vn t n).length=4:=rfl
theorem Oi(t n:Nat)(x:List UInt8)(ht:t<=1048576):GF (Vn t n++x)=t:=by
 show 65536*(tC (t/65536)).toNat+256*(tC (t/256%256)).toNat+(tC (t%256)).toNat=t;simp only[pW];omega
theorem WL(t n:Nat)(x:List UInt8)(hn:n<=10):((Vn t n++x).getD 3 0).toNat=n:=by
 show(tC n).toNat=n;simp;omega
theorem Wk(t n:Nat)(x:List UInt8):(Vn t n++x).drop 4=x:=rfl
theorem La{w:Zi}(hw:QD w=0):(Yo w).length=3+w.name.length+w.key.length+w.value.length∧(Yo w).length<=59:=by
 obtain⟨h1,h2,h3⟩:=(XU w).1 hw;unfold Yo G4;by_cases hg:w.gone=N;·rw[if_pos hg]at h3⊢;rw[h3];simp only[T,zL,pA,List.length_nil];omega
 ·rw[if_neg hg]at h3⊢;simp only[T,zL];omega
def LS(ws:List Zi):Nat:=(ws.map fun w=>3+w.name.length+w.key.length+w.value.length).sum
theorem yL:∀(ws:List Zi)(_:∀w∈ws,QD w=0),(ws.flatMap Yo).length=LS ws∧(ws.flatMap Yo).length<=59*ws.length|[],_=>by simp[LS]|w::ws,h=>by obtain⟨i1,i2⟩:=yL ws (fun x hx=>h x (tX _ hx));obtain⟨j1,j2⟩:=La (h w (rX ..));rw[rM,T];unfold LS at i1⊢;rw[oS,List.sum_cons,pA];omega
theorem Vl{c:XO}(h:Zb c=0):(Zn c).length=4+LS c.writes∧(Zn c).length<=594:=by
 obtain⟨_,h2,h3⟩:=(Ud c).1 h;obtain⟨i1,i2⟩:=yL c.writes h3;unfold Zn;rw[T,Fr];omega
theorem Ci{c:XO}(h:Zb c=0)(x:List UInt8):qX (Zn c++x)=F (c.writes,x)∧GF (Zn c++x)=c.turn.toNat:=by
 obtain⟨h1,h2,h3⟩:=(Ud c).1 h;unfold qX Zn;rw[tB,WL _ _ _ h2.2,Wk,Oi _ _ _ (by omega)];exact⟨Tf _ h3 _,rfl⟩
theorem DR{c:XO}(h:Zb c=0):YU (Zn c)=0∧JZ (Zn c)=c:=by
 obtain⟨h1,h2,h3⟩:=(Ud c).1 h;obtain⟨s1,s2⟩:=Vl h;obtain⟨b1,b2⟩:=Ci h [];rw[tY]at b1 b2;have hc:(⟨(GF (Zn c):Int),c.writes⟩:XO)=c:=by rw[b2,Int.toNat_of_nonneg (by omega)]
 have hd:YU (Zn c)=0:=by rw[YU,if_neg (by omega),if_neg (by omega),b1];show(if([]:List UInt8).length=0then Zb ⟨(GF (Zn c):Int),c.writes⟩else 4)=0;rw[if_pos (show([]:List UInt8).length=0from rfl),hc,h]
 refine⟨hd,?_⟩;rw[JZ,if_pos hd,b1];exact hc
theorem MR{b:List UInt8}(h:YU b=0):Zb (JZ b)=0∧Zn (JZ b)=b:=by
 have hC:JZ b=(match qX b with|F (ws,_)=>⟨(GF b:Int),ws⟩|none=>Zr):=by rw[JZ,if_pos h]
 rw[YU]at h;by_cases h1:4000<b.length;·rw[if_pos h1]at h;omega
 rw[if_neg h1]at h;by_cases h2:b.length<4;·rw[if_pos h2]at h;omega
 rw[if_neg h2]at h;cases hb:qX b with|none=>rw[hb]at h;simp at h|some q=>obtain⟨ws,r⟩:=q;rw[hb]at h hC;have h:(if r.length=0then Zb ⟨(GF b:Int),ws⟩else 4)=0:=h;have hC:JZ b=⟨(GF b:Int),ws⟩:=hC;by_cases hr:r.length=0;(·rw[if_pos hr]at h;obtain rfl:r=[]:=tD hr;rw[hC];refine⟨h,?_⟩;obtain⟨k1,k2,k3⟩:=(Ud _).1 h;unfold qX at hb;obtain⟨e1,e2⟩:=PH _ hb;rw[tY]at e1;show Vn ((GF b:Int)).toNat ws.length++ws.flatMap Yo=b;rw[<-e1,e2,rN];match b,h2 with|x0::x1::x2::x3::t,_=>show Vn (65536*x0.toNat+256*x1.toNat+x2.toNat) x3.toNat++t=_;have a0:=x0.toNat_lt;have a1:=x1.toNat_lt;have a2:=x2.toNat_lt;have a3:=x3.toNat_lt;unfold Vn;rw[show(65536*x0.toNat+256*x1.toNat+x2.toNat)/65536=x0.toNat by omega,show(65536*x0.toNat+256*x1.toNat+x2.toNat)/256%256=x1.toNat by omega,show(65536*x0.toNat+256*x1.toNat+x2.toNat)%256=x2.toNat by omega];simp);·rw[if_neg hr]at h;omega
def Tt(b:List UInt8):List UInt8:=tC (b.length/256)::tC (b.length%256)::b
theorem xY(b:List UInt8):(Tt b).length=b.length+2:=rfl
def ZP(D:List UInt8->List UInt8)(c:XO):List UInt8:=Tt (Zn c)++D (Tt (Zn c))
def Zm(r:List UInt8):Nat:=256*(r.getD 0 0).toNat+(r.getD 1 0).toNat
def XQ(D:List UInt8->List UInt8)(r:List UInt8):Option (XO×List UInt8):=if r.length<6then H else if r.length<Zm r+6∨4000<Zm r+2then H else if D (r.take (Zm r+2))=(r.drop (Zm r+2)).take 4then(if YU ((r.drop 2).take (Zm r))=0then F (JZ ((r.drop 2).take (Zm r)),r.drop (Zm r+6))else H)else H
theorem AT{D:List UInt8->List UInt8}{r r2:List UInt8}{c:XO}(h:XQ D r=F (c,r2)):∃m,6<=m∧m<=r.length∧r2=r.drop m∧Zb c=0:=by
 unfold XQ at h;by_cases h1:r.length<6;·rw[if_pos h1]at h;cases h
 rw[if_neg h1]at h;by_cases h2:r.length<Zm r+6∨4000<Zm r+2;·rw[if_pos h2]at h;cases h
 rw[if_neg h2]at h;by_cases h3:D (r.take (Zm r+2))=(r.drop (Zm r+2)).take 4;·rw[if_pos h3]at h;by_cases h4:YU ((r.drop 2).take (Zm r))=0;(·rw[if_pos h4]at h;simp only[tP,sC]at h;obtain⟨rfl,rfl⟩:=h;exact⟨Zm r+6,by omega,by omega,rfl,(MR h4).1⟩);·rw[if_neg h4]at h;cases h
 ·rw[if_neg h3]at h;cases h
theorem NH{b:List UInt8}(h:b.length<65536)(x:List UInt8):Zm (Tt b++x)=b.length:=by
 show 256*(tC (b.length/256)).toNat+(tC (b.length%256)).toNat=b.length;simp only[pW];omega
theorem Fl{D:List UInt8->List UInt8}(hD:∀x,(D x).length=4)(c:XO):(ZP D c).length=(Zn c).length+6:=by
 unfold ZP;rw[T,hD,xY]
theorem AM{D:List UInt8->List UInt8}(hD:∀x,(D x).length=4){c:XO}(h:Zb c=0)(r:List UInt8):XQ D (ZP D c++r)=F (c,r):=by
 obtain⟨s1,s2⟩:=Vl h;obtain⟨d1,d2⟩:=DR h;have hl:=Fl hD c;have hz:Zm (ZP D c++r)=(Zn c).length:=by unfold ZP;rw[tB];exact NH (by omega) _
 have ht:(ZP D c++r).take ((Zn c).length+2)=Tt (Zn c):=by unfold ZP;rw[tB];exact rS (xY _)
 have hd:(ZP D c++r).drop ((Zn c).length+2)=D (Tt (Zn c))++r:=by unfold ZP;rw[tB];exact rT (xY _)
 have hm:((ZP D c++r).drop 2).take (Zn c).length=Zn c:=by unfold ZP;rw[tB];exact rS rfl
 have he:(ZP D c++r).drop ((Zn c).length+6)=r:=rT hl;have hlen:(ZP D c++r).length=(Zn c).length+6+r.length:=by rw[T,hl]
 unfold XQ;rw[if_neg (by omega),hz,if_neg (by omega),ht,hd,hm,he,if_pos (rS (hD _)).symm,if_pos d1,d2]
theorem LM{D:List UInt8->List UInt8}(hD:∀x,(D x).length=4){c:XO}(h:Zb c=0)(k:Nat)(hk:k<(ZP D c).length):XQ D ((ZP D c).take k)=H:=by
 obtain⟨s1,s2⟩:=Vl h;have hl:=Fl hD c;have hkl:((ZP D c).take k).length=k:=by simp;omega
 unfold XQ;by_cases h6:k<6;·rw[if_pos (by omega)]
 ·(have hz:Zm ((ZP D c).take k)=(Zn c).length:=by(have hz:Zm (ZP D c++[])=(Zn c).length:=by unfold ZP;rw[tB];exact NH (by omega) _);rw[tY]at hz;rw[<-hz];unfold Zm;simp only[List.getD_eq_getElem?_getD,pY];rw[if_pos (by omega),if_pos (by omega)]);rw[if_neg (by omega),hz,if_pos (by omega)]
def K2(D:List UInt8->List UInt8)(turn:Nat)(r:List UInt8):List XO×List UInt8:=match h:XQ D r with|F (c,r2)=>if c.turn=(turn:Int)then(c::(K2 D (turn+1) r2).1,(K2 D (turn+1) r2).2)else([],r)|none=>([],r)termination_by r.length decreasing_by
 all_goals obtain⟨m,h1,h2,h3,_⟩:=AT h;rw[h3,oO];omega
theorem aC{D:List UInt8->List UInt8}{turn:Nat}{r r2:List UInt8}{c:XO}(h:XQ D r=F (c,r2))(ht:c.turn=(turn:Int)):K2 D turn r=(c::(K2 D (turn+1) r2).1,(K2 D (turn+1) r2).2):=by
 rw[K2];split;·next c' r' h'=>rw[h]at h';simp only[tP,sC]at h';obtain⟨rfl,rfl⟩:=h';rw[if_pos ht]
 ·next h'=>rw[h]at h';cases h'
theorem IY{D:List UInt8->List UInt8}{turn:Nat}{r r2:List UInt8}{c:XO}(h:XQ D r=F (c,r2))(ht:c.turn≠(turn:Int)):K2 D turn r=([],r):=by
 rw[K2];split;·next c' r' h'=>rw[h]at h';simp only[tP,sC]at h';obtain⟨rfl,rfl⟩:=h';rw[if_neg ht]
 ·rfl
theorem R7{D:List UInt8->List UInt8}{turn:Nat}{r:List UInt8}(h:XQ D r=H):K2 D turn r=([],r):=by
 rw[K2];split;·next c' r' h'=>rw[h]at h';cases h'
 ·rfl
theorem Om(D:List UInt8->List UInt8):XQ D []=H:=by
 unfold XQ;rw[if_pos (by simp)]
def z9:Nat->List XO->Prop|_,[]=>True|t,c::cs=>c.turn=(t:Int)∧Zb c=0∧z9 (t+1) cs
theorem z9.take:∀{t:Nat}{cs:List XO}(_:z9 t cs)(j:Nat),z9 t (cs.take j)|_,[],_,j=>by rw[oT];trivial|_,c::cs,_,0=>trivial|t,c::cs,h,j+1=>⟨h.1,h.2.1,z9.take h.2.2 j⟩
def Q7(D:List UInt8->List UInt8)(cs:List XO):List UInt8:=cs.flatMap (ZP D)
theorem K7(D:List UInt8->List UInt8)(c:XO)(cs:List XO):Q7 D (c::cs)=ZP D c++Q7 D cs:=rM
theorem V1(D:List UInt8->List UInt8)(a b:List XO):Q7 D (a++b)=Q7 D a++Q7 D b:=List.flatMap_append
theorem Fg(D:List UInt8->List UInt8)(c:XO):Q7 D [c]=ZP D c:=by
 simp[Q7]
def Cj(D:List UInt8->List UInt8)(r:List UInt8):Nat:=r.length-(K2 D 1 r).2.length
theorem BR{D:List UInt8->List UInt8}(hD:∀x,(D x).length=4):∀{t:Nat}{cs:List XO}(_:z9 t cs)(k:Nat),∃j,j<=cs.length∧K2 D t ((Q7 D cs).take k)=(cs.take j,((Q7 D cs).take k).drop (Q7 D (cs.take j)).length)∧(Q7 D (cs.take j)).length<=k∧(Q7 D (cs.take j)).length<=(Q7 D cs).length∧(j<cs.length->k<(Q7 D (cs.take (j+1))).length)|t,[],_,k=>⟨0,by simp,by show K2 D t (([]:List UInt8).take k)=_;rw[oT,R7 (Om D)];simp[Q7],by simp[Q7],by simp[Q7],fun h=>by simp at h⟩|t,c::cs,h,k=>by by_cases hk:k<(ZP D c).length;(·refine⟨0,by simp,?_,by simp[Q7],by simp[Q7],fun _=>?_⟩;(·rw[K7,pC (by omega),R7 (LM hD h.2.1 k hk)];simp[Q7]);·show k<(Q7 D [c]).length;rw[Fg];exact hk);·obtain⟨j,h1,h2,h3,h4,h5⟩:=BR hD h.2.2 (k-(ZP D c).length);(have ht:(Q7 D (c::cs)).take k=ZP D c++(Q7 D cs).take (k-(ZP D c).length):=by rw[K7,List.take_append,pK (by omega)]);refine⟨j+1,by simp;omega,?_,?_,?_,fun hj=>?_⟩;(·rw[ht,aC (AM hD h.2.1 _) h.1,h2,sI,K7];rw[T,<-List.drop_drop,rT rfl]);(·rw[sI,K7,T];omega);(·rw[sI,K7,K7,T,T];omega);·have:=h5 (by simpa using hj);rw[sI,K7,T];omega
theorem Vd(D:List UInt8->List UInt8)(cs:List XO)(i j:Nat)(h:i<=j):(Q7 D (cs.take i)).length<=(Q7 D (cs.take j)).length:=by
 have:cs.take i=(cs.take j).take i:=by rw[List.take_take,oR h]
 rw[this];conv=>rhs;rw[<-tE i (cs.take j),V1]
 rw[T];omega
theorem Ev{D:List UInt8->List UInt8}{cs:List XO}{k j i:Nat}(hi:i<=cs.length)(hj:j<cs.length->k<(Q7 D (cs.take (j+1))).length)(hk:(Q7 D (cs.take i)).length<=k):i<=j:=by
 by_cases h:i<=j;·exact h
 ·have:=Vd D cs (j+1) i (by omega);have:=hj (by omega);omega
theorem Nx(t:PL)(p:Pr)(h:∀q∈t,(1<=q.1.length∧q.1.length<=16)∧q.2.length<=32)(hp:(1<=p.1.length∧p.1.length<=16)∧p.2.length<=32):∀q∈Kx t p,(1<=q.1.length∧q.1.length<=16)∧q.2.length<=32:=by
 intro q hq;rcases M2 t p q hq with rfl|hq;·exact hp
 ·exact h q hq
theorem Hv:∀(t:PL)(p:Pr)(k:Nat),k<=t.length->(∀j,j<k->YX (t.getD j ([],[])).1 p.1=N)->(k<t.length->YX (t.getD k ([],[])).1 p.1=V)->Kx t p=if k<t.length∧(t.getD k ([],[])).1=p.1then t.set k p else t.take k++([p]++t.drop k)|[],p,k,hk,_,_=>by(obtain rfl:k=0:=by simpa using hk);simp[Kx]|q::r,p,0,_,_,h2=>by have h:=h2 (by simp);simp only[tW]at h;rw[Kx,if_neg (by rw[h];simp)];by_cases e:q.1=p.1;(·rw[if_pos e,if_pos ⟨by simp,by simpa using e⟩];simp);·rw[if_neg e,if_neg (fun h=>e (by simpa using h.2))];simp|q::r,p,k+1,hk,h1,h2=>by have h:=h1 0 (by omega);simp only[tW]at h;rw[Kx,if_pos h,Hv r p k (by simpa using hk) (fun j hj=>by simpa using h1 (j+1) (by omega)) (fun hk=>by simpa using h2 (by simpa using hk))];by_cases e:k<r.length∧(r.getD k ([],[])).1=p.1;(·rw[if_pos e,if_pos ⟨by simpa using e.1,by simpa using e.2⟩];simp);·rw[if_neg e,if_neg (fun h=>e ⟨by simpa using h.1,by simpa using h.2⟩)];simp
theorem e9(t:PL)(p:Pr)(h:Zd t)(hp:(1<=p.1.length∧p.1.length<=16)∧p.2.length<=32)(hl:t.length<60):KG t p=0∧VK t p=Kx t p∧Zd (Kx t p):=by
 have h0:Gv t p=0:=by rw[Gv,if_pos ((Yj t).2 h)];exact(Ys p).2 hp
 have hlen:=gK t p;have h1:KG t p=0:=by rw[KG,if_pos h0,if_neg (by omega)]
 exact⟨h1,by rw[VK,if_pos h1],⟨by omega,Nx t p h.pairs hp,P0 t p h.rises⟩⟩
def bY(m:Nat)(l:FL):Prop:=∀n,(XT l n).length<=m
theorem Iq:bY 0 []:=fun n=>by
 rw[lM];simp
theorem iG{l:FL}{m:Nat}(h:ZN l){w:Zi}(hw:QD w=0)(hs:bY m l)(hm:m<60):zH l w=0:=by
 obtain⟨_,hk,hv⟩:=(XU w).1 hw;have hT:=J6 h w.name;have hl:=hs w.name;unfold zH;by_cases hg:w.gone=N;·rw[if_pos hg];exact j9 hT hk
 ·rw[if_neg hg]at hv⊢;exact(e9 _ _ hT ⟨hk,hv⟩ (by omega)).1
theorem T9{l:FL}{m:Nat}(h:ZN l){w:Zi}(hw:QD w=0)(hs:bY m l)(hm:m<60):YL l w=if 8<(ZA l w).length then 11 else 0:=by
 rw[YL,if_pos (iG h hw hs hm)]
theorem D9(l:FL)(w:Zi):(ZA l w).length<=l.length+1:=by
 unfold ZA;by_cases hn:(YH l w).length=0;·rw[if_pos hn];have:=Mn l w.name;omega
 ·rw[if_neg hn];exact Iz _ _
theorem Pm:∀(ws:List Zi)(l:FL),ZN l->Xj l ws=0->ZN (JI l ws)|[],l,h,_=>h|w::ws,l,h,he=>by rw[Xj]at he;by_cases hw:QD w=0;(·rw[if_pos hw]at he;by_cases h2:YL l w=0;(·rw[if_pos h2]at he;exact Pm ws _ (jI h hw h2) he);·rw[if_neg h2]at he;exact absurd he h2);·rw[if_neg hw]at he;exact absurd he hw
def qH(l:FL)(n:List UInt8):Int:=if Q5 l=0then Qt n.length else Q5 l
theorem aT{l:FL}{n:List UInt8}(h:ZN l)(hn:1<=n.length∧n.length<=8):qH l n=0:=by
 rw[qH,if_pos ((Xd l).2 h)];exact(Zl _).2 hn
theorem zW{l:FL}{n:List UInt8}(h:qH l n=0):ZN l∧(1<=n.length∧n.length<=8):=by
 unfold qH at h;by_cases h0:Q5 l=0;·rw[if_pos h0]at h;exact⟨(Xd l).1 h0,(Zl _).1 h⟩
 ·rw[if_neg h0]at h;exact absurd h h0
def UR(l:FL)(n k:List UInt8):Int:=if qH l n=0then Xh (XT l n) k else qH l n
def KN(l:FL)(n k:List UInt8):Bool:=if qH l n=0then Rm (XT l n) k else V
def KO(l:FL)(n k:List UInt8):List UInt8:=if qH l n=0then R9 (XT l n) k else[]
theorem Hg{l:FL}(h:ZN l)(n k:List UInt8)(hn:1<=n.length∧n.length<=8)(hk:1<=k.length∧k.length<=16):UR l n k=0∧KN l n k=(YW (XT l n) k).isSome∧KO l n k=(YW (XT l n) k).getD []:=by
 have h0:=aT h hn;have hE:=j9 (J6 h n) hk;refine⟨by rw[UR,if_pos h0,hE],by rw[KN,if_pos h0,Rm,hE];rfl,by rw[KO,if_pos h0,R9,if_pos hE]⟩
def YP(l:FL)(n f t:List UInt8):Int:=if qH l n=0then YM (XT l n) f t else qH l n
def KH(l:FL)(n f t:List UInt8):PL:=if qH l n=0then Uc (XT l n) f t else[]
structure Rq where
  kind : Int
  name : List UInt8
  key : List UInt8
  last : List UInt8
  value : List UInt8
def GA:Rq:=⟨0,[],[],[],[]⟩
def QZ(k:Int):Bool:=tI (2<=k∧k<=5)||tI (k=8)
def jP(r:Rq):Int:=if QZ r.kind=N then(if Qt r.name.length=0then(if Qn r.key.length=0then(if r.kind=3then Qn r.last.length else 0)else Qn r.key.length)else Qt r.name.length)else 0
def ER(r:Rq):Int:=if QZ r.kind=V∧0<r.name.length+r.key.length then 4 else if(r.kind≠3∧0<r.last.length)∨(r.kind≠4∧0<r.value.length)then 4 else 0
def Yy(r:Rq):Int:=if 1<=r.kind∧r.kind<=8then(if jP r=0then(if 32<r.value.length then 1 else ER r)else jP r)else 5
structure JE(r:Rq):Prop where kind:1<=r.kind∧r.kind<=8name:QZ r.kind=N->1<=r.name.length∧r.name.length<=8key:QZ r.kind=N->1<=r.key.length∧r.key.length<=16last:r.kind=3->1<=r.last.length∧r.last.length<=16value:r.value.length<=32noName:QZ r.kind=V->r.name=[]noKey:QZ r.kind=V->r.key=[]noLast:r.kind≠3->r.last=[]noValue:r.kind≠4->r.value=[]
theorem Tg(r:Rq):jP r=0↔(QZ r.kind=N->(1<=r.name.length∧r.name.length<=8)∧(1<=r.key.length∧r.key.length<=16)∧(r.kind=3->1<=r.last.length∧r.last.length<=16)):=by
 unfold jP;by_cases h:QZ r.kind=N;·rw[if_pos h];by_cases h1:Qt r.name.length=0;(·rw[if_pos h1];by_cases h2:Qn r.key.length=0;(·rw[if_pos h2];by_cases h3:r.kind=3;(·rw[if_pos h3,Zc];exact⟨fun e _=>⟨(Zl _).1 h1,(Zc _).1 h2,fun _=>e⟩,fun e=>(e h).2.2 h3⟩);·rw[if_neg h3];exact⟨fun _ _=>⟨(Zl _).1 h1,(Zc _).1 h2,fun e=>absurd e h3⟩,fun _=>rfl⟩);·rw[if_neg h2];exact⟨fun e=>absurd e h2,fun e=>(Zc _).2 (e h).2.1⟩);·rw[if_neg h1];exact⟨fun e=>absurd e h1,fun e=>(Zl _).2 (e h).1⟩
 ·rw[if_neg h];exact⟨fun _ e=>absurd e h,fun _=>rfl⟩
theorem ID{l:List UInt8}(h:¬0<l.length):l=[]:=tD (by
 omega)
theorem S6(r:Rq):ER r=0↔(QZ r.kind=V->r.name=[]∧r.key=[])∧(r.kind≠3->r.last=[])∧(r.kind≠4->r.value=[]):=by
 unfold ER;by_cases h1:QZ r.kind=V∧0<r.name.length+r.key.length;·rw[if_pos h1];refine⟨fun e=>(by cases e),fun e=>?_⟩;have:=e.1 h1.1;rw[this.1,this.2]at h1;simp at h1
 ·rw[if_neg h1];by_cases h2:(r.kind≠3∧0<r.last.length)∨(r.kind≠4∧0<r.value.length);(·rw[if_pos h2];refine⟨fun e=>(by cases e),fun e=>?_⟩;rcases h2 with h2|h2;(·rw[e.2.1 h2.1]at h2;simp at h2);·rw[e.2.2 h2.1]at h2;simp at h2);·rw[if_neg h2];refine⟨fun _=>⟨fun h=>?_,fun h=>ID fun e=>h2 (.inl ⟨h,e⟩),fun h=>ID fun e=>h2 (.inr ⟨h,e⟩)⟩,fun _=>rfl⟩;have hz:¬0<r.name.length+r.key.length:=fun e=>h1 ⟨h,e⟩;exact⟨ID (by omega),ID (by omega)⟩
theorem YS(r:Rq):Yy r=0↔JE r:=by
 unfold Yy;by_cases h0:1<=r.kind∧r.kind<=8;·rw[if_pos h0];by_cases h1:jP r=0;(·rw[if_pos h1];have hp:=(Tg r).1 h1;by_cases h2:32<r.value.length;(·rw[if_pos h2];exact⟨fun e=>(by cases e),fun e=>by have:=e.value;omega⟩);·rw[if_neg h2,S6];refine⟨fun⟨e1,e2,e3⟩=>⟨h0,fun h=>(hp h).1,fun h=>(hp h).2.1,fun h=>(hp (by rw[h];decide)).2.2 h,by omega,fun h=>(e1 h).1,fun h=>(e1 h).2,e2,e3⟩,fun e=>⟨fun h=>⟨e.noName h,e.noKey h⟩,e.noLast,e.noValue⟩⟩);·rw[if_neg h1];refine⟨fun e=>absurd e h1,fun e=>(Tg r).2 fun h=>⟨e.name h,e.key h,e.last⟩⟩
 ·rw[if_neg h0];exact⟨fun e=>(by cases e),fun e=>absurd e.kind h0⟩
def Xv(c:Bool)(p:List UInt8):List UInt8:=if c=N then XX p else[]
def Jt(c:Bool)(r:List UInt8):Option (List UInt8×List UInt8):=if c=N then ZD r else F ([],r)
theorem jM(c:Bool)(p r:List UInt8)(h:c=N->p.length<256)(h0:c=V->p=[]):Jt c (Xv c p++r)=F (p,r):=by
 cases c with|true=>exact VL p r (h rfl)|false=>rw[h0 rfl];rfl
theorem Gi{c:Bool}{r p r2:List UInt8}(h:Jt c r=F (p,r2)):r=Xv c p++r2:=by
 cases c with|true=>exact GS h|false=>(obtain⟨rfl,rfl⟩:[]=p∧r=r2:=by simpa[Jt]using h);rfl
theorem kB{c:Bool}{r p r2:List UInt8}(h:Jt c r=F (p,r2))(x:List UInt8):Jt c (r++x)=F (p,r2++x):=by
 cases c with|true=>exact Sa h x|false=>(obtain⟨rfl,rfl⟩:[]=p∧r=r2:=by simpa[Jt]using h);rfl
theorem IU{c:Bool}{r p r2:List UInt8}(h:Jt c r=F (p,r2))(hc:c=V):p=[]:=by
 subst hc;have:[]=p∧r=r2:=by simpa[Jt]using h
 exact this.1.symm
def xO(r:Rq):List UInt8:=Xv (QZ r.kind) r.name++(Xv (QZ r.kind) r.key++(Xv (tI (r.kind=3)) r.last++Xv (tI (r.kind=4)) r.value))
def VN(r:Rq):List UInt8:=tC r.kind.toNat::xO r
def VE(k:Int)(n q l r:List UInt8):Option (Rq×List UInt8):=match Jt (tI (k=4)) r with|F (v,r2)=>F (⟨k,n,q,l,v⟩,r2)|none=>H
def VG(k:Int)(n q r:List UInt8):Option (Rq×List UInt8):=match Jt (tI (k=3)) r with|F (l,r2)=>VE k n q l r2|none=>H
def VC(k:Int)(n r:List UInt8):Option (Rq×List UInt8):=match Jt (QZ k) r with|F (q,r2)=>VG k n q r2|none=>H
def Ym(k:Int)(r:List UInt8):Option (Rq×List UInt8):=match Jt (QZ k) r with|F (n,r2)=>VC k n r2|none=>H
theorem Ig{r:Rq}(h:JE r)(x:List UInt8):Ym r.kind (xO r++x)=F (r,x):=by
 have e1:=jM (QZ r.kind) r.name (Xv (QZ r.kind) r.key++(Xv (tI (r.kind=3)) r.last++(Xv (tI (r.kind=4)) r.value++x))) (fun e=>by have:=h.name e;omega) h.noName;have e2:=jM (QZ r.kind) r.key (Xv (tI (r.kind=3)) r.last++(Xv (tI (r.kind=4)) r.value++x)) (fun e=>by have:=h.key e;omega) h.noKey;have e3:=jM (tI (r.kind=3)) r.last (Xv (tI (r.kind=4)) r.value++x) (fun e=>by have:=h.last (by simpa using e);omega) (fun e=>h.noLast (by simpa using e));have e4:=jM (tI (r.kind=4)) r.value x (fun _=>by have:=h.value;omega) (fun e=>h.noValue (by simpa using e));rw[xO,tB,tB,tB,Ym,e1];show VC _ _ _=_;rw[VC,e2];show VG _ _ _ _=_;rw[VG,e3];show VE _ _ _ _ _=_;rw[VE,e4]
theorem uU{k:Int}{b x:List UInt8}{r:Rq}(h:Ym k b=F (r,x)):r.kind=k∧∃r1 r2 r3,Jt (QZ k) b=F (r.name,r1)∧Jt (QZ k) r1=F (r.key,r2)∧Jt (tI (k=3)) r2=F (r.last,r3)∧Jt (tI (k=4)) r3=F (r.value,x):=by
 rw[Ym]at h;match h1:Jt (QZ k) b with|none=>rw[h1]at h;cases h|F (n,r1)=>rw[h1]at h;replace h:VC k n r1=F (r,x):=h;rw[VC]at h;match h2:Jt (QZ k) r1 with|none=>rw[h2]at h;cases h|F (q,r2)=>rw[h2]at h;replace h:VG k n q r2=F (r,x):=h;rw[VG]at h;match h3:Jt (tI (k=3)) r2 with|none=>rw[h3]at h;cases h|F (l,r3)=>rw[h3]at h;replace h:VE k n q l r3=F (r,x):=h;rw[VE]at h;match h4:Jt (tI (k=4)) r3 with|none=>rw[h4]at h;cases h|F (v,r4)=>rw[h4]at h;(obtain⟨rfl,rfl⟩:(⟨k,n,q,l,v⟩:Rq)=r∧r4=x:=by simpa using h);exact⟨rfl,r1,r2,r3,rfl,h2,h3,h4⟩
theorem fI{k:Int}{b r1 r2 r3 x n q l v:List UInt8}(h1:Jt (QZ k) b=F (n,r1))(h2:Jt (QZ k) r1=F (q,r2))(h3:Jt (tI (k=3)) r2=F (l,r3))(h4:Jt (tI (k=4)) r3=F (v,x)):Ym k b=F (⟨k,n,q,l,v⟩,x):=by
 rw[Ym,h1];show VC _ _ _=_;rw[VC,h2];show VG _ _ _ _=_;rw[VG,h3];show VE _ _ _ _ _=_;rw[VE,h4]
theorem Rn{k:Int}{b x:List UInt8}{r:Rq}(h:Ym k b=F (r,x)):b=xO r++x∧r.kind=k:=by
 obtain⟨hk,r1,r2,r3,h1,h2,h3,h4⟩:=uU h;refine⟨?_,hk⟩;rw[xO,hk,Gi h1,Gi h2,Gi h3,Gi h4];simp[tB]
theorem Ie{k:Int}{b y:List UInt8}{r:Rq}(h:Ym k b=F (r,y))(x:List UInt8):Ym k (b++x)=F (r,y++x):=by
 obtain⟨hk,r1,r2,r3,h1,h2,h3,h4⟩:=uU h;have:=fI (kB h1 x) (kB h2 x) (kB h3 x) (kB h4 x);rw[this,<-hk]
def UJ(b:List UInt8):Int:=((b.getD 0 0).toNat:Int)
def QK(b:List UInt8):Int:=if 4000<b.length then 1 else if b.length=0then 14 else if 1<=UJ b∧UJ b<=8then(match Ym (UJ b) (b.drop 1)with|none=>14|F (r,x)=>if x.length=0then Yy r else 4)else 5
def Qw(b:List UInt8):Rq:=if QK b=0then(match Ym (UJ b) (b.drop 1)with|F (r,_)=>r|none=>GA)else GA
theorem It{r:Rq}(h:JE r)(x:List UInt8):UJ (VN r++x)=r.kind∧(VN r++x).drop 1=xO r++x:=by
 have h0:=h.kind;refine⟨?_,rfl⟩;show(((tC r.kind.toNat).toNat:Nat):Int)=r.kind;simp;omega
theorem Uj(c:Bool)(p:List UInt8):(Xv c p).length<=p.length+1:=by
 cases c with|true=>exact sA _|false=>exact Nat.zero_le _
theorem DX{r:Rq}(h:JE r):(VN r).length<=78∧1<=(VN r).length:=by
 have l1:=Uj (QZ r.kind) r.name;have l2:=Uj (QZ r.kind) r.key;have l3:=Uj (tI (r.kind=3)) r.last;have l4:=Uj (tI (r.kind=4)) r.value;have k1:r.name.length<=8:=by by_cases e:QZ r.kind=N;(·exact(h.name e).2);·rw[h.noName (by simpa using e)];simp
 have k2:r.key.length<=16:=by by_cases e:QZ r.kind=N;(·exact(h.key e).2);·rw[h.noKey (by simpa using e)];simp
 have k3:r.last.length<=16:=by by_cases e:r.kind=3;(·exact(h.last e).2);·rw[h.noLast e];simp
 have k4:=h.value;have e:(VN r).length=1+(Xv (QZ r.kind) r.name).length+(Xv (QZ r.kind) r.key).length+(Xv (tI (r.kind=3)) r.last).length+(Xv (tI (r.kind=4)) r.value).length:=by rw[VN,xO,pA,T,T,T];omega
 omega
theorem mY{r:Rq}(h:JE r)(k:Nat)(hk:k<(VN r).length):QK ((VN r).take k)=14:=by
 have hl2:=DX h;have hlen:((VN r).take k).length=k:=by rw[List.length_take];omega
 rw[QK,if_neg (by omega)];by_cases h0:k=0;·rw[if_pos (by omega)]
 ·rw[if_neg (by omega)];have hsp:(VN r).take k++(VN r).drop k=VN r:=tE _ _;(have hkd:UJ ((VN r).take k)=r.kind:=by obtain⟨e1,_⟩:=It h [];rw[tY]at e1;rw[<-e1];match k,h0 with|k+1,_=>rfl);rw[hkd,if_pos h.kind];match hD:Ym r.kind (((VN r).take k).drop 1)with|none=>rfl|F (r',y)=>have hm:=Ie hD ((VN r).drop k);(have hd:((VN r).take k).drop 1++(VN r).drop k=xO r:=by match k,h0 with|k+1,_=>show(xO r).take k++(xO r).drop k=xO r;exact tE _ _);rw[hd]at hm;have hb:=Ig h [];rw[tY,hm]at hb;(have he:y++(VN r).drop k=[]:=by have:=congrArg (fun o=>o.map Prod.snd) hb;simpa using this);have:=congrArg List.length he;rw[T,oO]at this;simp at this;omega
theorem Yx{b:List UInt8}(h:QK b=0):Yy (Qw b)=0∧VN (Qw b)=b:=by
 have h':=h;rw[QK]at h;by_cases h1:4000<b.length;·rw[if_pos h1]at h;cases h
 ·rw[if_neg h1]at h;by_cases h2:b.length=0;(·rw[if_pos h2]at h;cases h);·rw[if_neg h2]at h;by_cases h3:1<=UJ b∧UJ b<=8;(·rw[if_pos h3]at h;match hD:Ym (UJ b) (b.drop 1)with|none=>rw[hD]at h;cases h|F (r,x)=>rw[hD]at h;replace h:(if x.length=0then Yy r else 4)=0:=h;by_cases hx:x.length=0;(·rw[if_pos hx]at h;(have hr:Qw b=r:=by rw[Qw,if_pos h',hD]);rw[hr];refine⟨h,?_⟩;obtain⟨f1,f2⟩:=Rn hD;rw[tD hx,tY]at f1;rw[VN,<-f1,f2];match b,h2 with|c::b,_=>show tC ((c.toNat:Nat):Int).toNat::b=c::b;simp);·rw[if_neg hx]at h;cases h);·rw[if_neg h3]at h;cases h
theorem kA{b:List UInt8}(h:QK b≠0):Qw b=GA:=by
 rw[Qw,if_neg h]
def Uy(r:Rq):Int:=if Yy r=0then(if r.kind=2∨r.kind=3then 0 else 7)else Yy r
def ZC(r:Rq):Rd:=if Uy r=0then⟨r.name,r.key,tI (r.kind=3),r.last⟩else Zh
def Jz(r:Rq):Int:=if Yy r=0then(if r.kind=4∨r.kind=5then 0 else 7)else Yy r
def XG(r:Rq):Zi:=if Jz r=0then⟨r.name,r.key,r.value,tI (r.kind=5)⟩else Qr
theorem cV{r:Rq}(h:Uy r=0):XM (ZC r)=0:=by
 have h':=h;unfold Uy at h;by_cases h0:Yy r=0;·rw[if_pos h0]at h;have ho:=(YS r).1 h0;by_cases h1:r.kind=2∨r.kind=3;(·(have hn:QZ r.kind=N:=by rcases h1 with h1|h1<;>rw[h1]<;>decide);rw[ZC,if_pos h',Ni];refine⟨ho.name hn,ho.key hn,?_⟩;show if tI (r.kind=3)=N then _ else _;by_cases h3:r.kind=3;(·rw[if_pos (by simpa using h3)];exact ho.last h3);·rw[if_neg (by simpa using h3)];exact ho.noLast h3);·rw[if_neg h1]at h;cases h
 ·rw[if_neg h0]at h;exact absurd h h0
theorem Nr{r:Rq}(h:Jz r=0):QD (XG r)=0:=by
 have h':=h;unfold Jz at h;by_cases h0:Yy r=0;·rw[if_pos h0]at h;have ho:=(YS r).1 h0;by_cases h1:r.kind=4∨r.kind=5;(·(have hn:QZ r.kind=N:=by rcases h1 with h1|h1<;>rw[h1]<;>decide);rw[XG,if_pos h',XU];refine⟨ho.name hn,ho.key hn,?_⟩;show if tI (r.kind=5)=N then _ else _;by_cases h3:r.kind=5;(·rw[if_pos (by simpa using h3)];exact ho.noValue (by omega));·rw[if_neg (by simpa using h3)];exact ho.value);·rw[if_neg h1]at h;cases h
 ·rw[if_neg h0]at h;exact absurd h h0
theorem Co{r:Rq}(h:JE r):Uy r=(if r.kind=2∨r.kind=3then 0 else 7)∧Jz r=(if r.kind=4∨r.kind=5then 0 else 7):=by
 have:=(YS r).2 h;exact⟨by rw[Uy,if_pos this],by rw[Jz,if_pos this]⟩
def bD(l:List Ac):List UInt8:=l.flatMap fun a=>nU a++[10]
def Us:Nat->List Ac->Option (Nat×Int)|_,[]=>H|n,a::l=>if Jc a=0then Us (n+1) l else F (n,Jc a)
def GM(l:List Ac):Int:=if 100000<l.length then 1 else match Us 0 l with|none=>0|F (_,e)=>e
def F1(l:List Ac):Nat:=if 100000<l.length then 0 else match Us 0 l with|none=>0|F (i,_)=>i
def F2(l:List Ac):List UInt8:=if GM l=0then bD l else[]
theorem N8:∀(l:List Ac)(n:Nat),Us n l=H↔∀a∈l,Js a|[],_=>by simp[Us]|a::l,n=>by rw[Us];by_cases ha:Jc a=0;(·rw[if_pos ha,N8 l (n+1)];simp only[tS,forall_eq_or_imp];exact⟨fun h=>⟨(vA a).1 ha,h⟩,fun h=>h.2⟩);·rw[if_neg ha];exact⟨fun h=>(by cases h),fun h=>absurd ((vA a).2 (h a (by simp))) ha⟩
theorem WU(l:List Ac)(m:Nat)(hm:m<l.length):Us m (l.drop m)=if Jc (l.getD m Yz)=0then Us (m+1) (l.drop (m+1))else F (m,Jc (l.getD m Yz)):=by
 rw[sD hm,Us,show l[m]=l.getD m Yz by simp[hm]]
theorem nY{l:List Ac}(h:∀a∈l,Js a)(hl:l.length<=100000):GM l=0∧F1 l=0∧F2 l=bD l:=by
 have hb:=(N8 l 0).2 h;have he:GM l=0:=by rw[GM,if_neg (by omega),hb]
 exact⟨he,by rw[F1,if_neg (by omega),hb],by rw[F2,if_pos he]⟩
theorem Wv{l:List Ac}(h:100000<l.length):GM l=1∧F1 l=0∧F2 l=[]:=by
 have e:GM l=1:=by rw[GM,if_pos h]
 exact⟨e,by rw[F1,if_pos h],by rw[F2,e,if_neg (by decide)]⟩
theorem Rl{l:List Ac}(h:l.length<=100000)(hb:Us 0 l=H):GM l=0∧F1 l=0∧F2 l=bD l:=by
 have e:GM l=0:=by rw[GM,if_neg (by omega),hb]
 exact⟨e,by rw[F1,if_neg (by omega),hb],by rw[F2,if_pos e]⟩
theorem dV{l:List Ac}(h:l.length<=100000){i:Nat}{e:Int}(hb:Us 0 l=F (i,e))(he:e≠0):GM l=e∧F1 l=i∧F2 l=[]:=by
 have h1:GM l=e:=by rw[GM,if_neg (by omega),hb]
 exact⟨h1,by rw[F1,if_neg (by omega),hb],by rw[F2,h1,if_neg he]⟩
theorem iK{l:List Ac}{m:Nat}(hm:m<l.length)(hb:Us 0 l=Us m (l.drop m)):(Jc (l.getD m Yz)=0->Us 0 l=Us (m+1) (l.drop (m+1)))∧(Jc (l.getD m Yz)≠0->Us 0 l=F (m,Jc (l.getD m Yz))):=by
 rw[hb,WU l m hm];exact⟨fun h=>by rw[if_pos h],fun h=>by rw[if_neg h]⟩
def XV(w:I)(v:O)(r:Rq):Prop:=∃vn vk vl vv,v=pR #[tK rC r.kind,vn,vk,vl,vv]∧Qe w vn r.name∧Qe w vk r.key∧Qe w vl r.last∧Qe w vv r.value
theorem XV.grown{w w':I}{v:O}{r:Rq}(h:XV w v r)(hg:J w w' H):XV w' v r:=by
 obtain⟨vn,vk,vl,vv,rfl,h1,h2,h3,h4⟩:=h;exact⟨vn,vk,vl,vv,rfl,h1.grown hg,h2.grown hg,h3.grown hg,h4.grown hg⟩
theorem XV.agg{w:I}{v:O}{r:Rq}(h:XV w v r):∃n1 n2 k1 k2 l1 l2 v1 v2,v=pR #[tK rC r.kind,tH n1 r.name.length n2,tH k1 r.key.length k2,tH l1 r.last.length l2,tH v1 r.value.length v2]:=by
 obtain⟨vn,vk,vl,vv,rfl,h1,h2,h3,h4⟩:=h;obtain⟨n1,n2,rfl⟩:=h1.shape;obtain⟨k1,k2,rfl⟩:=h2.shape;obtain⟨l1,l2,rfl⟩:=h3.shape;obtain⟨v1,v2,rfl⟩:=h4.shape;exact⟨n1,n2,k1,k2,l1,l2,v1,v2,rfl⟩
theorem XV.parts{w:I}{r:Rq}{x a b c d:O}(h:XV w (pR #[x,a,b,c,d]) r):x=tK rC r.kind∧Qe w a r.name∧Qe w b r.key∧Qe w c r.last∧Qe w d r.value:=by
 obtain⟨vn,vk,vl,vv,e,h1,h2,h3,h4⟩:=h;simp only[Value.agg.injEq,Array.mk.injEq,List.cons.injEq,and_true]at e;obtain⟨rfl,rfl,rfl,rfl,rfl⟩:=e;exact⟨rfl,h1,h2,h3,h4⟩
theorem Pb(w:I):XV w (pR #[tK rC 0,tH H 0 0,tH H 0 0,tH H 0 0,tH H 0 0]) GA:=⟨_,_,_,_,rfl,Qz w,Qz w,Qz w,Qz w⟩
structure jH(r:Rq):Prop where kind:-9223372036854775808<=r.kind∧r.kind<=9223372036854775807name:r.name.length<=140737488355328key:r.key.length<=140737488355328last:r.last.length<=140737488355328value:r.value.length<=140737488355328
theorem uZ{r:Rq}(h:JE r):jH r:=by
 have h0:=h.kind;have h5:=h.value;have k1:r.name.length<=8:=by by_cases e:QZ r.kind=N;(·exact(h.name e).2);·rw[h.noName (by simpa using e)];simp
 have k2:r.key.length<=16:=by by_cases e:QZ r.kind=N;(·exact(h.key e).2);·rw[h.noKey (by simpa using e)];simp
 have k3:r.last.length<=16:=by by_cases e:r.kind=3;(·exact(h.last e).2);·rw[h.noLast e];simp
 exact⟨by omega,by omega,by omega,by omega,by omega⟩
theorem Qp{W w:I}{b:Nat}{x y z u s:O}{t:rA}(hg:J W w H)(h:W.heap[b]?=F (tJ #[x,y,z,u,s] t)):(w.cell? ⟨b,0,H⟩=F x∧w.cell? ⟨b,1,H⟩=F y∧w.cell? ⟨b,2,H⟩=F z∧w.cell? ⟨b,3,H⟩=F u∧w.cell? ⟨b,4,H⟩=F s)∧(w.frozen? ⟨b,0,H⟩=V∧w.frozen? ⟨b,1,H⟩=V∧w.frozen? ⟨b,2,H⟩=V∧w.frozen? ⟨b,3,H⟩=V∧w.frozen? ⟨b,4,H⟩=V)∧w.heap[b]?=F (tJ #[x,y,z,u,s] t):=by
 have hb:w.heap[b]?=F (tJ #[x,y,z,u,s] t):=by rw[hg.block b (tL.1 h).1 (by simp)];exact h
 refine⟨⟨?_,?_,?_,?_,?_⟩,⟨?_,?_,?_,?_,?_⟩,hb⟩;all_goals simp[tZ,sZ,hb]
theorem Yv{w:I}{b i:Nat}{cs:Array O}{t:rA}{fz:Nat×Nat}{u:O}(h:w.heap[b]?=F (tJ cs t fz)):(tG w ⟨b,i,H⟩ u).heap[b]?=F (tJ (cs.setIfInBounds i u) t fz):=by
 simp only[tG,tQ,if_true,h,sR];rfl
theorem zV{w:I}{b c i:Nat}{o:Obj}{u:O}(h:w.heap[b]?=F o)(hne:b≠c):(tG w ⟨c,i,H⟩ u).heap[b]?=F o:=by
 simp only[tG,tQ];rw[if_neg (fun e=>hne e.symm)];exact h
abbrev aG(w:I)(b:Nat)(x y z u s:O):I:=((((tG w ⟨b,0,H⟩ x).setCell ⟨b,1,H⟩ y).setCell ⟨b,2,H⟩ z).setCell ⟨b,3,H⟩ u).setCell ⟨b,4,H⟩ s
theorem Pc{w:I}{b:Nat}{x y z u s:O}{t:rA}(h:w.heap[b]?=F (tJ #[x,y,z,u,s] t))(x' y' z' u' s':O):(aG w b x' y' z' u' s').heap[b]?=F (tJ #[x',y',z',u',s'] t):=Yv (Yv (Yv (Yv (Yv h))))
theorem xI{w W:I}{b:Nat}(hg:J w W H)(hb:w.heap.size<=b)(x y z u s:O):J w (aG W b x y z u s) H:=Qc (Qc (Qc (Qc (Qc hg _ hb _ _) _ hb _ _) _ hb _ _) _ hb _ _) _ hb _ _
theorem WN(W:I)(b:Nat)(x y z u s:O):J W (aG W b x y z u s) (F b):=Qh (Qh (Qh (Qh (Qh (Qb W (F b)) _ _) _ _) _ _) _ _) _ _
abbrev Gy(w:I)(b:Nat)(x y z u:O):I:=(((tG w ⟨b,0,H⟩ x).setCell ⟨b,1,H⟩ y).setCell ⟨b,2,H⟩ z).setCell ⟨b,3,H⟩ u
theorem Yi{w:I}{b:Nat}{x y z u:O}{t:rA}(h:w.heap[b]?=F (tJ #[x,y,z,u] t))(x' y' z' u':O):(Gy w b x' y' z' u').heap[b]?=F (tJ #[x',y',z',u'] t):=Yv (Yv (Yv (Yv h)))
theorem Xe{w W:I}{b:Nat}(hg:J w W H)(hb:w.heap.size<=b)(x y z u:O):J w (Gy W b x y z u) H:=Qc (Qc (Qc (Qc hg _ hb _ _) _ hb _ _) _ hb _ _) _ hb _ _
theorem Yt(W:I)(b:Nat)(x y z u:O):J W (Gy W b x y z u) (F b):=Qh (Qh (Qh (Qh (Qb W (F b)) _ _) _ _) _ _) _ _
theorem Za.later{base:Nat}{w w':I}{v:O}{bs:List UInt8}(h:Za base w v bs){b:Nat}(hg:J w w' (F b))(hb:b<base):Za base w' v bs:=by
 refine h.grown hg (.inr fun e=>?_);have:=(h.lt b e).1;omega
def N0(i:Nat):Nat:=[0,0,3,7,11,3,0,0,3].getD i 0
def Vi(w:I):Prop:=∀i,i<9->w.cell? ⟨0,i,H⟩=F (tK rK ((N0 i:Nat):Int))
theorem Vi.grown{w w':I}(h:Vi w)(hg:J w w' H):Vi w':=fun i hi=>hg.cell (h i hi) (by
 simp)
def QT(k:Int):Nat->Bool|0=>QZ k|1=>QZ k|2=>tI (k=3)|_=>tI (k=4)
theorem iO(k j:Nat)(hk:k<9)(hj:j<4):(bits BinOp.and rK ((N0 k:Nat):Int) ((2^j:Nat):Int)!=0)=QT (k:Int) j:=(by
 decide+kernel:∀(k:Fin 9)(j:Fin 4),(bits BinOp.and rK ((N0 k.1:Nat):Int) ((2^j.1:Nat):Int)!=0)=QT (k.1:Int) j.1) ⟨k,hk⟩ ⟨j,hj⟩
def Ko(r:Rq):List UInt8:=if Yy r=0then VN r else[]
def bV:Prop:=∀(w:I)(v:O)(r:Rq),Vi w->XV w v r->jH r->r8 tA 15 #[v] w fun e w'=>∃x,e=sS (pZ #[x,tK rC (Yy r)])∧Qj 0 w' x (Ko r)∧J w w' H
def YE(w:I)(v:O)(r:Rd):Prop:=∃vn vk vl,v=pR #[vn,vk,pS r.wide,vl]∧Qe w vn r.name∧Qe w vk r.key∧Qe w vl r.last
theorem YE.grown{w w':I}{v:O}{r:Rd}(h:YE w v r)(hg:J w w' H):YE w' v r:=by
 obtain⟨vn,vk,vl,rfl,h1,h2,h3⟩:=h;exact⟨vn,vk,vl,rfl,h1.grown hg,h2.grown hg,h3.grown hg⟩
theorem YE.agg{w:I}{v:O}{r:Rd}(h:YE w v r):∃na nc ka kc la lc,v=pR #[tH na r.name.length nc,tH ka r.key.length kc,pS r.wide,tH la r.last.length lc]:=by
 obtain⟨vn,vk,vl,rfl,h1,h2,h3⟩:=h;obtain⟨na,nc,rfl⟩:=h1.shape;obtain⟨ka,kc,rfl⟩:=h2.shape;obtain⟨la,lc,rfl⟩:=h3.shape;exact⟨na,nc,ka,kc,la,lc,rfl⟩
theorem YE.parts{w:I}{r:Rd}{x y g z:O}(h:YE w (pR #[x,y,g,z]) r):Qe w x r.name∧Qe w y r.key∧g=pS r.wide∧Qe w z r.last:=by
 obtain⟨vn,vk,vl,e,h1,h2,h3⟩:=h;simp only[Value.agg.injEq,Array.mk.injEq,List.cons.injEq,and_true]at e;obtain⟨rfl,rfl,rfl,rfl⟩:=e;exact⟨h1,h2,rfl,h3⟩
structure Fu(r:Rd):Prop where name:r.name.length<=140737488355328key:r.key.length<=140737488355328last:r.last.length<=140737488355328
structure Vw where
  bit : Int
  right : Bool
  other : List UInt8
structure GI where
  empty : Bool
  steps : List Vw
  pair : Pr
def QW:Vw:=⟨0,V,[]⟩
def Vq:GI:=⟨V,[],([],[])⟩
instance:Inhabited Vw:=⟨QW⟩
instance:Inhabited GI:=⟨Vq⟩
def Jj(k q:List UInt8)(l:List Vw)(i:Nat):Prop:=(0<=(l.getD i QW).bit∧(l.getD i QW).bit<=144)∧(l.getD i QW).other.length=32∧(0<i->(l.getD (i-1) QW).bit<(l.getD i QW).bit)∧ZH k (l.getD i QW).bit.toNat=(l.getD i QW).right∧ZH q (l.getD i QW).bit.toNat=(l.getD i QW).right
instance(k q:List UInt8)(l:List Vw)(i:Nat):Decidable (Jj k q l i):=by
 unfold Jj;infer_instance
def mK(k:List UInt8)(p:GI):Prop:=(p.empty=N∧p.steps=[]∧p.pair.1=[]∧p.pair.2=[])∨(p.empty=V∧QN p.pair=0∧∀i,i<p.steps.length->Jj k p.pair.1 p.steps i)
open Classical in noncomputable def Yh(k:List UInt8)(p:GI):Int:=if Qn k.length=0then(if mK k p then 0 else 4)else Qn k.length
theorem RJ{k:List UInt8}{p:GI}(h:Qn k.length≠0):Yh k p=Qn k.length:=by
 rw[Yh,if_neg h]
theorem kZ{k:List UInt8}{p:GI}(h:Qn k.length=0)(hm:mK k p):Yh k p=0:=by
 rw[Yh,if_pos h,if_pos hm]
theorem zS{k:List UInt8}{p:GI}(h:Qn k.length=0)(hm:¬mK k p):Yh k p=4:=by
 rw[Yh,if_pos h,if_neg hm]
theorem IA{k:List UInt8}{p:GI}(h:Yh k p=0):Qn k.length=0∧mK k p:=by
 by_cases hk:Qn k.length=0;·by_cases hm:mK k p;(·exact⟨hk,hm⟩);·rw[zS hk hm]at h;cases h
 ·rw[RJ hk]at h;exact absurd h hk
def UL(l:PL):Nat->Int|0=>999|1=>999|m+2=>if J8 (l.getD 0 ([],[])).1 (l.getD (m+1) ([],[])).1<UL l (m+1)then J8 (l.getD 0 ([],[])).1 (l.getD (m+1) ([],[])).1 else UL l (m+1)
def Qv(l:PL):Int:=UL l l.length
def Je(l:PL)(b:Nat)(x:Bool):PL:=l.filter fun q=>ZH q.1 b==x
theorem C4(l:PL)(b:Nat)(x:Bool):(Je l b x).length<=l.length:=rB _ _
theorem Xt{l:PL}(h:Zd l)(b:Nat)(x:Bool):Zd (Je l b x):=⟨rH (C4 l b x) h.room,fun p hp=>h.pairs p (pB.1 hp).1,sV _ h.rises⟩
theorem C8{l:PL}(h:Zd l)(i j:Nat)(hij:i<j)(hj:j<l.length):0<=J8 (l.getD i ([],[])).1 (l.getD j ([],[])).1:=by
 have hk:=Ue l h.rises i j hij hj;have h1:=(h.pairs l[i] (sH (by omega))).1;have h2:=(h.pairs l[j] (sH hj)).1;rw[show l[i]=l.getD i ([],[])by simp[show i<l.length by omega]]at h1;rw[show l[j]=l.getD j ([],[])by simp[hj]]at h2;have:=Sl (l.getD i ([],[])).1 (l.getD j ([],[])).1 h1.2 h2.2;have hne:=OO hk;by_cases hp:J8 (l.getD i ([],[])).1 (l.getD j ([],[])).1<0;·exact absurd (this.1 hp) hne
 ·omega
theorem FN{l:PL}(h:Zd l):∀m,m<=l.length->0<=UL l m∧(2<=m->UL l m<=144)∧UL l m<=999|0,_=>⟨by simp[UL],by omega,by simp[UL]⟩|1,_=>⟨by simp[UL],by omega,by simp[UL]⟩|m+2,hm=>by have ih:=FN h (m+1) (by omega);have hp:=C8 h 0 (m+1) (by omega) (by omega);have hr:=FQ (l.getD 0 ([],[])).1 (l.getD (m+1) ([],[])).1;rw[UL];by_cases hlt:J8 (l.getD 0 ([],[])).1 (l.getD (m+1) ([],[])).1<UL l (m+1);(·rw[if_pos hlt];omega);·rw[if_neg hlt];omega
theorem Xk{l:PL}(h:Zd l)(h2:2<=l.length):0<=Qv l∧Qv l<=144:=by
 have:=FN h l.length (sA _);exact⟨this.1,this.2.1 h2⟩
theorem EO{l:PL}(_h:Zd l):∀m,2<=m->m<=l.length->∃j,0<j∧j<m∧UL l m=J8 (l.getD 0 ([],[])).1 (l.getD j ([],[])).1|0,h,_=>by omega|1,h,_=>by omega|m+2,_,hm=>by rw[UL];by_cases hlt:J8 (l.getD 0 ([],[])).1 (l.getD (m+1) ([],[])).1<UL l (m+1);(·rw[if_pos hlt];exact⟨m+1,by omega,by omega,rfl⟩);·rw[if_neg hlt];by_cases h0:m=0;(·subst h0;have hr:=FQ (l.getD 0 ([],[])).1 (l.getD (0+1) ([],[])).1;simp only[UL]at hlt;omega);·obtain⟨j,h1,h2,h3⟩:=EO _h (m+1) (by omega) (by omega);exact⟨j,h1,by omega,h3⟩
theorem uE{l:PL}(h:Zd l)(h2:2<=l.length):∀x,(Je l (Qv l).toNat x).length<l.length:=by
 obtain⟨j,hj1,hj2,hj3⟩:=EO h l.length h2 (sA _);have hr:=Xk h h2;have hd:ZH (l.getD 0 ([],[])).1 (Qv l).toNat≠ZH (l.getD j ([],[])).1 (Qv l).toNat:=by rcases Ke (l.getD 0 ([],[])).1 (l.getD j ([],[])).1with⟨e,_⟩|⟨m,e,_,_,hd⟩;(·rw[<-hj3]at e;unfold Qv at hr;omega);·(have:(Qv l).toNat=m:=by unfold Qv;omega);rw[this];exact hd
 intro x;by_cases hlt:(Je l (Qv l).toNat x).length<l.length;·exact hlt
 ·(have he:(Je l (Qv l).toNat x).length=l.length:=by have:=C4 l (Qv l).toNat x;omega);have hall:=List.length_filter_eq_length_iff.1 he;have h0:=hall l[0] (sH (by omega));have hj:=hall l[j] (sH hj2);rw[show l[0]=l.getD 0 ([],[])by simp[show 0<l.length by omega]]at h0;rw[show l[j]=l.getD j ([],[])by simp[hj2]]at hj;simp only[beq_iff_eq]at h0 hj;exact absurd (h0.trans hj.symm) hd
def J7(l:PL)(b:Nat):Nat:=(l.takeWhile fun q=>!ZH q.1 b).length
theorem yK(l:PL):∀m j,0<j->j<m->m<=l.length->UL l m<=J8 (l.getD 0 ([],[])).1 (l.getD j ([],[])).1|0,j,_,h,_=>by omega|1,j,h0,h,_=>by omega|m+2,j,h0,h,hm=>by rw[UL];by_cases hlt:J8 (l.getD 0 ([],[])).1 (l.getD (m+1) ([],[])).1<UL l (m+1);(·rw[if_pos hlt];by_cases e:j=m+1;(·subst e;exact oX _);·have:=yK l (m+1) j h0 (by omega) (by omega);omega);·rw[if_neg hlt];by_cases e:j=m+1;(·subst e;omega);·exact yK l (m+1) j h0 (by omega) (by omega)
theorem qR{l:PL}(h:Zd l)(h2:2<=l.length)(j:Nat)(hj:j<l.length)(b:Nat)(hb:b<(Qv l).toNat):ZH (l.getD 0 ([],[])).1 b=ZH (l.getD j ([],[])).1 b:=by
 by_cases h0:j=0;·subst h0;rfl
 ·have hm:=yK l l.length j (by omega) hj (sA _);have hr:=Xk h h2;rcases Ke (l.getD 0 ([],[])).1 (l.getD j ([],[])).1with⟨e,hs⟩|⟨m,e,hm1,hs,_⟩;(·exact hs b (by omega));·exact hs b (by unfold Qv at hb;omega)
theorem Mq{l:PL}(h:Zd l)(h2:2<=l.length)(i j:Nat)(hij:i<j)(hj:j<l.length)(hi:ZH (l.getD i ([],[])).1 (Qv l).toNat=N):ZH (l.getD j ([],[])).1 (Qv l).toNat=N:=by
 have hk:=Ue l h.rises i j hij hj;have hp:=C8 h i j hij hj;rcases Ke (l.getD i ([],[])).1 (l.getD j ([],[])).1with⟨e,_⟩|⟨m,e,hm,hs,hd⟩;·omega
 ·(have hge:(Qv l).toNat<=m:=by by_cases hlt:m<(Qv l).toNat;(·exact absurd ((qR h h2 i (by omega) m hlt).symm.trans (qR h h2 j hj m hlt)) hd);·omega);by_cases he:(Qv l).toNat=m;(·rw[he];have:=T6 _ _ m hs hd;rw[this];exact hk);·rw[<-hs _ (by omega)];exact hi
theorem Fv{l:PL}(h:Zd l)(h2:2<=l.length):ZH (l.getD 0 ([],[])).1 (Qv l).toNat=V∧ZH (l.getD (l.length-1) ([],[])).1 (Qv l).toNat=N:=by
 obtain⟨j,hj1,hj2,hj3⟩:=EO h l.length h2 (sA _);have hr:=Xk h h2;have hk:=Ue l h.rises 0 j hj1 hj2;rcases Ke (l.getD 0 ([],[])).1 (l.getD j ([],[])).1with⟨e,_⟩|⟨m,e,hm,hs,hd⟩;·rw[<-hj3]at e;unfold Qv at hr;omega
 ·(have em:(Qv l).toNat=m:=by unfold Qv;omega);have ho:=T6 _ _ m hs hd;(have hjt:ZH (l.getD j ([],[])).1 m=N:=by rw[ho];exact hk);refine⟨?_,?_⟩;(·rw[em];cases hx:ZH (l.getD 0 ([],[])).1 m with|false=>rfl|true=>exact absurd (hx.trans hjt.symm) hd);·by_cases hl:j=l.length-1;(·rw[<-hl,em];exact hjt);·exact Mq h h2 j (l.length-1) (by omega) (by omega) (by rw[em];exact hjt)
theorem Ml{l:PL}(h:Zd l)(h2:2<=l.length):J8 (l.getD 0 ([],[])).1 (l.getD (l.length-1) ([],[])).1=Qv l:=by
 have hr:=Xk h h2;obtain⟨e1,e2⟩:=Fv h h2;rw[Cr _ _ (Qv l).toNat (by omega) (fun b hb=>qR h h2 _ (by omega) b hb) (by rw[e1,e2];simp)];omega
theorem Ha:∀(l:PL)(b j:Nat),j<J7 l b->ZH (l.getD j ([],[])).1 b=V|[],b,j,h=>by simp[J7]at h|p::r,b,j,h=>by cases hk:ZH p.1 b with|true=>simp[J7,hk]at h|false=>cases j with|zero=>simpa using hk|succ j=>have:=Ha r b j (by unfold J7 at h⊢;rw[tM (p:=fun q:Pr=>!ZH q.1 b) (by simp[hk])]at h;simpa using h);simpa using this
theorem Ah:∀(l:PL)(b:Nat),J7 l b<l.length->ZH (l.getD (J7 l b) ([],[])).1 b=N|[],b,h=>by simp at h|p::r,b,h=>by cases hk:ZH p.1 b with|true=>simp[J7,hk]|false=>(have e:J7 (p::r) b=J7 r b+1:=by unfold J7;rw[tM (p:=fun q:Pr=>!ZH q.1 b) (by simp[hk])];simp);rw[e]at h⊢;have:=Ah r b (by simpa using h);simpa using this
theorem qK{l:PL}(h:Zd l)(h2:2<=l.length)(j:Nat)(hj:j<l.length):ZH (l.getD j ([],[])).1 (Qv l).toNat=tI (J7 l (Qv l).toNat<=j):=by
 by_cases hlt:j<J7 l (Qv l).toNat;·rw[decide_eq_false (by omega)];exact Ha l _ j hlt
 ·rw[decide_eq_true (by omega)];have h0:=Ah l (Qv l).toNat (by omega);by_cases e:j=J7 l (Qv l).toNat;(·rw[e];exact h0);·exact Mq h h2 _ j (by omega) hj h0
theorem UU{l:PL}(h:Zd l)(h2:2<=l.length):0<J7 l (Qv l).toNat∧J7 l (Qv l).toNat<l.length:=by
 obtain⟨e1,e2⟩:=Fv h h2;rw[qK h h2 0 (by omega)]at e1;rw[qK h h2 _ (by omega)]at e2;simp at e1 e2;omega
theorem uO{l:PL}(h:Zd l)(h2:2<=l.length):Je l (Qv l).toNat V=l.take (J7 l (Qv l).toNat):=by
 have hs:=UU h h2;have hb:=fun j hj=>qK h h2 j hj;generalize(Qv l).toNat=b at*;generalize J7 l b=n at*;have e:l=l.take n++l.drop n:=(tE n l).symm;rw[Je];conv=>lhs;rw[e]
 rw[sK,tN.2,sL.2,tY];·intro q hq;obtain⟨j,hj,rfl⟩:=L.1 hq;(have hjn:n+j<l.length:=by simp at hj;omega);rw[sP,show l[n+j]=l.getD (n+j) ([],[])by simp[hjn],hb _ hjn];simp
 ·intro q hq;obtain⟨j,hj,rfl⟩:=L.1 hq;(have hjn:j<n:=by simp at hj;omega);rw[sE,show l[j]'(by omega)=l.getD j ([],[])by simp[show j<l.length by omega],hb _ (by omega)];simp[hjn]
theorem Fp{l:PL}(h:Zd l)(h2:2<=l.length):Je l (Qv l).toNat N=l.drop (J7 l (Qv l).toNat):=by
 have hs:=UU h h2;have hb:=fun j hj=>qK h h2 j hj;generalize(Qv l).toNat=b at*;generalize J7 l b=n at*;have e:l=l.take n++l.drop n:=(tE n l).symm;rw[Je];conv=>lhs;rw[e]
 rw[sK,sL.2,tN.2,pE];·intro q hq;obtain⟨j,hj,rfl⟩:=L.1 hq;(have hjn:n+j<l.length:=by simp at hj;omega);rw[sP,show l[n+j]=l.getD (n+j) ([],[])by simp[hjn],hb _ hjn];simp
 ·intro q hq;obtain⟨j,hj,rfl⟩:=L.1 hq;(have hjn:j<n:=by simp at hj;omega);rw[sE,show l[j]'(by omega)=l.getD j ([],[])by simp[show j<l.length by omega],hb _ (by omega)];simp[hjn]
def U(x:BitVec 64):Int:=(x.toNat:Int)
theorem jU(x:BitVec 64):sB 64 (U x)=x:=by
 unfold U;rw[pP];simp
theorem uF(x:BitVec 64):rI.wrap (x.toNat:Int)=U x:=by
 rw[rY];unfold U;have:=x.isLt;omega
theorem Zu(x y:BitVec 64):bits .xor .u64 (U x) (U y)=U (x^^^y):=by
 show rI.wrap ((sB 64 (U x)^^^sB 64 (U y)).toNat:Int)=_;rw[jU,jU,uF]
theorem NQ(x y:BitVec 64):bits .or .u64 (U x) (U y)=U (x|||y):=by
 show rI.wrap ((sB 64 (U x)|||sB 64 (U y)).toNat:Int)=_;rw[jU,jU,uF]
theorem KY(x y:BitVec 64):bits .andNot .u64 (U x) (U y)=U (x&&&~~~y):=by
 show rI.wrap ((sB 64 (U x)&&&~~~sB 64 (U y)).toNat:Int)=_;rw[jU,jU,uF]
theorem Kf(x:BitVec 64)(k:Nat):rI.wrap (U x*2^k)=U (x<<<k):=by
 rw[rY];unfold U;rw[BitVec.toNat_shiftLeft,Nat.shiftLeft_eq];have e:((x.toNat:Int)*2^k)=((x.toNat*2^k:Nat):Int):=by simp
 rw[e];omega
theorem Mp(x:BitVec 64)(k:Nat):U x/2^k=U (x>>>k):=by
 unfold U;rw[BitVec.toNat_ushiftRight,Nat.shiftRight_eq_div_pow];simp
theorem mT(k:Int)(h0:0<=k)(h:k<64):bits .and .u64 k 63=k:=by
 obtain⟨n,rfl⟩:=Int.eq_ofNat_of_zero_le h0;show rI.wrap ((sB 64 (n:Int)&&&sB 64 63).toNat:Int)=_;rw[pP,BitVec.toNat_and];have h1:(BitVec.ofNat 64 n).toNat=n:=by rw[BitVec.toNat_ofNat];omega
 have h2:(sB 64 63).toNat=2^6-1:=by decide
 rw[h1,h2,Nat.and_two_pow_sub_one_eq_mod,rY];omega
def yF(x:BitVec 64)(k:Nat):BitVec 64:=(x<<<k)|||(x>>>(64-k))
section
theorem Hz(x:BitVec 64)(k:Int)(h0:0<=k)(h:k<64)(w:I):r8 tA 138 #[tK .u64 (U x),tK rC k] w fun e w'=>e=sS (tK .u64 (U (yF x k.toNat)))∧w'=w:=by
 have h63:=mT k h0 h;go_enter Tryz.func138,Tryz.ntmps138;go_wp2;go_ret;refine⟨?_,rfl⟩;rw[show(64-k).toNat=64-k.toNat by omega,Kf,Mp,NQ];rfl
def Ky(st:List (BitVec 64)):Array O:=(st.map fun x=>tK .u64 (U x)).toArray
structure Yc (n : Nat) (w : I) (b : Nat) (st : List (BitVec 64)) : Prop where
  len : st.length = n
  blk : ∃ t, w.heap[b]? = F (tJ (Ky st) t (0, 0))
section
variable{n:Nat}{w:I}{b:Nat}{st:List (BitVec 64)}
theorem Yc.cell(h:Yc n w b st)(i:Nat)(hi:i<n):w.cell? ⟨b,i,H⟩=F (tK .u64 (U (st.getD i 0))):=by
 obtain⟨t,hb⟩:=h.blk;simp[tZ,hb,Ky,sW,rP (show i<st.length by have:=h.len;omega)]
theorem Yc.frozen(h:Yc n w b st)(i:Nat):w.frozen? ⟨b,i,H⟩=V:=by
 obtain⟨t,hb⟩:=h.blk;simp[sZ,hb]
theorem Yc.lt(h:Yc n w b st):b<w.heap.size:=by
 obtain⟨t,hb⟩:=h.blk;exact(tL.1 hb).1
theorem D8(st:List (BitVec 64))(i:Nat)(x:BitVec 64):(Ky st).setIfInBounds i (tK .u64 (U x))=Ky (st.set i x):=by
 simp[Ky]
theorem Yc.set(h:Yc n w b st)(i:Nat)(x:BitVec 64):Yc n (tG w ⟨b,i,H⟩ (tK .u64 (U x))) b (st.set i x):=by
 obtain⟨t,hb⟩:=h.blk;refine⟨by simp[h.len],t,?_⟩;simp only[tG,tQ,if_true,hb,sR];simp[D8]
theorem Yc.setOther(h:Yc n w b st)(c:Nat)(hc:b≠c)(i:Nat)(v:O):Yc n (tG w ⟨c,i,H⟩ v) b st:=by
 obtain⟨t,hb⟩:=h.blk;exact⟨h.len,t,by rw[Below.heap_setCell _ _ _ _ hc];exact hb⟩
theorem Yc.drewN(h:Yc n w b st)(k:Nat):Yc n (w.drewN k) b st:=⟨h.len,h.blk⟩
theorem Yc.drew(h:Yc n w b st):Yc n w.drew b st:=⟨h.len,h.blk⟩
theorem Yc.alloc(h:Yc n w b st)(o:Obj):Yc n (w.alloc o) b st:=by
 obtain⟨t,hb⟩:=h.blk;exact⟨h.len,t,by rw[Below.heap_alloc _ _ _ h.lt];exact hb⟩
theorem Yc.grown(h:Yc n w b st){w':I}{r:Option Nat}(hg:J w w' r)(hr:F b≠r):Yc n w' b st:=by
 obtain⟨t,hb⟩:=h.blk;exact⟨h.len,t,by rw[hg.block b h.lt hr];exact hb⟩
theorem Yc.new(w:I)(t:rA)(st:List (BitVec 64))(hl:st.length=n):Yc n (w.alloc (tJ (Ky st) t)) w.heap.size st:=⟨hl,t,rO w _⟩
end
abbrev St:=Yc 25
def Hb(st:List (BitVec 64))(n:Nat):List (BitVec 64):=let a:=st.getD n 0;let b:=st.getD (n+1) 0;let c:=st.getD (n+2) 0;let d:=st.getD (n+3) 0;let e:=st.getD (n+4) 0;((((st.set n (a^^^(c&&&~~~b))).set (n+1) (b^^^(d&&&~~~c))).set (n+2) (c^^^(e&&&~~~d))).set (n+3) (d^^^(a&&&~~~e))).set (n+4) (e^^^(b&&&~~~a))
def Gc(st:List (BitVec 64)):Nat->List (BitVec 64)|0=>st|k+1=>Hb (Gc st k) (5*k)
theorem OU(w:I)(b:Nat)(st:List (BitVec 64))(h:St w b st):r8 tA 116 #[.pointer (F ⟨b,0,H⟩)] w fun e w'=>e=sS (pZ #[])∧St w' b (Gc st 5)∧J w w' (F b):=by
 go_enter Tryz.func116,Tryz.ntmps116;go_wp2;go_loopw[2](fun y wr=>∃k:Nat,k<=5∧y=tK rC ((5*k:Nat):Int)∧St wr b (Gc st k)∧J w wr (F b))(fun y _=>25-(intOf y).toNat);case atStart=>exact⟨0,by omega,rfl,h,Qb _ _⟩
 case round=>obtain⟨k,hk,rfl,hst,hg⟩:=hrel;by_cases hlt:k<5;(·generalize hn:5*k=n;have HN:Hid (5*k=n):=hn;clear hn;(have h25:n+4<25:=by have:=HN.out;omega);have hc:=hst.cell;have hf:=hst.frozen;have c0:=hc n (by omega);have c1:=hc (n+1) (by omega);have c2:=hc (n+2) (by omega);have c3:=hc (n+3) (by omega);have c4:=hc (n+4) (by omega);clear hc;generalize hS:Gc st k=S at*;have HS:Hid (Gc st k=S):=hS;clear hS;generalize hA:S.getD n 0=A at*;generalize hB:S.getD (n+1) 0=B at*;generalize hC:S.getD (n+2) 0=C at*;generalize hD:S.getD (n+3) 0=D at*;generalize hE:S.getD (n+4) 0=E at*;have HA:Hid (S.getD n 0=A):=hA;have HB:Hid (S.getD (n+1) 0=B):=hB;have HC:Hid (S.getD (n+2) 0=C):=hC;have HD:Hid (S.getD (n+3) 0=D):=hD;have HE:Hid (S.getD (n+4) 0=E):=hE;clear hA hB hC hD hE;(have i1:(n:Int)+4<25:=by omega);go_wp2;go_quiet(fail);go_wp2;go_roundw;(case rel=>refine⟨k+1,by omega,by have:=HN.out;congr 1;omega,?_,?_⟩;(·rw[KY,KY,KY,KY,KY,Zu,Zu,Zu,Zu,Zu];(have e:Gc st (k+1)=((((S.set n (A^^^(C&&&~~~B))).set (n+1) (B^^^(D&&&~~~C))).set (n+2) (C^^^(E&&&~~~D))).set (n+3) (D^^^(A&&&~~~E))).set (n+4) (E^^^(B&&&~~~A)):=by simp only[Gc,Hb,HS.out,HN.out,HA.out,HB.out,HC.out,HD.out,HE.out]);rw[e];exact(((((hst.drewN nq).set n _).set (n+1) _).set (n+2) _).set (n+3) _).set (n+4) _);·exact Qh (Qh (Qh (Qh (Qh (Qs hg nq) n _) (n+1) _) (n+2) _) (n+3) _) (n+4) _);case measure=>simp[intOf];omega);·(obtain rfl:k=5:=by omega);go_wp2;go_end0;exact⟨rfl,hst,hg⟩
end
def LP(st:List (BitVec 64))(x:Nat):BitVec 64:=st.getD x 0^^^st.getD (x+5) 0^^^st.getD (x+10) 0^^^st.getD (x+15) 0^^^st.getD (x+20) 0
def Vy(st:List (BitVec 64)):Nat->List (BitVec 64)|0=>[0,0,0,0,0]|k+1=>(Vy st k).set k (LP st k)
def dZ(c:List (BitVec 64)):List (BitVec 64):=[c.getD 4 0^^^yF (c.getD 1 0) 1,c.getD 0 0^^^yF (c.getD 2 0) 1,c.getD 1 0^^^yF (c.getD 3 0) 1,c.getD 2 0^^^yF (c.getD 4 0) 1,c.getD 3 0^^^yF (c.getD 0 0) 1]
def TH(d st:List (BitVec 64))(k:Nat):List (BitVec 64):=let y:=d.getD k 0;((((st.set k (st.getD k 0^^^y)).set (k+5) (st.getD (k+5) 0^^^y)).set (k+10) (st.getD (k+10) 0^^^y)).set (k+15) (st.getD (k+15) 0^^^y)).set (k+20) (st.getD (k+20) 0^^^y)
def kP(d st:List (BitVec 64)):Nat->List (BitVec 64)|0=>st|k+1=>TH d (kP d st k) k
theorem dS(w:I)(b:Nat)(st:List (BitVec 64))(h:St w b st):r8 tA 114 #[.pointer (F ⟨b,0,H⟩)] w fun e w'=>e=sS (pZ #[])∧St w' b (kP (dZ (Vy st 5)) st 5)∧J w w' (F b):=by
 have hbn:b≠w.heap.size:=Nat.ne_of_lt h.lt;have h0:=h;go_enter Tryz.func114,Tryz.ntmps114;go_wp2_with fail;go_loopw[6](fun i wr=>∃k:Nat,k<=5∧i=tK rC (k:Int)∧St wr b st∧Yc 5 wr w.heap.size (Vy st k)∧J w wr (F b))(fun i _=>5-(intOf i).toNat);case atStart=>exact⟨0,by omega,rfl,h.alloc _,Yc.new w 232 [0,0,0,0,0] rfl,Qu (Qb _ _) _⟩
 case round=>obtain⟨k,hk,rfl,hst,hcl,hg⟩:=hrel;by_cases hlt:k<5;(·have c0:=hst.cell k (by omega);have c1:=hst.cell (k+5) (by omega);have c2:=hst.cell (k+10) (by omega);have c3:=hst.cell (k+15) (by omega);have c4:=hst.cell (k+20) (by omega);have d0:=hcl.cell k hlt;have hf:=hcl.frozen k;generalize hx0:st.getD k 0=x0 at*;generalize hx1:st.getD (k+5) 0=x1 at*;generalize hx2:st.getD (k+10) 0=x2 at*;generalize hx3:st.getD (k+15) 0=x3 at*;generalize hx4:st.getD (k+20) 0=x4 at*;(have HX:Hid (LP st k=x0^^^x1^^^x2^^^x3^^^x4):=by show LP st k=_;simp only[LP,hx0,hx1,hx2,hx3,hx4]);generalize hcc:Vy st k=cc at*;have HC:Hid (Vy st k=cc):=hcc;generalize hy:cc.getD k 0=y at*;clear hx0 hx1 hx2 hx3 hx4 hcc hy h;(have i1:(k:Int)+20<25:=by omega);(have i2:(k:Int)<5:=by omega);go_wp2_with fail;go_region;(all_goals go_wp2);go_roundw;(case rel=>rw[Zu,Zu,Zu,Zu];have hlt':=hst.lt;have hlt2:=hcl.lt;refine⟨k+1,by omega,by go_num,(hst.setOther _ hbn _ _).drew,?_,Ql (Qc hg _ (sA _) _ _)⟩;simp only[Vy,HC.out,HX.out];exact(hcl.set k _).drew);case measure=>simp[intOf];omega);·(obtain rfl:k=5:=by omega);have e0:=hcl.cell 0 (by omega);have e1:=hcl.cell 1 (by omega);have e2:=hcl.cell 2 (by omega);have e3:=hcl.cell 3 (by omega);have e4:=hcl.cell 4 (by omega);generalize hcc:Vy st 5=cc at*;have HC:Hid (Vy st 5=cc):=hcc;generalize hx0:cc.getD 0 0=x0 at*;generalize hx1:cc.getD 1 0=x1 at*;generalize hx2:cc.getD 2 0=x2 at*;generalize hx3:cc.getD 3 0=x3 at*;generalize hx4:cc.getD 4 0=x4 at*;(have HD:Hid (dZ cc=[x4^^^yF x1 1,x0^^^yF x2 1,x1^^^yF x3 1,x2^^^yF x4 1,x3^^^yF x0 1]):=by show dZ cc=_;simp only[dZ,hx0,hx1,hx2,hx3,hx4]);clear hcc hx0 hx1 hx2 hx3 hx4 h;have hwr:=hcl.lt;go_upto_region 6with fail;go_cut[4](fun s4 wx=>s4=.pointer (F ⟨wr.heap.size,0,H⟩)∧St wx b st∧Yc 5 wx wr.heap.size (dZ cc)∧J w wx (F b));(case first=>go_region_held3(fun w'=>w'.cell? ⟨w.heap.size,0,H⟩=F (tK .u64 (U x0))∧w'.cell? ⟨w.heap.size,1,H⟩=F (tK .u64 (U x1))∧w'.cell? ⟨w.heap.size,2,H⟩=F (tK .u64 (U x2))∧w'.cell? ⟨w.heap.size,3,H⟩=F (tK .u64 (U x3))∧w'.cell? ⟨w.heap.size,4,H⟩=F (tK .u64 (U x4)))(go_keep)(first|(go_at_call 138;refine(Hz _ (1:Int) (by omega) (by omega) _).mono ?_;rintro e w'⟨rfl,rfl⟩));all_goals(go_wp2_with fail;go_meet;case rel=>(rw[HD.out,Zu,Zu,Zu,Zu,Zu];exact⟨rfl,(hst.alloc _).drew,(Yc.new wr 232 [x4^^^yF x1 1,x0^^^yF x2 1,x1^^^yF x3 1,x2^^^yF x4 1,x3^^^yF x0 1] rfl).drew,Ql (Qu hg _)⟩)));case rest=>obtain⟨rfl,hst2,hd2,hg2⟩:=hcut;clear e0 e1 e2 e3 e4 hst hcl hg;(have hbw:b≠wr.heap.size:=by have:=h0.lt;omega);generalize hD:dZ cc=dd at*;have HDD:Hid (dZ cc=dd):=hD;clear hD HD;generalize hdn:wr.heap.size=db at*;clear hdn hwr;go_wp2_with fail;go_loopw[76](fun i wr=>∃k:Nat,k<=5∧i=tK rC (k:Int)∧St wr b (kP dd st k)∧Yc 5 wr db dd∧J w wr (F b))(fun i _=>5-(intOf i).toNat);(case atStart=>exact⟨0,by omega,rfl,hst2,hd2,hg2⟩);case round=>clear hst2 hd2 hg2;obtain⟨k,hk,rfl,hst,hd,hg⟩:=hrel;by_cases hlt:k<5;(·have c0:=hst.cell k (by omega);have c1:=hst.cell (k+5) (by omega);have c2:=hst.cell (k+10) (by omega);have c3:=hst.cell (k+15) (by omega);have c4:=hst.cell (k+20) (by omega);have d0:=hd.cell k hlt;have hf:=hst.frozen;generalize hS:kP dd st k=S at*;have HS:Hid (kP dd st k=S):=hS;generalize hy:dd.getD k 0=y at*;generalize hx0:S.getD k 0=x0 at*;generalize hx1:S.getD (k+5) 0=x1 at*;generalize hx2:S.getD (k+10) 0=x2 at*;generalize hx3:S.getD (k+15) 0=x3 at*;generalize hx4:S.getD (k+20) 0=x4 at*;(have HX:Hid (TH dd S k=((((S.set k (x0^^^y)).set (k+5) (x1^^^y)).set (k+10) (x2^^^y)).set (k+15) (x3^^^y)).set (k+20) (x4^^^y)):=by show TH dd S k=_;simp only[TH,hy,hx0,hx1,hx2,hx3,hx4]);clear hS hy hx0 hx1 hx2 hx3 hx4;(have i1:(k:Int)+20<25:=by omega);(have i2:(k:Int)<5:=by omega);go_wp2_with fail;go_region;go_wp2_with fail;go_region;go_wp2_with fail;go_region;go_wp2_with fail;go_region;go_wp2_with fail;go_region;go_wp2_with fail;go_roundw;(case rel=>rw[Zu,Zu,Zu,Zu,Zu];refine⟨k+1,by omega,by go_num,?_,?_,?_⟩;(·simp only[kP,HS.out,HX.out];exact(((((hst.set k _).set (k+5) _).set (k+10) _).set (k+15) _).set (k+20) _).drew.drew.drew.drew.drew);(·exact(((((hd.setOther b hbw.symm k _).setOther b hbw.symm (k+5) _).setOther b hbw.symm (k+10) _).setOther b hbw.symm (k+15) _).setOther b hbw.symm (k+20) _).drew.drew.drew.drew.drew);·exact Ql (Ql (Ql (Ql (Ql (Qh (Qh (Qh (Qh (Qh hg k _) (k+5) _) (k+10) _) (k+15) _) (k+20) _))))));case measure=>simp[intOf];omega);·(obtain rfl:k=5:=by omega);go_wp2;go_end0;refine⟨rfl,?_,hg⟩;rw[HC.out,HDD.out];exact hst
def JV:List Nat:=[10,7,11,17,18,3,5,16,8,21,24,4,15,23,19,13,12,2,20,14,22,9,6,1]
def Ks:List Nat:=[1,3,6,10,15,21,28,36,45,55,2,14,27,41,56,8,25,43,62,18,39,61,20,44]
def JW:List (BitVec 64):=[0x0000000000000001,0x0000000000008082,0x800000000000808a,0x8000000080008000,0x000000000000808b,0x0000000080000001,0x8000000080008081,0x8000000000008009,0x000000000000008a,0x0000000000000088,0x0000000080008009,0x000000008000000a,0x000000008000808b,0x800000000000008b,0x8000000000008089,0x8000000000008003,0x8000000000008002,0x8000000000000080,0x000000000000800a,0x800000008000000a,0x8000000080008081,0x8000000000008080,0x0000000080000001,0x8000000080008008]
theorem gI(k:Nat)(h:k<24):JV.getD k 0<25:=(by
 decide:∀k:Fin 24,JV.getD k.1 0<25) ⟨k,h⟩
theorem aJ(k:Nat)(h:k<24):Ks.getD k 0<64:=(by
 decide:∀k:Fin 24,Ks.getD k.1 0<64) ⟨k,h⟩
structure X6(w:I):Prop where nums:∀i,i<24->w.cell? ⟨2,i,H⟩=F (tK .u64 (U (JW.getD i 0)))walk:∀i,i<24->w.cell? ⟨3,i,H⟩=F (tK rC ((JV.getD i 0:Nat):Int))turns:∀i,i<24->w.cell? ⟨4,i,H⟩=F (tK rC ((Ks.getD i 0:Nat):Int))
theorem X6.grown{w w':I}{b:Nat}(h:X6 w)(hg:J w w' (F b))(hb:5<=b):X6 w':=⟨fun i hi=>hg.cell (h.nums i hi) (by
 simp;omega),fun i hi=>hg.cell (h.walk i hi) (by
 simp;omega),fun i hi=>hg.cell (h.turns i hi) (by
 simp;omega)⟩
def Kk(st:List (BitVec 64)):Nat->List (BitVec 64)×BitVec 64|0=>(st,st.getD 1 0)|k+1=>((Kk st k).1.set (JV.getD k 0) (yF (Kk st k).2 (Ks.getD k 0)),(Kk st k).1.getD (JV.getD k 0) 0)
theorem cQ(w:I)(b:Nat)(hb:5<=b)(st:List (BitVec 64))(h:St w b st)(ht:X6 w):r8 tA 115 #[.pointer (F ⟨b,0,H⟩)] w fun e w'=>e=sS (pZ #[])∧St w' b (Kk st 24).1∧J w w' (F b):=by
 have c1:=h.cell 1 (by omega);go_enter Tryz.func115,Tryz.ntmps115;go_wp2;go_loopw[2,10](fun m i wr=>∃k:Nat,k<=24∧i=tK rC (k:Int)∧m=tK .u64 (U (Kk st k).2)∧St wr b (Kk st k).1∧J w wr (F b))(fun _ i _=>24-(intOf i).toNat);case atStart=>exact⟨0,by omega,rfl,by simp[Kk],h,Qb _ _⟩
 case round=>obtain⟨k,hk,rfl,rfl,hst,hg⟩:=hrel;clear c1;by_cases hlt:k<24;(·have hT:=ht.grown hg hb;have hw:=gI k hlt;have hr:=aJ k hlt;have t1:=hT.walk k hlt;have t2:=hT.turns k hlt;have c:=hst.cell (JV.getD k 0) hw;have hf:=hst.frozen;generalize hS:(Kk st k).1=S at*;have HS:Hid ((Kk st k).1=S):=hS;generalize hM:(Kk st k).2=M at*;have HM:Hid ((Kk st k).2=M):=hM;generalize hW:JV.getD k 0=W at*;have HW:Hid (JV.getD k 0=W):=hW;generalize hR:Ks.getD k 0=R at*;have HR:Hid (Ks.getD k 0=R):=hR;clear hS hM hW hR;generalize hX:S.getD W 0=X at*;have HX:Hid (S.getD W 0=X):=hX;clear hX hT ht h;(have i1:(W:Int)<25:=by omega);go_wp2_with fail;go_region_with(go_at_call 138;refine(Hz M (R:Int) (by omega) (by omega) _).mono ?_;rintro e w'⟨rfl,rfl⟩);(all_goals go_wp2);go_roundw;(case rel=>refine⟨k+1,by omega,by go_num,?_,?_,Ql (Qh hg _ _)⟩;(·simp only[Kk,HS.out,HW.out,HX.out]);·simp only[Kk,HS.out,HM.out,HW.out,HR.out];exact(hst.set W _).drew);case measure=>simp[intOf];omega);·(obtain rfl:k=24:=by omega);go_wp2;go_end0;exact⟨rfl,hst,hg⟩
def AO(st:List (BitVec 64))(n:BitVec 64):List (BitVec 64):=let r:=Gc (Kk (kP (dZ (Vy st 5)) st 5) 24).1 5;r.set 0 (r.getD 0 0^^^n)
theorem OL(w:I)(b:Nat)(hb:5<=b)(st:List (BitVec 64))(n:BitVec 64)(h:St w b st)(ht:X6 w):r8 tA 95 #[.pointer (F ⟨b,0,H⟩),tK .u64 (U n)] w fun e w'=>e=sS (pZ #[])∧St w' b (AO st n)∧J w w' (F b):=by
 go_enter Tryz.func95,Tryz.ntmps95;go_wp2_with fail;refine(dS _ b st h).mono ?_;rintro e w1⟨rfl,h1,g1⟩;go_wp2_with fail;refine(cQ _ b hb _ h1 (ht.grown g1 hb)).mono ?_;rintro e w2⟨rfl,h2,g2⟩;go_wp2_with fail;refine(OU _ b _ h2).mono ?_;rintro e w3⟨rfl,h3,g3⟩;have g:=Qa g1 (Qa g2 g3);clear g1 g2 g3 h1 h2 h ht;have HR:Hid (AO st n=(Gc (Kk (kP (dZ (Vy st 5)) st 5) 24).1 5).set 0 ((Gc (Kk (kP (dZ (Vy st 5)) st 5) 24).1 5).getD 0 0^^^n)):=rfl;generalize Gc (Kk (kP (dZ (Vy st 5)) st 5) 24).1 5=S at*;have c0:=h3.cell 0 (by omega);have hf:=h3.frozen 0;generalize hx:S.getD 0 0=x at*;clear hx;go_wp2_with fail;go_region;go_wp2_with fail;go_end0;refine⟨rfl,?_,Ql (Qh g 0 _)⟩;rw[HR.out,Zu];exact(h3.set 0 _).drew
def uC{α:Type}(p:α->Bool):List α->Option Nat|[]=>H|a::l=>if p a=N then F 0 else(uC p l).map (·+1)
def ZX{α:Type}(p:α->Bool)(l:List α):Int:=match uC p l with|F i=>(i:Int)|none=>-1
theorem T5{α:Type}(p:α->Bool)(d:α):∀(l:List α)(m:Nat),m<l.length->(l.take m).any p=V->p (l.getD m d)=N->uC p l=F m|[],_,h,_,_=>by simp at h|a::l,0,_,_,h=>by have h':p a=N:=h;rw[uC,if_pos h']|a::l,m+1,h0,h1,h2=>by rw[sI,rW,rU]at h1;rw[uC,if_neg (by rw[h1.1];decide),T5 p d l m (by simpa using h0) h1.2 (by simpa using h2)];rfl
theorem FX{α:Type}(p:α->Bool):∀(l:List α),l.any p=V->uC p l=H|[],_=>rfl|a::l,h=>by rw[rW,rU]at h;rw[uC,if_neg (by rw[h.1];decide),FX p l h.2];rfl
theorem zT{α:Type}(p:α->Bool)(d:α)(l:List α)(m:Nat)(h:m<l.length)(h1:(l.take m).any p=V)(h2:p (l.getD m d)=N):ZX p l=(m:Int):=by
 rw[ZX,T5 p d l m h h1 h2]
theorem Ui{α:Type}(p:α->Bool)(l:List α)(h:l.any p=V):ZX p l=-1:=by
 rw[ZX,FX p l h]
theorem Vp{α:Type}(p:α->Bool)(d:α):∀(l:List α),l.any p=N->∃m,m<l.length∧(l.take m).any p=V∧p (l.getD m d)=N∧ZX p l=(m:Int)|[],h=>by simp at h|a::l,h=>by by_cases ha:p a=N;(·exact⟨0,by simp,by simp,ha,zT p d (a::l) 0 (by simp) (by simp) ha⟩);·(have hf:p a=V:=by simpa using ha);rw[rW,hf,Bool.false_or]at h;obtain⟨m,h1,h2,h3,_⟩:=Vp p d l h;(have e1:m+1<(a::l).length:=by simp;omega);(have e2:((a::l).take (m+1)).any p=V:=by rw[sI,rW,hf,h2];rfl);(have e3:p ((a::l).getD (m+1) d)=N:=by simpa using h3);exact⟨m+1,e1,e2,e3,zT p d _ _ e1 e2 e3⟩
theorem uQ{α:Type}(p:α->Bool)(l:List α):(ZX p l==-1)=!(l.any p):=by
 cases h:l.any p with|false=>rw[Ui p l h];rfl|true=>cases l with|nil=>simp at h|cons a l=>obtain⟨m,_,_,_,e⟩:=Vp p a (a::l) h;rw[e];(have:((m:Int)==-1)=V:=by simp);rw[this];rfl
theorem Rw{α:Type}(p:α->Bool)(l:List α):tI (0<=ZX p l)=l.any p:=by
 cases h:l.any p with|false=>rw[Ui p l h];rfl|true=>cases l with|nil=>simp at h|cons a l=>obtain⟨m,_,_,_,e⟩:=Vp p a (a::l) h;rw[e];simp
theorem Jm(w:I)(v1 v2:O)(b1 b2:List UInt8)(h1:Qe w v1 b1)(h2:Qe w v2 b2):r8 tA 39 #[v1,v2] w fun e w'=>e=sS (pS (tI (b1=b2)))∧w'=w:=by
 have c1:=K8 w v1 b1 h1;have c2:=K8 w v2 b2 h2;go_enter Tryz.func39,Tryz.ntmps39;go_wp2;go_ret;refine⟨?_,rfl⟩;have e:((uI b1).toList==(uI b2).toList)=tI (b1=b2):=by rw[FJ,FJ];by_cases h:b1=b2<;>simp[h]
 rw[<-e];rfl
theorem PC(p:Zi):Q4 [] [p]=QD p:=by
 have h0:Q5 []=0:=(Xd []).2 UV;rw[Q4,if_pos h0,if_neg (by simp),Xj];by_cases h:QD p=0;·have h2:=T9 UV h Iq (by omega);have h3:(ZA [] p).length<=1:=D9 [] p;rw[if_neg (by omega)]at h2;rw[if_pos h,if_pos h2,Xj,h]
 ·rw[if_neg h]
def TP:Prop:=∀(w:I)(a:Option pH)(n cap:Nat),r8 tA 41 #[tH a n cap] w fun e w'=>e=sS (tK rC (Qn n))∧J w w' H
theorem YD:TP:=by
 intro w a n cap;by_cases h1:1<=n;·by_cases h2:n<=16;(·rw[Qn,if_pos ⟨h1,h2⟩];(have t1:¬(n:Int)<1:=by omega);(have t2:¬(n:Int)>16:=by omega);go_enter pT,pI;go_wp2;go_ret;exact⟨rfl,Qb _ _⟩);·rw[Qn,if_neg (by omega)];(have t1:¬(n:Int)<1:=by omega);(have t2:(n:Int)>16:=by omega);go_enter pT,pI;go_wp2;go_ret;exact⟨rfl,Qb _ _⟩
 ·rw[Qn,if_neg (by omega)];(have t1:(n:Int)<1:=by omega);go_enter pT,pI;go_wp2;go_ret;exact⟨rfl,Qb _ _⟩
def Zz(l:PL)(k:List UInt8):Nat:=(l.takeWhile fun p=>YX p.1 k).length
def qM(l:PL)(k:List UInt8):Bool:=tI (Zz l k<l.length∧(l.getD (Zz l k) ([],[])).1=k)
def X0(l:PL)(k:List UInt8):Nat:=if qM l k=N then Zz l k+1 else Zz l k
theorem yW(l:PL)(k:List UInt8):Zz l k<=l.length:=by
 induction l with|nil=>simp[Zz]|cons p r ih=>unfold Zz at ih⊢;rw[pX];cases h:YX p.1 k with|true=>simpa using ih|false=>simp
theorem bH:∀(l:PL)(k:List UInt8)(i:Nat),i<=l.length->(∀j,j<i->YX (l.getD j ([],[])).1 k=N)->(i<l.length->YX (l.getD i ([],[])).1 k=V)->Zz l k=i|[],k,i,h,_,_=>by(obtain rfl:i=0:=by simpa using h);rfl|p::r,k,0,_,_,h2=>by have:=h2 (by simp);simp only[tW]at this;simp[Zz,this]|p::r,k,i+1,h,h1,h2=>by have h0:=h1 0 (by omega);simp only[tW]at h0;have:=bH r k i (by simpa using h) (fun j hj=>by simpa using h1 (j+1) (by omega)) (fun hi=>by simpa using h2 (by simpa using hi));unfold Zz at this⊢;rw[tM (p:=fun p:Pr=>YX p.1 k) h0];simpa using this
theorem MG:∀(l:PL)(k:List UInt8)(j:Nat),j<Zz l k->YX (l.getD j ([],[])).1 k=N|[],k,j,h=>by simp[Zz]at h|p::r,k,j,h=>by cases hk:YX p.1 k with|false=>simp[Zz,hk]at h|true=>cases j with|zero=>simpa using hk|succ j=>unfold Zz at h;rw[tM (p:=fun p:Pr=>YX p.1 k) hk]at h;have:=MG r k j (by unfold Zz;simpa using h);simpa using this
theorem M8:∀(l:PL)(k:List UInt8),Zz l k<l.length->YX (l.getD (Zz l k) ([],[])).1 k=V|[],k,h=>by simp at h|p::r,k,h=>by cases hk:YX p.1 k with|false=>simp[Zz,hk]|true=>(have e:Zz (p::r) k=Zz r k+1:=by unfold Zz;rw[tM (p:=fun p:Pr=>YX p.1 k) hk];simp);rw[e]at h⊢;have:=M8 r k (by simpa using h);simpa using this
theorem vE(l:PL)(k:List UInt8)(hr:UI l)(j:Nat)(hj:j<l.length):YX (l.getD j ([],[])).1 k=tI (j<Zz l k):=by
 by_cases h:j<Zz l k;·rw[decide_eq_true h];exact MG l k j h
 ·rw[decide_eq_false h];have h0:=M8 l k (by omega);by_cases e:j=Zz l k;(·rw[e];exact h0);·cases hk:YX (l.getD j ([],[])).1 k with|false=>rfl|true=>have:=Kz _ _ _ (Ue l hr (Zz l k) j (by omega) hj) hk;rw[this]at h0;cases h0
theorem Pt{l:PL}{k:List UInt8}(h:qM l k=N):Zz l k<l.length∧(l.getD (Zz l k) ([],[])).1=k:=by
 simpa only[qM,decide_eq_true_eq]using h
theorem jN(l:PL)(k:List UInt8):Zz l k<=X0 l k∧X0 l k<=l.length∧X0 l k<=Zz l k+1:=by
 have:=yW l k;unfold X0;by_cases h:qM l k=N;·rw[if_pos h];have:=(Pt h).1;omega
 ·rw[if_neg h];omega
theorem TU(l:PL)(k:List UInt8)(hr:UI l)(j:Nat)(hj:j<l.length)(he:(l.getD j ([],[])).1=k):qM l k=N∧j=Zz l k:=by
 have hp:Zz l k=j:=by refine bH l k j (by omega) (fun i hi=>?_) (fun _=>?_);(·rw[<-he];exact Ue l hr i j hi hj);·rw[he];exact Yg k
 refine⟨?_,hp.symm⟩;rw[qM,hp];exact decide_eq_true ⟨hj,he⟩
theorem eX(l:PL)(k:List UInt8)(hr:UI l):YW l k=if qM l k=N then F (l.getD (Zz l k) ([],[])).2 else H:=by
 by_cases h:qM l k=N;·rw[if_pos h];obtain⟨h1,h2⟩:=Pt h;refine Sp l k _ h1 (fun j hj e=>?_) h2;have:=MG l k j hj;rw[e,Yg]at this;cases this
 ·rw[if_neg h];exact Ry l k fun j hj e=>h (TU l k hr j hj e).1
theorem CJ(l:PL)(p:Pr):Kx l p=l.take (Zz l p.1)++([p]++l.drop (X0 l p.1)):=by
 rw[Hv l p (Zz l p.1) (yW l p.1) (fun j hj=>MG l p.1 j hj) (M8 l p.1)];by_cases h:Zz l p.1<l.length∧(l.getD (Zz l p.1) ([],[])).1=p.1;·rw[if_pos h,X0,if_pos (by rw[qM];exact decide_eq_true h),r7,if_pos h.1];rfl
 ·rw[if_neg h,X0,if_neg (by rw[qM];simpa using h)]
theorem O9(l:PL)(p:Pr):(Kx l p).length=Zz l p.1+1+(l.length-X0 l p.1):=by
 rw[CJ];have h1:=yW l p.1;simp;omega
theorem OP(l:PL)(p:Pr)(hl:l.length<=60):(60<(Kx l p).length)↔(Zz l p.1=X0 l p.1∧l.length=60):=by
 rw[O9];have:=jN l p.1;omega
theorem Bd(l:PL)(f:Pr->Bool)(n:Nat)(hn:n<=l.length)(h1:∀j,j<n->f (l.getD j ([],[]))=V)(h2:∀j,n<=j->j<l.length->f (l.getD j ([],[]))=N):l.filter f=l.drop n:=by
 have e:l=l.take n++l.drop n:=(tE n l).symm;have ha:(l.take n).filter f=[]:=by rw[sL];intro q hq;obtain⟨j,hj,rfl⟩:=L.1 hq;(have hjn:j<n:=by simp at hj;omega);have:=h1 j hjn;rw[sE];rw[show l[j]'(by omega)=l.getD j ([],[])by simp[show j<l.length by omega],this];simp
 have hb:(l.drop n).filter f=l.drop n:=by rw[tN];intro q hq;obtain⟨j,hj,rfl⟩:=L.1 hq;(have hjn:n+j<l.length:=by simp at hj;omega);rw[sP,show l[n+j]=l.getD (n+j) ([],[])by simp[hjn]];exact h2 _ (by omega) hjn
 conv=>lhs;rw[e]
 rw[sK,ha,hb,pE]
theorem Bn(l:PL)(f:Pr->Bool)(n:Nat)(hn:n<=l.length)(h1:∀j,j<n->f (l.getD j ([],[]))=N)(h2:∀j,n<=j->j<l.length->f (l.getD j ([],[]))=V):l.filter f=l.take n:=by
 have e:l=l.take n++l.drop n:=(tE n l).symm;have hb:(l.drop n).filter f=[]:=by rw[sL];intro q hq;obtain⟨j,hj,rfl⟩:=L.1 hq;(have hjn:n+j<l.length:=by simp at hj;omega);rw[sP,show l[n+j]=l.getD (n+j) ([],[])by simp[hjn],h2 _ (by omega) hjn];simp
 have ha:(l.take n).filter f=l.take n:=by rw[tN];intro q hq;obtain⟨j,hj,rfl⟩:=L.1 hq;(have hjn:j<n:=by simp at hj;omega);rw[sE,show l[j]'(by omega)=l.getD j ([],[])by simp[show j<l.length by omega]];exact h1 j hjn
 conv=>lhs;rw[e]
 rw[sK,ha,hb,tY]
theorem bL(l:PL)(k:List UInt8)(hr:UI l):uD l k=l.take (Zz l k)++l.drop (X0 l k):=by
 by_cases h:qM l k=N;·obtain⟨h1,h2⟩:=Pt h;(have e:l=l.take (Zz l k)++(l.getD (Zz l k) ([],[])::l.drop (Zz l k+1)):=by(conv=>lhs;rw[<-tE (Zz l k) l,sD h1]);simp[h1]);have hne:∀j,j<l.length->j≠Zz l k->(l.getD j ([],[])).1≠k:=fun j hj hn e=>hn (TU l k hr j hj e).2;(have ha:(l.take (Zz l k)).filter (fun q=>!(q.1==k))=l.take (Zz l k):=by rw[tN];intro q hq;obtain⟨j,hj,rfl⟩:=L.1 hq;(have hjn:j<Zz l k:=by simp at hj;omega);rw[sE,show l[j]'(by omega)=l.getD j ([],[])by simp[show j<l.length by omega]];simpa using hne j (by omega) (by omega));(have hb:(l.drop (Zz l k+1)).filter (fun q=>!(q.1==k))=l.drop (Zz l k+1):=by rw[tN];intro q hq;obtain⟨j,hj,rfl⟩:=L.1 hq;(have hjn:Zz l k+1+j<l.length:=by simp at hj;omega);rw[sP,show l[Zz l k+1+j]=l.getD (Zz l k+1+j) ([],[])by simp[hjn]];simpa using hne _ hjn (by omega));rw[X0,if_pos h,uD];(conv=>lhs;rw[e]);rw[sK,pJ (by simpa using h2),ha,hb]
 ·rw[X0,if_neg h,tE,uD,tN];intro q hq;obtain⟨j,hj,rfl⟩:=L.1 hq;have:=fun e=>h (TU l k hr j hj e).1;rw[show l.getD j ([],[])=l[j]by simp[hj]]at this;simpa using this
theorem F4(l:PL)(k:List UInt8)(hr:UI l)(j:Nat)(hj:j<l.length):YX k (l.getD j ([],[])).1=tI (X0 l k<=j):=by
 have hp:=vE l k hr j hj;have hn:=jN l k;by_cases h1:j<Zz l k;·rw[decide_eq_true h1]at hp;rw[WC _ _ hp,decide_eq_false (by omega)]
 ·rw[decide_eq_false h1]at hp;by_cases e:(l.getD j ([],[])).1=k;(·obtain⟨h2,h3⟩:=TU l k hr j hj e;rw[e,Yg,X0,if_pos h2,decide_eq_false (by omega)]);·rw[UX _ _ hp e];by_cases h:qM l k=N;(·rw[X0,if_pos h,decide_eq_true (by by_cases hjp:j=Zz l k;(·exact absurd (by rw[hjp];exact(Pt h).2) e);·omega)]);·rw[X0,if_neg h,decide_eq_true (by omega)]
theorem AQ(l:PL)(f t:List UInt8)(hr:UI l):Vx l f t=(l.take (max (Zz l f) (X0 l t))).drop (Zz l f):=by
 have h1:=yW l f;have h2:=jN l t;have e:Vx l f t=(l.filter fun q=>!YX t q.1).filter fun q=>!YX q.1 f:=by rw[Vx,List.filter_filter]
 rw[e,Bn l _ (X0 l t) h2.2.1 (fun j hj=>by rw[F4 l t hr j (by omega),decide_eq_false (by omega)];rfl) (fun j hj hjl=>by rw[F4 l t hr j hjl,decide_eq_true hj];rfl)];have hd:∀(n:Nat),n<=l.length->(l.take n).filter (fun q=>!YX q.1 f)=(l.take n).drop (Zz l f):=by intro n hn;by_cases hc:Zz l f<=n;(·refine Bd _ _ _ (by simp;omega) (fun j hj=>?_) (fun j hj hjl=>?_);(·(have:(l.take n).getD j ([],[])=l.getD j ([],[]):=by simp[show j<n by omega]);rw[this,vE l f hr j (by omega),decide_eq_true hj];rfl);·(have hjn:j<n:=by simp at hjl;omega);(have:(l.take n).getD j ([],[])=l.getD j ([],[]):=by simp[hjn]);rw[this,vE l f hr j (by omega),decide_eq_false (by omega)];rfl);·rw[tV (by simp;omega),sL];intro q hq;obtain⟨j,hj,rfl⟩:=L.1 hq;(have hjn:j<n:=by simp at hj;omega);rw[sE,show l[j]'(by omega)=l.getD j ([],[])by simp[show j<l.length by omega],vE l f hr j (by omega),decide_eq_true (by omega)];simp
 rw[hd _ h2.2.1];by_cases hc:Zz l f<=X0 l t;·rw[Nat.max_eq_right hc]
 ·rw[Nat.max_eq_left (by omega),tV (by simp;omega),tV (by simp;omega)]
theorem Mt:∀(t:FL)(p:Tn)(k:Nat),k<=t.length->(∀j,j<k->YX (t.getD j ([],[])).1 p.1=N)->(k<t.length->YX (t.getD k ([],[])).1 p.1=V)->JF t p=if k<t.length∧(t.getD k ([],[])).1=p.1then t.set k p else t.take k++([p]++t.drop k)|[],p,k,hk,_,_=>by(obtain rfl:k=0:=by simpa using hk);simp[JF]|q::r,p,0,_,_,h2=>by have h:=h2 (by simp);simp only[tW]at h;rw[JF,if_neg (by rw[h];simp)];by_cases e:q.1=p.1;(·rw[if_pos e,if_pos ⟨by simp,by simpa using e⟩];simp);·rw[if_neg e,if_neg (fun h=>e (by simpa using h.2))];simp|q::r,p,k+1,hk,h1,h2=>by have h:=h1 0 (by omega);simp only[tW]at h;rw[JF,if_pos h,Mt r p k (by simpa using hk) (fun j hj=>by simpa using h1 (j+1) (by omega)) (fun hk=>by simpa using h2 (by simpa using hk))];by_cases e:k<r.length∧(r.getD k ([],[])).1=p.1;(·rw[if_pos e,if_pos ⟨by simpa using e.1,by simpa using e.2⟩];simp);·rw[if_neg e,if_neg (fun h=>e ⟨by simpa using h.1,by simpa using h.2⟩)];simp
def QC(l:FL)(k:List UInt8):Nat:=(l.takeWhile fun p=>YX p.1 k).length
def Kr(l:FL)(k:List UInt8):Bool:=tI (QC l k<l.length∧(l.getD (QC l k) ([],[])).1=k)
def QQ(l:FL)(k:List UInt8):Nat:=if Kr l k=N then QC l k+1 else QC l k
theorem vZ(l:FL)(k:List UInt8):QC l k<=l.length:=by
 induction l with|nil=>simp[QC]|cons p r ih=>unfold QC at ih⊢;rw[pX];cases h:YX p.1 k with|true=>simpa using ih|false=>simp
theorem D6:∀(l:FL)(k:List UInt8)(i:Nat),i<=l.length->(∀j,j<i->YX (l.getD j ([],[])).1 k=N)->(i<l.length->YX (l.getD i ([],[])).1 k=V)->QC l k=i|[],k,i,h,_,_=>by(obtain rfl:i=0:=by simpa using h);rfl|p::r,k,0,_,_,h2=>by have:=h2 (by simp);simp only[tW]at this;simp[QC,this]|p::r,k,i+1,h,h1,h2=>by have h0:=h1 0 (by omega);simp only[tW]at h0;have:=D6 r k i (by simpa using h) (fun j hj=>by simpa using h1 (j+1) (by omega)) (fun hi=>by simpa using h2 (by simpa using hi));unfold QC at this⊢;rw[tM (p:=fun p:Tn=>YX p.1 k) h0];simpa using this
theorem vV:∀(l:FL)(k:List UInt8)(j:Nat),j<QC l k->YX (l.getD j ([],[])).1 k=N|[],k,j,h=>by simp[QC]at h|p::r,k,j,h=>by cases hk:YX p.1 k with|false=>simp[QC,hk]at h|true=>cases j with|zero=>simpa using hk|succ j=>unfold QC at h;rw[tM (p:=fun p:Tn=>YX p.1 k) hk]at h;have:=vV r k j (by unfold QC;simpa using h);simpa using this
theorem Fm:∀(l:FL)(k:List UInt8),QC l k<l.length->YX (l.getD (QC l k) ([],[])).1 k=V|[],k,h=>by simp at h|p::r,k,h=>by cases hk:YX p.1 k with|false=>simp[QC,hk]|true=>(have e:QC (p::r) k=QC r k+1:=by unfold QC;rw[tM (p:=fun p:Tn=>YX p.1 k) hk];simp);rw[e]at h⊢;have:=Fm r k (by simpa using h);simpa using this
theorem Il(l:FL)(k:List UInt8)(hr:YN l)(j:Nat)(hj:j<l.length):YX (l.getD j ([],[])).1 k=tI (j<QC l k):=by
 by_cases h:j<QC l k;·rw[decide_eq_true h];exact vV l k j h
 ·rw[decide_eq_false h];have h0:=Fm l k (by omega);by_cases e:j=QC l k;(·rw[e];exact h0);·cases hk:YX (l.getD j ([],[])).1 k with|false=>rfl|true=>have:=Kz _ _ _ (zZ l hr (QC l k) j (by omega) hj) hk;rw[this]at h0;cases h0
theorem jS{l:FL}{k:List UInt8}(h:Kr l k=N):QC l k<l.length∧(l.getD (QC l k) ([],[])).1=k:=by
 simpa only[Kr,decide_eq_true_eq]using h
theorem Fe(l:FL)(k:List UInt8):QC l k<=QQ l k∧QQ l k<=l.length∧QQ l k<=QC l k+1:=by
 have:=vZ l k;unfold QQ;by_cases h:Kr l k=N;·rw[if_pos h];have:=(jS h).1;omega
 ·rw[if_neg h];omega
theorem Fx(l:FL)(k:List UInt8)(hr:YN l)(j:Nat)(hj:j<l.length)(he:(l.getD j ([],[])).1=k):Kr l k=N∧j=QC l k:=by
 have hp:QC l k=j:=by refine D6 l k j (by omega) (fun i hi=>?_) (fun _=>?_);(·rw[<-he];exact zZ l hr i j hi hj);·rw[he];exact Yg k
 refine⟨?_,hp.symm⟩;rw[Kr,hp];exact decide_eq_true ⟨hj,he⟩
theorem Im(l:FL)(k:List UInt8)(hr:YN l):G8 l k=if Kr l k=N then F (l.getD (QC l k) ([],[])).2 else H:=by
 by_cases h:Kr l k=N;·rw[if_pos h];obtain⟨h1,h2⟩:=jS h;refine Bz l k _ h1 (fun j hj e=>?_) h2;have:=vV l k j hj;rw[e,Yg]at this;cases this
 ·rw[if_neg h];exact Ea l k fun j hj e=>h (Fx l k hr j hj e).1
theorem Ex(l:FL)(p:Tn):JF l p=l.take (QC l p.1)++([p]++l.drop (QQ l p.1)):=by
 rw[Mt l p (QC l p.1) (vZ l p.1) (fun j hj=>vV l p.1 j hj) (Fm l p.1)];by_cases h:QC l p.1<l.length∧(l.getD (QC l p.1) ([],[])).1=p.1;·rw[if_pos h,QQ,if_pos (by rw[Kr];exact decide_eq_true h),r7,if_pos h.1];rfl
 ·rw[if_neg h,QQ,if_neg (by rw[Kr];simpa using h)]
theorem Lw(l:FL)(p:Tn):(JF l p).length=QC l p.1+1+(l.length-QQ l p.1):=by
 rw[Ex];have h1:=vZ l p.1;simp;omega
theorem RH(l:FL)(p:Tn)(hl:l.length<=8):(8<(JF l p).length)↔(QC l p.1=QQ l p.1∧l.length=8):=by
 rw[Lw];have:=Fe l p.1;omega
theorem Sd(l:FL)(k:List UInt8)(hr:YN l):uK l k=l.take (QC l k)++l.drop (QQ l k):=by
 by_cases h:Kr l k=N;·obtain⟨h1,h2⟩:=jS h;(have e:l=l.take (QC l k)++(l.getD (QC l k) ([],[])::l.drop (QC l k+1)):=by(conv=>lhs;rw[<-tE (QC l k) l,sD h1]);simp[h1]);have hne:∀j,j<l.length->j≠QC l k->(l.getD j ([],[])).1≠k:=fun j hj hn e=>hn (Fx l k hr j hj e).2;(have ha:(l.take (QC l k)).filter (fun q=>!(q.1==k))=l.take (QC l k):=by rw[tN];intro q hq;obtain⟨j,hj,rfl⟩:=L.1 hq;(have hjn:j<QC l k:=by simp at hj;omega);rw[sE,show l[j]'(by omega)=l.getD j ([],[])by simp[show j<l.length by omega]];simpa using hne j (by omega) (by omega));(have hb:(l.drop (QC l k+1)).filter (fun q=>!(q.1==k))=l.drop (QC l k+1):=by rw[tN];intro q hq;obtain⟨j,hj,rfl⟩:=L.1 hq;(have hjn:QC l k+1+j<l.length:=by simp at hj;omega);rw[sP,show l[QC l k+1+j]=l.getD (QC l k+1+j) ([],[])by simp[hjn]];simpa using hne _ hjn (by omega));rw[QQ,if_pos h,uK];(conv=>lhs;rw[e]);rw[sK,pJ (by simpa using h2),ha,hb]
 ·rw[QQ,if_neg h,tE,uK,tN];intro q hq;obtain⟨j,hj,rfl⟩:=L.1 hq;have:=fun e=>h (Fx l k hr j hj e).1;rw[show l.getD j ([],[])=l[j]by simp[hj]]at this;simpa using this
theorem lV(l:FL)(k:List UInt8)(hr:YN l):XT l k=if Kr l k=N then(l.getD (QC l k) ([],[])).2 else[]:=by
 unfold XT;rw[Im l k hr];by_cases h:Kr l k=N;·rw[if_pos h,if_pos h];rfl
 ·rw[if_neg h,if_neg h];rfl
theorem Ct(l:FL)(k:List UInt8)(hr:YN l):((l.take (QQ l k)).drop (QC l k)=[]∧XT l k=[]∧QQ l k=QC l k)∨(∃t,(l.take (QQ l k)).drop (QC l k)=[t]∧XT l k=t.2∧QQ l k=QC l k+1):=by
 rw[lV l k hr];by_cases h:Kr l k=N;·right;obtain⟨h1,h2⟩:=jS h;refine⟨l.getD (QC l k) ([],[]),?_,by rw[if_pos h],by rw[QQ,if_pos h]⟩;rw[QQ,if_pos h,List.take_succ_eq_append_getElem h1,pD (by simp;omega),tV (by simp;omega),pE];simp[h1]
 ·left;refine⟨?_,by rw[if_neg h],by rw[QQ,if_neg h]⟩;rw[QQ,if_neg h,tV (by simp;omega)]
def fO:Prop:=∀(w:I)(a:Option pH)(n cap:Nat),r8 tA 19 #[tH a n cap] w fun e w'=>e=sS (tK rC (Qt n))∧J w w' H
def We:Prop:=∀(w:I)(v:O)(r:Rq),Vi w->XV w v r->jH r->r8 tA 24 #[v] w fun e w'=>e=sS (tK rC (Yy r))∧J w w' H
end Go.Proofs.YtahggnmfofgddaaGreatDoor
