/-
  Texts of this proof, joined, with few blanks: Base, LineF, SlM, PartM, Keys, PlaceM, Trees, TreeF, FitsF, ForestF, KTree, KPure, ForestK, ApplyOne, BSlice, BitC, CheckC, CheckP, Group, BitP, Bits, WrM0, TapeF, Lanes, Cols, EqB, PosF, FPosF, FCName, FNameP, ForestE, ProofM, Sides, ForkF, Move, Round, PartC, TapeG.
-/
import Derived.WalkKit
import Derived.WalkSpells
import Derived.WalkLawsBesides
import Derived.BigRegion
import Derived.Deep.QuietTactic
import Derived.BigQuiet
import Derived.Deep.RegionHeld3
import Derived.Deep.DeepCutAuto
import Derived.Lib.Strings
import Derived.Test.YtaljfgkjfogmeaaGreatDoorChecked
set_option maxRecDepth 100000
set_option maxHeartbeats 8000000
open Array renaming getElem?_eq_some_iff->tM,getElem?_modify->sD,ext->oU
open BitVec renaming ofInt->tK,ofInt_natCast->tR,toNat_ofNat->sA,toNat_and->oE
open Bool renaming true->tA,false->tJ,and_eq_true->oH,or_eq_true->oK
open Classical renaming byContradiction->sP
open Decidable renaming decide->rJ
open Go renaming World->I,Value->T,sliced->rC,heap_alloc_new->rN,Calls->rO,Addr->rS,TypeId->rX,maxLen->oW,info_parts->oX
open Go.Ending renaming returned->tY
open Go.Instr renaming slice->rW
open Go.IntKind renaming i64->sL,u64->rH,u16->rT,wrap_u64->r8,u8->pD,wrap_u16->oY
open Go.Obj renaming cells->tP
open Go.Op renaming bytesLess->sI
open Go.Proofs.Tryz renaming prog->L,underlying47->sN,ntmps147->pK,ntmps54->pL,func147->pM,ntmps53->pO,func54->pV,func53->pW,ntmps157->oO,func157->oQ
open Go.Result renaming andThen->sU
open Go.Value renaming slice->O,int->V,tuple->pB,bool->oF,ownBlock->oJ
open Go.Value.slice renaming injEq->sB
open Go.World renaming grownBy->J,setCell->tH,cell?->sC,frozen?->rK,grownBy_alloc->rY
open Int renaming toNat_natCast->sG,le_refl->oV
open List renaming mem_iff_getElem->N,length_append->tB,take_append_drop->tD,append_assoc->tE,takeWhile_cons_of_pos->tG,eq_nil_of_length_eq_zero->tI,filter_eq_self->tL,drop_eq_nil_of_le->tU,getD_cons_zero->tV,mem_cons->tW,mem_cons_of_mem->tX,getElem_take->sF,getElem_mem->sH,filter_append->sJ,filter_eq_nil_iff->sK,getElem_drop->sO,drop_eq_getElem_cons->sR,append_nil->sS,pairwise_singleton->sV,getElem?_map->sX,length_filter_le->sZ,take_succ_cons->rG,pairwise_cons->rI,flatMap_cons->rM,getElem?_eq_getElem->rP,take_left'->rU,drop_left'->rV,mem_cons_self->r7,set_eq_take_append_cons_drop->pA,mem_filter->pE,take_append_of_le_length->pF,drop_append_of_le_length->pG,nil_append->pH,getElem?_eq_some_iff->pI,pairwise_iff_getElem->pJ,filter_cons_of_neg->pN,take_of_length_le->pP,find?_cons_of_pos->pR,find?_cons_of_neg->pS,drop_succ_cons->pY,takeWhile_cons->oC,getElem?_take->oD,length_cons->oI,map_cons->oM,take_nil->oP
open List.Pairwise renaming cons->tS,filter->sW,nil->rB
open Nat renaming lt_of_lt_of_le->tQ,le_refl->tZ,mod_eq_of_lt->sQ,testBit_lt_two_pow->sY,pow_le_pow_right->rD,le_trans->rF,testBit_eq_decide_div_mod_eq->pC,testBit_div_two_pow->pQ,div_div_eq_div_mul->pU,eq_of_testBit_eq->pX,min_eq_left->oL,testBit_or->oN,sub_self->oR,sub_zero->oS,mul_one->oT
open Option renaming some->F,none->H,map_some->rA
open Option.some renaming injEq->tN,inj->pT
open Prod.mk renaming injEq->sE
open UInt8 renaming ofNat->tC,lt_iff_toNat_lt->sM,toNat_ofNat'->pZ,toNat_inj->oG
namespace Go.Proofs.YtaljfgkjfogmeaaGreatDoor
open Go.RowKit
section
theorem Qb(w:I)(r:Option Nat):J w w r:=⟨rfl,rfl,rfl,tZ _,fun _ _ _=>rfl⟩
theorem Qa{w w1 w2:I}{r:Option Nat}(h:J w w1 r)(k:J w1 w2 r):J w w2 r:=⟨k.os.trans h.os,k.tape.trans h.tape,k.output.trans h.output,rF h.size k.size,fun i hi hn=>(k.block i (tQ hi h.size) hn).trans (h.block i hi hn)⟩
theorem Qn{w w1:I}{r:Option Nat}(h:J w w1 r):J w w1.drew r:=⟨h.os,h.tape,h.output,h.size,h.block⟩
theorem Qo{w w1:I}{r:Option Nat}(h:J w w1 r)(n:Nat):J w (w1.drewN n) r:=⟨h.os,h.tape,h.output,h.size,h.block⟩
theorem Qh{w w1:I}{b:Nat}(h:J w w1 (F b))(i:Nat)(v:T):J w (tH w1 ⟨b,i,H⟩ v) (F b):=Qa h ⟨rfl,rfl,rfl,by
 simp[tH],fun k _ hn=>Below.heap_setCell _ _ _ _ (by
 intro e;exact hn (by rw[e]))⟩
theorem Qw{w w1:I}{r:Option Nat}(h:J w w1 r)(o:Obj):J w (w1.alloc o) r:=Qa h (rY _ _ _)
theorem Jx{w w1 w2:I}{r:Option Nat}{c:Nat}(h:J w w1 r)(hc:w.heap.size<=c)(k:J w1 w2 (F c)):J w w2 r:=⟨k.os.trans h.os,k.tape.trans h.tape,k.output.trans h.output,rF h.size k.size,fun i hi hn=>(k.block i (tQ hi h.size) (by
 simp;omega)).trans (h.block i hi hn)⟩
theorem Qd{w w1:I}{r:Option Nat}(h:J w w1 r)(c:Nat)(hc:w.heap.size<=c)(i:Nat)(v:T):J w (tH w1 ⟨c,i,H⟩ v) r:=Jx h hc (Qh (Qb _ _) i v)
theorem Z4(b o n:Nat):(⟨b,o,H⟩:rS).add n=⟨b,o+n,H⟩:=by
 unfold Addr.add;split;·simp_all
 ·rfl
theorem O4(w:I):(sizeOf (L.elem 47)).run L w=.ok 1 w:=by
 kernel_rfl
theorem aM(W:I)(pb o len cap:Nat)(l:Int)(n:Nat)(hn:l=(n:Int))(h1:n<=len)(hc:n<cap):(rW 47 (O (F ⟨pb,o,H⟩) len cap) (F (V sL l)) H H).run L W=.ok (O (F ⟨pb,o+n,H⟩) (len-n) (cap-n)) W:=by
 subst hn;rw[run_slice_l _ _ _ _ _ (by kernel_rfl) _ _ (by omega) (by omega),O4];simp only[sU,rC,sG,rA,oT,Z4];rw[if_neg (by omega)]
theorem Sl(W:I)(pb o len cap:Nat)(l:Int)(n:Nat)(hn:l=(n:Int))(hc:n<=cap)(h0:0<cap):(rW 47 (O (F ⟨pb,o,H⟩) len cap) H (F (V sL l)) H).run L W=.ok (O (F ⟨pb,o,H⟩) n cap) W:=by
 subst hn;rw[run_slice_h _ _ _ _ _ (by kernel_rfl) _ _ (by omega) (by omega),O4];simp only[sU,rC,sG,rA,oT,Z4];rw[if_neg (by omega)];simp
def KH(w:I)(pb o:Nat)(bs:List UInt8):Prop:=∀i,i<bs.length->w.cell? ⟨pb,o+i,H⟩=F (V pD ((bs.getD i 0).toNat:Int))
theorem KH.drew{w:I}{pb o:Nat}{bs:List UInt8}(h:KH w pb o bs):KH w.drew pb o bs:=h
theorem KH.grown{w w':I}{pb o:Nat}{bs:List UInt8}{r:Option Nat}(h:KH w pb o bs)(hg:J w w' r)(hr:F pb≠r):KH w' pb o bs:=fun i hi=>hg.cell (h i hi) hr
def ZS(bs:List UInt8):Array T:=(bs.map fun c=>V pD (c.toNat:Int)).toArray
def ZG(w:I)(b:Nat)(bs:List UInt8):Prop:=∃t,w.heap[b]?=F (tP (ZS bs) t (0,0))
section
variable{w:I}{b:Nat}{bs:List UInt8}
theorem ZG.cell(h:ZG w b bs)(i:Nat)(hi:i<bs.length):w.cell? ⟨b,i,H⟩=F (V pD ((bs.getD i 0).toNat:Int)):=by
 obtain⟨t,hb⟩:=h;simp[sC,hb,ZS,sX,rP hi]
theorem ZG.frozen(h:ZG w b bs)(i:Nat):w.frozen? ⟨b,i,H⟩=tJ:=by
 obtain⟨t,hb⟩:=h;simp[rK,hb]
theorem ZG.lt(h:ZG w b bs):b<w.heap.size:=by
 obtain⟨t,hb⟩:=h;exact(tM.1 hb).1
theorem CE(bs:List UInt8)(i:Nat)(x:UInt8):(ZS bs).setIfInBounds i (V pD (x.toNat:Int))=ZS (bs.set i x):=by
 simp[ZS]
theorem ZG.set(h:ZG w b bs)(i:Nat)(x:UInt8):ZG (tH w ⟨b,i,H⟩ (V pD (x.toNat:Int))) b (bs.set i x):=by
 obtain⟨t,hb⟩:=h;refine⟨t,?_⟩;simp only[tH,sD,if_true,hb,rA];simp[CE]
theorem ZG.drewN(h:ZG w b bs)(k:Nat):ZG (w.drewN k) b bs:=h
theorem ZG.drew(h:ZG w b bs):ZG w.drew b bs:=h
theorem ZG.alloc(h:ZG w b bs)(o:Obj):ZG (w.alloc o) b bs:=by
 have hl:=h.lt;obtain⟨t,hb⟩:=h;exact⟨t,by rw[Below.heap_alloc _ _ _ hl];exact hb⟩
theorem ZG.grown(h:ZG w b bs){w':I}{r:Option Nat}(hg:J w w' r)(hr:F b≠r):ZG w' b bs:=by
 have hl:=h.lt;obtain⟨t,hb⟩:=h;exact⟨t,by rw[hg.block b hl hr];exact hb⟩
theorem ZG.new(w:I)(t:rX)(bs:List UInt8):ZG (w.alloc (tP (ZS bs) t)) w.heap.size bs:=⟨t,rN w _⟩
theorem ZG.at(h:ZG w b bs)(o:Nat)(cs:List UInt8)(hc:∀i,i<cs.length->o+i<bs.length∧bs.getD (o+i) 0=cs.getD i 0):KH w b o cs:=by
 intro i hi;rw[h.cell (o+i) (hc i hi).1,(hc i hi).2]
end
def Qe(w:I)(v:T)(bs:List UInt8):Prop:=∃a cap,v=O a bs.length cap∧bs.length<=cap∧((bs=[]∧(a=H->cap=0))∨∃b o,a=F ⟨b,o,H⟩∧KH w b o bs)
theorem Qe.grown{w w':I}{v:T}{bs:List UInt8}(h:Qe w v bs)(hg:J w w' H):Qe w' v bs:=by
 obtain⟨a,cap,rfl,hc,h⟩:=h;refine⟨a,cap,rfl,hc,?_⟩;rcases h with h|⟨b,o,rfl,h⟩;·exact .inl h
 ·exact .inr ⟨b,o,rfl,h.grown hg (by simp)⟩
theorem Qe.alloc{w:I}{v:T}{bs:List UInt8}(h:Qe w v bs)(o:Obj):Qe (w.alloc o) v bs:=h.grown (rY _ _ _)
theorem Qe.drew{w:I}{v:T}{bs:List UInt8}(h:Qe w v bs):Qe w.drew v bs:=h
theorem Qe.drewN{w:I}{v:T}{bs:List UInt8}(h:Qe w v bs)(n:Nat):Qe (w.drewN n) v bs:=h
theorem ZG.slice{w:I}{b:Nat}{bs:List UInt8}(h:ZG w b bs)(cap:Nat)(hc:bs.length<=cap):Qe w (O (F ⟨b,0,H⟩) bs.length cap) bs:=⟨_,cap,rfl,hc,.inr ⟨b,0,rfl,h.at 0 bs fun i hi=>by
 simpa using hi⟩⟩
theorem QD(w:I):Qe w (O H 0 0) []:=⟨H,0,rfl,tZ _,.inl ⟨rfl,fun _=>rfl⟩⟩
def Ud(n:Nat):List UInt8:=List.replicate n 0
theorem Ez(n:Nat):(Ud n).length=n:=by
 simp[Ud]
theorem Ay(n:Nat):madeCells (V pD 0).cells (n*1)=ZS (Ud n):=by
 apply oU;·simp[size_madeCells,ZS,Ud]
 ·intro i h1 h2;simp[madeCells,ZS,Ud,Value.cells,Nat.mod_one]
theorem dZ:(L.info? 5).map (fun i=>(i.zero,i.size,i.bytes))=F (F (V pD 0),1,1):=by
 kernel_rfl
theorem dW:(L.info? 5).map (·.size)=F 1:=by
 kernel_rfl
theorem Ap(W:I)(c:Int)(n:Nat)(hc:c=(n:Int))(hn:n<=1000000):(Instr.makeSlice 47 (V sL c) (V sL c)).run L W=.ok (O (F ⟨W.heap.size,0,H⟩) n n) (W.alloc (tP (ZS (Ud n)) 5)):=by
 subst hc;obtain⟨i0,hi,hz0,hz1,hz2⟩:=oX dZ;have h:=run_make (P:=L) W 47 5 i0 (V pD 0) sN hi hz0 sL sL (n:Int) (n:Int) (by omega) (oV _) (by rw[hz2];omega) (by omega);rw[h,hz1,sG,Ay]
theorem jI(bs:List UInt8):∀v∈(bs.map fun c=>V pD (c.toNat:Int)),v.oneCell'=tA:=by
 intro v hv;obtain⟨c,_,rfl⟩:=List.mem_map.1 hv;rfl
theorem Nq(w:I)(X Y:Array T)(t:rX):(w.alloc (tP X t)).setRow w.heap.size Y=w.alloc (tP Y t):=by
 simp only[World.setRow,World.alloc];congr 1;apply oU;·simp
 ·intro i h1 h2;simp only[Array.getElem_modify,Array.getElem_push];(have hi:i<w.heap.size+1:=by simpa using h2);split<;>split<;>first|rfl|omega|(exfalso;omega)|simp_all
theorem A6(w:I)(a:Option rS)(bs:List UInt8)(cap n m ty:Nat)(hn:bs.length<=n)(hs:Qe w (O a bs.length cap) bs):(Builtin.copy_ #[47,47] ty #[O (F ⟨w.heap.size,0,H⟩) n m,O a bs.length cap]).run L (w.alloc (tP (ZS (Ud n)) 5))=.ok (V sL (bs.length:Int)) (w.alloc (tP (ZS (bs++Ud (n-bs.length))) 5)):=by
 obtain⟨a',cap',e,hc,h⟩:=hs.alloc (tP (ZS (Ud n)) 5);simp only[sB,true_and]at e;obtain⟨rfl,rfl⟩:=e;by_cases h0:bs=[];·subst h0;have:=run_copy_none (P:=L) (w.alloc (tP (ZS (Ud n)) 5)) 47 47 ty 5 (F ⟨w.heap.size,0,H⟩) a n m 0 cap sN dW (by simp);simpa[goInt]using this
 ·rcases h with h|⟨b,o,rfl,h⟩;(·exact absurd h.1 h0);·have:=run_copy_row (P:=L) (w.alloc (tP (ZS (Ud n)) 5)) 47 47 ty 5 w.heap.size 0 n m ⟨b,o,H⟩ bs.length cap (ZS (Ud n)) 5 (bs.map fun c=>V pD (c.toNat:Int)) sN dW (rN w _) (by simp only[List.length_map];exact(oL hn).symm) (by intro j v hj;rw[sX]at hj;cases hb:bs[j]?with|none=>rw[hb]at hj;simp at hj|some c=>rw[hb]at hj;simp at hj;subst hj;rw[Z4];have hlt:j<bs.length:=(pI.1 hb).1;rw[h j hlt];simp[hb]) (by simp[ZS,Ud];exact hn) (jI bs);rw[this,Nq];simp[goInt,ZS,Ud]
def Vz(bs:List UInt8):List T:=bs.map fun c=>V pD (c.toNat:Int)
theorem Oy(bs:List UInt8):(Vz bs).length=bs.length:=by
 simp[Vz]
theorem MK(a b:List UInt8):Vz (a++b)=Vz a++Vz b:=by
 simp[Vz]
theorem Cs(bs:List UInt8)(j:Nat)(u:T)(h:(Vz bs)[j]?=F u):j<bs.length∧u=V pD ((bs.getD j 0).toNat:Int):=by
 rw[Vz,sX]at h;cases hb:bs[j]?with|none=>rw[hb]at h;simp at h|some c=>rw[hb]at h;simp at h;exact⟨(pI.1 hb).1,by simp[hb,<-h]⟩
def Q8(base:Nat)(w:I)(v:T)(bs:List UInt8):Prop:=w.ownsRow base 5 1 v bs.length (Vz bs)
theorem QT(base:Nat)(w:I):Q8 base w (O H 0 0) []:=World.ownsRow_nil _ _ _ _
theorem Q8.grown{base:Nat}{w w':I}{v:T}{bs:List UInt8}(h:Q8 base w v bs){row:Option Nat}(hg:J w w' row)(hne:v.ownBlock=H∨v.ownBlock≠row):Q8 base w' v bs:=World.ownsRow.kept h hg hne
theorem Q8.grownNone{base:Nat}{w w':I}{v:T}{bs:List UInt8}(h:Q8 base w v bs)(hg:J w w' H):Q8 base w' v bs:=by
 refine h.grown hg ?_;cases hv:v.ownBlock with|none=>exact .inl rfl|some k=>exact .inr (by simp)
theorem Q8.alloc{base:Nat}{w:I}{v:T}{bs:List UInt8}(h:Q8 base w v bs)(o:Obj):Q8 base (w.alloc o) v bs:=World.ownsRow.alloc h o
theorem Q8.slice{base:Nat}{w:I}{v:T}{bs:List UInt8}(h:Q8 base w v bs):Qe w v bs:=by
 obtain⟨h1,h2⟩:=h;rcases h2 with⟨rfl,h0⟩|⟨g,cap,cur,rfl,hb,hg,hn,hm,hs,ht⟩;·obtain rfl:=tI h0;exact QD w
 ·refine⟨_,cap,rfl,hn,.inr ⟨g,0,rfl,?_⟩⟩;intro i hi;(have hc:cur.toList[i]?=F (V pD ((bs.getD i 0).toNat:Int)):=by(have e:(cur.toList.take (bs.length*1))[i]?=(Vz bs)[i]?:=by rw[ht]);rw[oD,if_pos (by omega)]at e;rw[e,Vz,sX,rP hi];simp[hi]);simp[sC,hg];simpa using hc
theorem Q8.lt{base:Nat}{w:I}{v:T}{bs:List UInt8}(h:Q8 base w v bs):∀k,v.ownBlock=F k->base<=k∧k<w.heap.size:=World.ownsRow.lt h
theorem Q8.shape{base:Nat}{w:I}{v:T}{bs:List UInt8}(h:Q8 base w v bs):∃a cap,v=O a bs.length cap:=by
 obtain⟨a,cap,e,_⟩:=h.slice;exact⟨a,cap,e⟩
theorem FF(base:Nat)(w:I)(bs:List UInt8)(hb:base<=w.heap.size)(hm:bs.length<=oW):Q8 base (w.alloc (tP (ZS bs) 5)) (O (F ⟨w.heap.size,0,H⟩) bs.length bs.length) bs:=⟨by
 simp[Vz],.inr ⟨w.heap.size,bs.length,ZS bs,rfl,hb,rN w _,tZ _,hm,by
 simp[ZS],by
 simp[ZS,Vz,pP]⟩⟩
theorem Xk{w W w1:I}{v:T}{bs:List UInt8}(h:J w W H)(ho:Q8 w.heap.size W v bs)(hg:J W w1 v.ownBlock):J w w1 H:=⟨hg.os.trans h.os,hg.tape.trans h.tape,hg.output.trans h.output,rF h.size hg.size,fun i hi hn=>(hg.block i (tQ hi h.size) (fun e=>by
 have:=(ho.lt i e.symm).1;omega)).trans (h.block i hi hn)⟩
theorem Ny(w:I)(base ty:Nat)(v:T)(bs:List UInt8)(hown:Q8 base w v bs)(a:Option rS)(m cap:Nat)(cs:List UInt8)(hs:Qe w (O a m cap) cs)(hbytes:bs.length+m<=140737488355328)(hbase:base<=w.heap.size):∃v' w',(Builtin.append_ #[47,47] ty #[v,O a m cap]).run L w=.ok v' w'∧Q8 base w' v' (bs++cs)∧J w w' v.ownBlock:=by
 obtain⟨i0,hi,hz0,hz1,hz2⟩:=oX dZ;obtain⟨a',cap',e,hc,h⟩:=hs;simp only[sB]at e;obtain⟨rfl,rfl,rfl⟩:=e;have h63:bs.length+cs.length<=oW:=by unfold oW;omega
 have key:∀ad:rS,(∀j u,(Vz cs)[j]?=F u->w.cell? (ad.add j)=F u)->∃v' w',(Builtin.append_ #[47,47] ty #[v,O (F ad) cs.length cap]).run L w=.ok v' w'∧Q8 base w' v' (bs++cs)∧J w w' v.ownBlock:=by intro ad hnews;obtain⟨v',w',hr,ho,hg,_⟩:=run_append_own (P:=L) w base 47 ty 5 i0 (V pD 0) 1 1 sN hi hz0 hz1 hz2 rfl (by decide) v bs.length (Vz bs) hown ad cs.length cap (Vz cs) (by simp[Vz]) hnews (jI cs) h63 (by omega) hbase;refine⟨v',w',hr,?_,hg⟩;unfold Q8;rw[MK,tB];exact ho
 rcases h with⟨rfl,hz⟩|⟨b,o,rfl,h⟩;·cases a with|none=>obtain rfl:=hz rfl;refine⟨v,w,run_append_owned_none (P:=L) (w:=w) base 47 ty 5 i0 1 sN hi v bs.length (Vz bs) hown,?_,Qb _ _⟩;rw[sS];exact hown|some ad=>exact key ad (by simp[Vz])
 ·refine key ⟨b,o,H⟩ fun j u hj=>?_;obtain⟨hlt,rfl⟩:=Cs cs j u hj;rw[Z4];exact h j hlt
theorem QJ{w:I}{ops:Array Oper}{rest:List Oper}{o:Oper}{a:Act}{Q:Exit->Act->I->Prop}(hgd:o.guard=H)(s x:Operand)(ho:o.op=.call {callee:=.builtin .append,args:=#[s,x],argTypes:=#[47,47]})(base:Nat)(v:T)(bs:List UInt8)(hs:a.eval s=v)(hown:Q8 base w v bs)(xa:Option rS)(m cap:Nat)(cs:List UInt8)(hx:a.eval x=O xa m cap)(hsl:Qe w (O xa m cap) cs)(hbytes:bs.length+m<=140737488355328)(hbase:base<=w.heap.size)(h:∀v' w',Q8 base w' v' (bs++cs)->J w w' v.ownBlock->wpList L ops Q rest (a.put o.dst v') w'):wpList L ops Q (o::rest) a w:=by
 refine wpList_plain hgd fun K hK=>?_;obtain⟨v',w',hrun,ho',hg⟩:=Ny w base o.type v bs hown xa m cap cs hsl hbytes hbase;unfold Oper.wp;simp[execOp,ho,resolve,invoke,builtin,hs,hx,hrun,sU];exact hK _ _ (h v' w' ho' hg)
theorem Qe.take{w:I}{a:Option rS}{m cap:Nat}{bs:List UInt8}(h:Qe w (O a m cap) bs)(k:Nat)(hk:k<=m):Qe w (O a k cap) (bs.take k):=by
 obtain⟨a',cap',e,hc,h⟩:=h;simp only[sB]at e;obtain⟨rfl,rfl,rfl⟩:=e;have hl:(bs.take k).length=k:=by simp;omega
 refine⟨a,cap,by rw[hl],by omega,?_⟩;rcases h with⟨rfl,hz⟩|⟨b,o,rfl,h⟩;·exact .inl ⟨by simp,hz⟩
 ·refine .inr ⟨b,o,rfl,fun i hi=>?_⟩;rw[h i (by omega)];rw[hl]at hi;simp[hi]
theorem Hd(bs:List UInt8)(s:ByteArray):((bs.map fun c=>((c.toNat:Nat):Int)).foldl (fun r n=>r.push (tC n.toNat)) s)=⟨s.data++bs.toArray⟩:=by
 induction bs generalizing s with|nil=>simp|cons c bs ih=>simp only[oM,List.foldl_cons];rw[ih];congr 1;simp[ByteArray.push]
def j8(bs:List UInt8):ByteArray:=⟨bs.toArray⟩
theorem Pz(bs:List UInt8):(j8 bs).toList=bs:=by
 rw[Lib.toList_data];rfl
theorem F2(W:I)(v:T)(bs:List UInt8)(hs:Qe W v bs):(convert 47 9 v).run L W=.ok (.string (j8 bs)) W:=by
 obtain⟨a,cap,rfl,hc,h⟩:=hs;rw[run_convert_bytes_string W 47 9 5 a bs.length cap sN Tryz.underlying5 Tryz.underlying9];have key:∀ad:rS,(∀j u,(Vz bs)[j]?=F u->W.cell? (ad.add j)=F u)->(Conv.bytesToString (O (F ad) bs.length cap)).run L W=.ok (.string (j8 bs)) W:=by intro ad hcells;have hl:=run_loadCells_list (P:=L) W ad (Vz bs) hcells;rw[Oy]at hl;have:=run_bytesToString (P:=L) W ad bs.length cap (bs.map fun c=>((c.toNat:Nat):Int)) (by rw[hl];simp[Vz]);rw[this,Hd];simp[j8]
 rcases h with⟨rfl,hz⟩|⟨b,o,rfl,h⟩;·cases a with|none=>simp[Conv.bytesToString,j8];rfl|some ad=>exact key ad (by simp[Vz])
 ·refine key ⟨b,o,H⟩ fun j u hj=>?_;obtain⟨hlt,rfl⟩:=Cs bs j u hj;rw[Z4];exact h j hlt
theorem ZG.slice32{w:I}{b:Nat}{bs:List UInt8}(h:ZG w b bs)(hl:bs.length=32):Qe w (O (F ⟨b,0,H⟩) 32 32) bs:=by
 have:=h.slice 32 (by omega);rw[hl]at this;exact this
theorem UC(w:I)(x:UInt8)(t:rX):Qe (w.alloc (tP #[V pD (x.toNat:Int)] t)) (O (F ⟨w.heap.size,0,H⟩) 1 1) [x]:=(ZG.new w t [x]).slice 1 (by
 simp)
theorem EV(w:I)(x y:UInt8)(t:rX):Qe (w.alloc (tP #[V pD (x.toNat:Int),V pD (y.toNat:Int)] t)) (O (F ⟨w.heap.size,0,H⟩) 2 2) [x,y]:=(ZG.new w t [x,y]).slice 2 (by
 simp)
theorem Ks{base base':Nat}{w:I}{v:T}{bs:List UInt8}(h:Q8 base w v bs)(hb:base'<=base):Q8 base' w v bs:=by
 refine⟨h.1,?_⟩;rcases h.2with h2|⟨g,cap,cur,h1,h2,h3⟩;·exact .inl h2
 ·exact .inr ⟨g,cap,cur,h1,rF hb h2,h3⟩
end
structure Ac where
  kind : Int
  sess : Int
  keep : Int
  data : List UInt8
def Kh:Ac:=⟨0,0,0,[]⟩
def YW(a:Ac):Int:=if 1<=a.kind∧a.kind<=4then(if(a.kind=1∧¬(0<=a.sess∧a.sess<=7))∨(a.kind=3∧¬(0<=a.keep∧a.keep<=200000))then 2 else if 4000<a.data.length then 1 else if(a.kind≠1∧a.sess≠0)∨(a.kind≠3∧a.keep≠0)∨(a.kind≠1∧0<a.data.length)then 4 else 0)else 5
structure Yt(a:Ac):Prop where kind:1<=a.kind∧a.kind<=4sess:a.kind=1->0<=a.sess∧a.sess<=7keep:a.kind=3->0<=a.keep∧a.keep<=200000data:a.data.length<=4000noSess:a.kind≠1->a.sess=0noKeep:a.kind≠3->a.keep=0noData:a.kind≠1->a.data=[]
theorem kQ(a:Ac):YW a=0↔Yt a:=by
 unfold YW;by_cases h0:1<=a.kind∧a.kind<=4;·rw[if_pos h0];by_cases h1:(a.kind=1∧¬(0<=a.sess∧a.sess<=7))∨(a.kind=3∧¬(0<=a.keep∧a.keep<=200000));(·rw[if_pos h1];refine⟨fun e=>(by cases e),fun h=>?_⟩;rcases h1 with⟨h1,h2⟩|⟨h1,h2⟩;(·exact absurd (h.sess h1) h2);·exact absurd (h.keep h1) h2);·rw[if_neg h1];by_cases h2:4000<a.data.length;(·rw[if_pos h2];exact⟨fun e=>(by cases e),fun h=>by have:=h.data;omega⟩);·rw[if_neg h2];by_cases h3:(a.kind≠1∧a.sess≠0)∨(a.kind≠3∧a.keep≠0)∨(a.kind≠1∧0<a.data.length);(·rw[if_pos h3];refine⟨fun e=>(by cases e),fun h=>?_⟩;rcases h3 with⟨h3,h4⟩|⟨h3,h4⟩|⟨h3,h4⟩;(·exact absurd (h.noSess h3) h4);(·exact absurd (h.noKeep h3) h4);·rw[h.noData h3]at h4;simp at h4);·rw[if_neg h3];refine⟨fun _=>⟨h0,fun h=>?_,fun h=>?_,by omega,fun h=>?_,fun h=>?_,fun h=>?_⟩,fun _=>rfl⟩;(·exact sP fun e=>h1 (.inl ⟨h,e⟩));(·exact sP fun e=>h1 (.inr ⟨h,e⟩));(·exact sP fun e=>h3 (.inl ⟨h,e⟩));(·exact sP fun e=>h3 (.inr (.inl ⟨h,e⟩)));·refine tI ?_;have:¬0<a.data.length:=fun e=>h3 (.inr (.inr ⟨h,e⟩));omega
 ·rw[if_neg h0];exact⟨fun e=>(by cases e),fun h=>absurd h.kind h0⟩
def gM(n:Nat):UInt8:=tC (48+n)
def eP(n:Nat):List UInt8:=if n<10then[gM n]else eP (n/10)++[gM (n%10)]termination_by n decreasing_by
 omega
def gD(n:Nat):UInt8:=if n<10then tC (48+n)else tC (87+n)
def g8(bs:List UInt8):List UInt8:=bs.flatMap fun c=>[gD (c.toNat/16),gD (c.toNat%16)]
def iA:List UInt8:=[97,115,107]
def fU:List UInt8:=[115,121,110,99]
def eY:List UInt8:=[99,114,97,115,104]
def eI:List UInt8:=[115,116,97,114,116]
def gR(a:Ac):List UInt8:=if a.kind=1then iA++32::(eP a.sess.toNat++32::g8 a.data)else if a.kind=2then fU else if a.kind=3then eY++32::eP a.keep.toNat else if a.kind=4then eI else[]
theorem Zl(w:I)(o:Obj):∃W:I,Hid (W=w.alloc o)∧J w W H∧Hid (W.heap[w.heap.size]?=F o):=⟨w.alloc o,rfl,rY _ _ _,rN w o⟩
theorem Qe.shape{w:I}{v:T}{bs:List UInt8}(h:Qe w v bs):∃a cap,v=O a bs.length cap:=by
 obtain⟨a,cap,rfl,_⟩:=h;exact⟨a,cap,rfl⟩
theorem QR{W w:I}{b:Nat}{x y:T}{t:rX}(hg:J W w H)(h:W.heap[b]?=F (tP #[x,y] t)):w.cell? ⟨b,0,H⟩=F x∧w.cell? ⟨b,1,H⟩=F y∧w.frozen? ⟨b,0,H⟩=tJ∧w.frozen? ⟨b,1,H⟩=tJ:=by
 have hb:w.heap[b]?=F (tP #[x,y] t):=by rw[hg.block b (tM.1 h).1 (by simp)];exact h
 refine⟨by simp[sC,hb],by simp[sC,hb],by simp[rK,hb],by simp[rK,hb]⟩
theorem zN{W w:I}{b:Nat}{x y:T}{t:rX}(hg:J W w H)(h:W.heap[b]?=F (tP #[x,y] t)){G:Prop}(k:w.heap[b]?=F (tP #[x,y] t)->w.cell? ⟨b,0,H⟩=F x->w.cell? ⟨b,1,H⟩=F y->w.frozen? ⟨b,0,H⟩=tJ->w.frozen? ⟨b,1,H⟩=tJ->G):G:=by
 obtain⟨h1,h2,h3,h4⟩:=QR hg h;exact k (by rw[hg.block b (tM.1 h).1 (by simp)];exact h) h1 h2 h3 h4
theorem Qc{W w:I}{b:Nat}{o:Obj}(hg:J W w H)(h:W.heap[b]?=F o):w.heap[b]?=F o:=by
 rw[hg.block b (tM.1 h).1 (by simp)];exact h
def Qj(base:Nat)(w:I)(v:T)(bs:List UInt8):Prop:=Qe w v bs∧(bs=[]∨∃b,v.ownBlock=F b∧b<w.heap.size∧(b<base∨∃cur fz,w.heap[b]?=F (tP cur 5 fz)))
theorem Qj.slice{base:Nat}{w:I}{v:T}{bs:List UInt8}(h:Qj base w v bs):Qe w v bs:=h.1
theorem Q8.part{base base':Nat}{w:I}{v:T}{bs:List UInt8}(h:Q8 base' w v bs):Qj base w v bs:=by
 refine⟨h.slice,?_⟩;rcases h.2with⟨rfl,h0⟩|⟨g,cap,cur,rfl,hb,hg,_⟩;·exact .inl (tI h0)
 ·exact .inr ⟨g,rfl,(tM.1 hg).1,.inr ⟨cur,_,hg⟩⟩
theorem Vu{w:I}{b o:Nat}{v:T}(h:w.cell? ⟨b,o,H⟩=F v):b<w.heap.size:=by
 by_cases hb:b<w.heap.size;·exact hb
 ·simp[sC,Array.getElem?_eq_none (Nat.le_of_not_lt hb)]at h
theorem Qe.part{w w':I}{v:T}{bs:List UInt8}(h:Qe w v bs)(hg:J w w' H)(base:Nat)(hb:w.heap.size<=base):Qj base w' v bs:=by
 refine⟨h.grown hg,?_⟩;obtain⟨a,cap,rfl,hc,h⟩:=h;rcases h with⟨rfl,_⟩|⟨b,o,rfl,h⟩;·exact .inl rfl
 ·by_cases h0:bs=[];(·exact .inl h0);·have hl:0<bs.length:=List.length_pos_iff.2 h0;have:=Vu (h 0 hl);exact .inr ⟨b,rfl,tQ this hg.size,.inl (by omega)⟩
theorem Qj.mono{base base':Nat}{w:I}{v:T}{bs:List UInt8}(h:Qj base w v bs)(hb:base<=base'):Qj base' w v bs:=by
 refine⟨h.1,?_⟩;rcases h.2with h|⟨b,h1,h2,h3⟩;·exact .inl h
 ·refine .inr ⟨b,h1,h2,?_⟩;rcases h3 with h3|h3;(·exact .inl (by omega));·exact .inr h3
theorem ZD{base:Nat}{w:I}{v:T}{bs:List UInt8}(h:Qj base w v bs):v.oneCell'=tA:=by
 obtain⟨⟨a,cap,rfl,_⟩,_⟩:=h;rfl
theorem Qj.keptT{base:Nat}{w w':I}{v:T}{bs:List UInt8}(h:Qj base w v bs){row:Option Nat}(hg:J w w' row)(hrow:row=H∨∃g cur t fz,row=F g∧base<=g∧w.heap[g]?=F (tP cur t fz)∧t≠5):Qj base w' v bs:=by
 obtain⟨hs,ho⟩:=h;rcases ho with rfl|⟨b,hb,hlt,hc⟩;·obtain⟨a,cap,rfl,hc,h⟩:=hs;refine⟨⟨a,cap,rfl,hc,?_⟩,.inl rfl⟩;rcases h with h|⟨b,o,rfl,h⟩;(·exact .inl h);·exact .inr ⟨b,o,rfl,fun i hi=>by simp at hi⟩
 ·(have hne:F b≠row:=by intro e;rcases hrow with rfl|⟨g,cur,t,fz,rfl,hbg,hgc,ht⟩;(·cases e);·cases e;rcases hc with hc|⟨cur2,fz2,hc⟩;(·omega);·rw[hc]at hgc;simp only[tN,Obj.cells.injEq]at hgc;exact ht hgc.2.1.symm);have hblk:=hg.block b hlt hne;refine⟨?_,.inr ⟨b,hb,tQ hlt hg.size,?_⟩⟩;(·obtain⟨a,cap,rfl,hcp,h⟩:=hs;refine⟨a,cap,rfl,hcp,?_⟩;rcases h with h|⟨b',o,rfl,h⟩;(·exact .inl h);·refine .inr ⟨b',o,rfl,fun i hi=>?_⟩;simp[oJ]at hb;subst hb;exact hg.cell (h i hi) (by simpa using hne));·rcases hc with hc|⟨cur,fz,hc⟩;(·exact .inl hc);·exact .inr ⟨cur,fz,by rw[hblk];exact hc⟩
def ZP(k:List UInt8)(i:Nat):Bool:=if i/9<k.length then(if i%9=0then tA else(k.getD (i/9) 0).toNat.testBit (8-i%9))else tJ
theorem K5(k:List UInt8)(p:Nat):ZP k (9*p)=rJ (p<k.length):=by
 unfold ZP;rw[show 9*p/9=p by omega,show 9*p%9=0 by omega];by_cases h:p<k.length<;>simp[h]
theorem K6(k:List UInt8)(p r:Nat)(hp:p<k.length)(hr:1<=r)(hr8:r<=8):ZP k (9*p+r)=(k.getD p 0).toNat.testBit (8-r):=by
 unfold ZP;rw[show(9*p+r)/9=p by omega,show(9*p+r)%9=r by omega,if_pos hp,if_neg (by omega)]
theorem EG(k:List UInt8)(i:Nat)(h:k.length<=i/9):ZP k i=tJ:=by
 unfold ZP;rw[if_neg (by omega)]
theorem Ca(x y:UInt8)(h:∀j,j<8->x.toNat.testBit j=y.toNat.testBit j):x=y:=by
 apply oG.1;apply pX;intro j;by_cases hj:j<8;·exact h j hj
 ·rw[sY (tQ x.toNat_lt (rD (by decide) (by omega:8<=j))),sY (tQ y.toNat_lt (rD (by decide) (by omega:8<=j)))]
theorem Wo(a b:List UInt8)(ha:a.length<=16)(hb:b.length<=16)(h:∀i,i<145->ZP a i=ZP b i):a=b:=by
 have hl:a.length=b.length:=by have h1:=h (9*a.length) (by omega);have h2:=h (9*b.length) (by omega);rw[K5,K5]at h1 h2;simp at h1 h2;omega
 apply List.ext_getElem hl;intro p h1 h2;have e:a.getD p 0=b.getD p 0:=by apply Ca;intro j hj;have:=h (9*p+(8-j)) (by omega);rw[K6 a p _ h1 (by omega) (by omega),K6 b p _ h2 (by omega) (by omega),show 8-(8-j)=j by omega]at this;exact this
 simpa[h1,h2]using e
def xN(a b:List UInt8):Nat->Nat->Int|0,_=>-1|n+1,i=>if ZP a i=ZP b i then xN a b n (i+1)else(i:Int)
def JG(a b:List UInt8):Int:=xN a b 145 0
theorem Rs(a b:List UInt8)(n i:Nat):(xN a b n i=-1∧∀j,i<=j->j<i+n->ZP a j=ZP b j)∨∃m:Nat,xN a b n i=(m:Int)∧i<=m∧m<i+n∧(∀j,i<=j->j<m->ZP a j=ZP b j)∧ZP a m≠ZP b m:=by
 induction n generalizing i with|zero=>exact .inl ⟨rfl,fun j _ h=>by omega⟩|succ n ih=>unfold xN;by_cases he:ZP a i=ZP b i;(·rw[if_pos he];rcases ih (i+1)with⟨h1,h2⟩|⟨m,h1,h2,h3,h4,h5⟩;(·refine .inl ⟨h1,fun j hj hj2=>?_⟩;by_cases hji:j=i;(·subst hji;exact he);·exact h2 j (by omega) (by omega));·refine .inr ⟨m,h1,by omega,by omega,fun j hj hj2=>?_,h5⟩;by_cases hji:j=i;(·subst hji;exact he);·exact h4 j (by omega) hj2);·rw[if_neg he];exact .inr ⟨i,rfl,tZ _,by omega,fun j h1 h2=>by omega,he⟩
theorem JP(a b:List UInt8):(JG a b=-1∧∀j,j<145->ZP a j=ZP b j)∨∃m:Nat,JG a b=(m:Int)∧m<145∧(∀j,j<m->ZP a j=ZP b j)∧ZP a m≠ZP b m:=by
 rcases Rs a b 145 0with⟨h1,h2⟩|⟨m,h1,_,h3,h4,h5⟩;·exact .inl ⟨h1,fun j hj=>h2 j (by omega) (by omega)⟩
 ·exact .inr ⟨m,h1,by omega,fun j hj=>h4 j (by omega) hj,h5⟩
theorem Dh(a b:List UInt8)(m:Nat)(hm:m<145)(h:∀j,j<m->ZP a j=ZP b j)(hd:ZP a m≠ZP b m):JG a b=(m:Int):=by
 rcases JP a b with⟨_,h2⟩|⟨m',h1,h2,h3,h4⟩;·exact absurd (h2 m hm) hd
 ·by_cases hlt:m'<m;(·exact absurd (h m' hlt) h4);·by_cases hgt:m<m';(·exact absurd (h3 m hgt) hd);·rw[h1];omega
theorem Tl(a b:List UInt8)(h:∀j,j<145->ZP a j=ZP b j):JG a b=-1:=by
 rcases JP a b with⟨h1,_⟩|⟨m',_,h2,_,h4⟩;·exact h1
 ·exact absurd (h m' h2) h4
theorem PJ(a b:List UInt8):-1<=JG a b∧JG a b<=144:=by
 rcases JP a b with⟨h,_⟩|⟨m,h,hm,_⟩<;>omega
theorem BA(a b:List UInt8)(ha:a.length<=16)(hb:b.length<=16):JG a b<0↔a=b:=by
 constructor;·intro h;rcases JP a b with⟨_,h2⟩|⟨m,h1,_⟩;(·exact Wo a b ha hb h2);·omega
 ·rintro rfl;rw[Tl a a fun _ _=>rfl];decide
theorem Pc(x y:UInt8)(a b:List UInt8):sI (x::a) (y::b)=(rJ (x<y)||(x==y&&sI a b)):=by
 simp[sI]
theorem EZ:∀(p:Nat)(a b:List UInt8),(∀i,i<p->i<a.length∧i<b.length∧a.getD i 0=b.getD i 0)->sI a b=sI (a.drop p) (b.drop p)|0,a,b,_=>by simp|p+1,[],b,h=>by have:=(h 0 (by omega)).1;simp at this|p+1,x::a,[],h=>by have:=(h 0 (by omega)).2.1;simp at this|p+1,x::a,y::b,h=>by have h0:=(h 0 (by omega)).2.2;simp at h0;subst h0;rw[Pc,pY,pY,<-EZ p a b fun i hi=>by have:=h (i+1) (by omega);simp at this;simpa using this];simp
theorem DI(a:List UInt8):sI a []=tJ:=by
 cases a<;>rfl
theorem Pw(a:List UInt8)(p:Nat)(h:p<a.length):a.drop p=a.getD p 0::a.drop (p+1):=by
 rw[sR h];simp[h]
theorem Em(x y j:Nat)(hx:x.testBit j=tJ)(hy:y.testBit j=tA)(h:∀i,j<i->x.testBit i=y.testBit i):x<y:=by
 have hq:x/2^(j+1)=y/2^(j+1):=by apply pX;intro i;rw[pQ,pQ];exact h _ (by omega)
 rw[pC]at hx hy;simp at hx hy;rw[Nat.pow_succ,<-pU,<-pU]at hq;exact Nat.lt_of_div_lt_div (c:=2^j) (by omega)
theorem WU(x y:UInt8)(j:Nat)(hd:x.toNat.testBit j≠y.toNat.testBit j)(h:∀i,j<i->x.toNat.testBit i=y.toNat.testBit i):(rJ (x<y)||(x==y&&tJ))=y.toNat.testBit j:=by
 cases hy:y.toNat.testBit j with|true=>(have hx:x.toNat.testBit j=tJ:=by cases hx:x.toNat.testBit j with|true=>exact absurd (hx.trans hy.symm) hd|false=>rfl);have:=Em _ _ j hx hy h;simp[sM,this]|false=>(have hx:x.toNat.testBit j=tA:=by cases hx:x.toNat.testBit j with|true=>rfl|false=>exact absurd (hx.trans hy.symm) hd);have:=Em _ _ j hy hx (fun i hi=>(h i hi).symm);simp[sM];omega
theorem FU(a b:List UInt8)(m:Nat)(h:∀j,j<m->ZP a j=ZP b j)(hd:ZP a m≠ZP b m):ZP b m=sI a b:=by
 have hone:m/9<a.length∨m/9<b.length:=by by_cases h1:m/9<a.length;(·exact .inl h1);·by_cases h2:m/9<b.length;(·exact .inr h2);·rw[EG a m (by omega),EG b m (by omega)]at hd;exact absurd rfl hd
 have hpre:∀i,i<m/9->i<a.length∧i<b.length∧a.getD i 0=b.getD i 0:=by intro i hi;have hh:=h (9*i) (by omega);rw[K5,K5]at hh;(have hl:i<a.length∧i<b.length:=by simp at hh;omega);refine⟨hl.1,hl.2,Ca _ _ fun j hj=>?_⟩;have:=h (9*i+(8-j)) (by omega);rw[K6 a i _ hl.1 (by omega) (by omega),K6 b i _ hl.2 (by omega) (by omega),show 8-(8-j)=j by omega]at this;exact this
 rw[EZ (m/9) a b hpre];by_cases hr:m%9=0;·(have em:m=9*(m/9):=by omega);have ha:=K5 a (m/9);have hb:=K5 b (m/9);rw[<-em]at ha hb;by_cases hlb:m/9<b.length;(·have hla:¬m/9<a.length:=fun hla=>hd (by rw[ha,hb];simp[hla,hlb]);rw[hb,tU (by omega),Pw b _ hlb];simp[hlb,sI]);·rw[hb,tU (show b.length<=m/9by omega),DI];simp[hlb]
 ·have hh:=h (9*(m/9)) (by omega);rw[K5,K5]at hh;(have hl:m/9<a.length∧m/9<b.length:=by simp at hh;omega);(have em:m=9*(m/9)+m%9:=by omega);have ha:=K6 a (m/9) (m%9) hl.1 (by omega) (by omega);have hb:=K6 b (m/9) (m%9) hl.2 (by omega) (by omega);rw[<-em]at ha hb;rw[Pw a _ hl.1,Pw b _ hl.2,Pc,hb];rw[ha,hb]at hd;(have hne:(a.getD (m/9) 0==b.getD (m/9) 0)=tJ:=by rw[beq_eq_false_iff_ne];intro e;rw[e]at hd;exact hd rfl);rw[hne,Bool.false_and];have:=WU (a.getD (m/9) 0) (b.getD (m/9) 0) (8-m%9) hd (fun i hi=>by by_cases hi8:i<8;(·have:=h (9*(m/9)+(8-i)) (by omega);rw[K6 a _ _ hl.1 (by omega) (by omega),K6 b _ _ hl.2 (by omega) (by omega),show 8-(8-i)=i by omega]at this;exact this);·rw[sY (tQ (a.getD (m/9) 0).toNat_lt (rD (by decide) (by omega:8<=i))),sY (tQ (b.getD (m/9) 0).toNat_lt (rD (by decide) (by omega:8<=i)))]);rw[Bool.and_false]at this;exact this.symm
def Qp(n:Nat):Int:=if 1<=n∧n<=16then 0 else 1
def Bz(k:List UInt8)(i:Int):Bool×Int:=if 1<=k.length∧k.length<=16then(if 0<=i∧i<=144then(ZP k i.toNat,0)else(tJ,2))else(tJ,1)
def FM(a b:List UInt8):Int×Int:=if 1<=a.length∧a.length<=16then(if 1<=b.length∧b.length<=16then(JG a b,0)else(0,1))else(0,1)
theorem bK(k:List UInt8)(i:Nat)(hk:1<=k.length∧k.length<=16)(hi:i<145):Bz k (i:Int)=(ZP k i,0):=by
 rw[Bz,if_pos hk,if_pos (by omega)];rfl
theorem Oh(a b:List UInt8)(ha:1<=a.length∧a.length<=16)(hb:1<=b.length∧b.length<=16):FM a b=(JG a b,0):=by
 rw[FM,if_pos ha,if_pos hb]
structure Ze where
  name : List UInt8
  key : List UInt8
  value : List UInt8
  gone : Bool
def YP(p:Ze):Prop:=p.name.length<=140737488355328∧p.key.length<=140737488355328∧p.value.length<=140737488355328
def Qr:Ze:=⟨[],[],[],tJ⟩
theorem Qi{W w:I}{b:Nat}{x y z u:T}{t:rX}(hg:J W w H)(h:W.heap[b]?=F (tP #[x,y,z,u] t)):(w.cell? ⟨b,0,H⟩=F x∧w.cell? ⟨b,1,H⟩=F y∧w.cell? ⟨b,2,H⟩=F z∧w.cell? ⟨b,3,H⟩=F u)∧w.frozen? ⟨b,0,H⟩=tJ∧w.frozen? ⟨b,1,H⟩=tJ∧w.frozen? ⟨b,2,H⟩=tJ∧w.frozen? ⟨b,3,H⟩=tJ∧w.heap[b]?=F (tP #[x,y,z,u] t):=by
 have hb:w.heap[b]?=F (tP #[x,y,z,u] t):=by rw[hg.block b (tM.1 h).1 (by simp)];exact h
 refine⟨⟨?_,?_,?_,?_⟩,?_,?_,?_,?_,hb⟩;all_goals simp[sC,rK,hb]
theorem Js{w:I}{b:Nat}{x y z u:T}{t:rX}(h:w.heap[b]?=F (tP #[x,y,z,u] t))(x' y' z' u':T):((((tH w ⟨b,0,H⟩ x').setCell ⟨b,1,H⟩ y').setCell ⟨b,2,H⟩ z').setCell ⟨b,3,H⟩ u').heap[b]?=F (tP #[x',y',z',u'] t)∧(tH w ⟨b,0,H⟩ x').cell? ⟨b,0,H⟩=F x'∧((tH w ⟨b,0,H⟩ x').setCell ⟨b,1,H⟩ y').cell? ⟨b,1,H⟩=F y'∧(((tH w ⟨b,0,H⟩ x').setCell ⟨b,1,H⟩ y').setCell ⟨b,2,H⟩ z').cell? ⟨b,2,H⟩=F z'∧((((tH w ⟨b,0,H⟩ x').setCell ⟨b,1,H⟩ y').setCell ⟨b,2,H⟩ z').setCell ⟨b,3,H⟩ u').cell? ⟨b,3,H⟩=F u':=by
 have h0:(tH w ⟨b,0,H⟩ x').heap[b]?=F (tP #[x',y,z,u] t):=by simp only[tH,sD,if_true,h,rA];first|rfl|simp
 have h1:((tH w ⟨b,0,H⟩ x').setCell ⟨b,1,H⟩ y').heap[b]?=F (tP #[x',y',z,u] t):=by rw[tH,sD,if_pos rfl,h0];first|rfl|simp
 have h2:(((tH w ⟨b,0,H⟩ x').setCell ⟨b,1,H⟩ y').setCell ⟨b,2,H⟩ z').heap[b]?=F (tP #[x',y',z',u] t):=by rw[tH,sD,if_pos rfl,h1];first|rfl|simp
 have h3:((((tH w ⟨b,0,H⟩ x').setCell ⟨b,1,H⟩ y').setCell ⟨b,2,H⟩ z').setCell ⟨b,3,H⟩ u').heap[b]?=F (tP #[x',y',z',u'] t):=by rw[tH,sD,if_pos rfl,h2];first|rfl|simp
 exact⟨h3,by simp[sC,h0],by simp[sC,h1],by simp[sC,h2],by simp[sC,h3]⟩
theorem Q8.setBlk{base:Nat}{w:I}{v:T}{bs:List UInt8}(h:Q8 base w v bs){b:Nat}{cur:Array T}{t:rX}{fz:Nat×Nat}(hb:w.heap[b]?=F (tP cur t fz))(ht:t≠5)(i:Nat)(u:T):Q8 base (tH w ⟨b,i,H⟩ u) v bs:=by
 refine h.grown (row:=F b) (Qh (Qb _ _) i u) ?_;rcases h.2with⟨rfl,_⟩|⟨g,cap,cur2,rfl,_,hg,_⟩;·exact .inl rfl
 ·right;intro e;simp[oJ]at e;subst e;rw[hg]at hb;simp at hb;exact ht hb.2.1.symm
theorem Jo{w w1:I}(h:J w w1 H)(b:Nat)(hb:w.heap.size<=b)(x y z u:T):J w ((((tH w1 ⟨b,0,H⟩ x).setCell ⟨b,1,H⟩ y).setCell ⟨b,2,H⟩ z).setCell ⟨b,3,H⟩ u) H:=Qd (Qd (Qd (Qd h _ hb _ _) _ hb _ _) _ hb _ _) _ hb _ _
abbrev Pr:=List UInt8×List UInt8
abbrev PL:=List Pr
abbrev YJ(a b:List UInt8):Bool:=sI a b
theorem Fw(a:List UInt8):YJ a []=tJ:=DI a
theorem vG(x y:UInt8)(a b:List UInt8):YJ (x::a) (y::b)=(rJ (x<y)||(x==y&&YJ a b)):=Pc x y a b
theorem XZ:∀a:List UInt8,YJ a a=tJ|[]=>rfl|x::a=>by rw[vG,XZ a];simp
theorem Ke:∀a b c:List UInt8,YJ a b=tA->YJ b c=tA->YJ a c=tA|_,[],_,h,_=>by rw[Fw]at h;cases h|_,_::_,[],_,h=>by rw[Fw]at h;cases h|[],_::_,_::_,_,_=>rfl|x::a,y::b,z::c,h1,h2=>by rw[vG]at h1 h2⊢;simp only[oK,decide_eq_true_eq,oH,beq_iff_eq,sM]at h1 h2⊢;rcases h1 with h1|⟨rfl,h1⟩;(·rcases h2 with h2|⟨rfl,h2⟩;(·left;omega);·left;exact h1);·rcases h2 with h2|⟨rfl,h2⟩;(·left;exact h2);·right;exact⟨rfl,Ke a b c h1 h2⟩
theorem Uv:∀a b:List UInt8,YJ a b=tJ->a≠b->YJ b a=tA|[],[],_,h=>absurd rfl h|[],_::_,h,_=>by cases h|_::_,[],_,_=>rfl|x::a,y::b,h1,h2=>by rw[vG]at h1⊢;simp only[Bool.or_eq_false_iff,decide_eq_false_iff_not,Bool.and_eq_false_iff,beq_eq_false_iff_ne,sM]at h1;simp only[oK,decide_eq_true_eq,oH,beq_iff_eq,sM];by_cases e:y=x;(·subst e;right;refine⟨rfl,Uv a b ?_ (fun e=>h2 (by rw[e]))⟩;rcases h1.2with h|h;(·exact absurd rfl h);·exact h);·left;have:x.toNat≠y.toNat:=fun h=>e (oG.1 h.symm);omega
theorem LD(a b:List UInt8)(h:YJ a b=tA):YJ b a=tJ:=by
 cases hb:YJ b a with|false=>rfl|true=>have:=Ke a b a h hb;rw[XZ]at this;cases this
theorem eC{a b:List UInt8}(h:YJ a b=tA):a≠b:=by
 rintro rfl;rw[XZ]at h;cases h
def QU(p:Pr):Int:=if 32<p.2.length then 1 else Qp p.1.length
def XI(l:PL)(i:Nat):Int:=if QU (l.getD i ([],[]))=0then(if 0<i∧YJ (l.getD (i-1) ([],[])).1 (l.getD i ([],[])).1=tJ then 3 else 0)else QU (l.getD i ([],[]))
def J9(l:PL):Nat->Nat->Int|0,_=>0|n+1,i=>if XI l i=0then J9 l n (i+1)else XI l i
def QA(l:PL):Int:=if 60<l.length then 1 else J9 l l.length 0
theorem zC(l:PL)(n i:Nat)(hi:i<=n)(h:∀j,j<i->XI l j=0):J9 l n 0=J9 l (n-i) i:=by
 induction i with|zero=>rfl|succ i ih=>rw[ih (by omega) (fun j hj=>h j (by omega)),show n-i=(n-(i+1))+1by omega,J9,if_pos (h i (by omega))]
theorem jG(l:PL)(i:Nat)(hi:i<l.length)(hl:l.length<=60)(h:∀j,j<i->XI l j=0)(hf:XI l i≠0):QA l=XI l i:=by
 rw[QA,if_neg (by omega),zC l _ i (by omega) h,show l.length-i=(l.length-(i+1))+1by omega,J9,if_neg hf]
theorem zB(l:PL)(hl:l.length<=60)(h:∀j,j<l.length->XI l j=0):QA l=0:=by
 rw[QA,if_neg (by omega),zC l _ l.length (tZ _) h,oR,J9]
theorem qY(l:PL)(hl:60<l.length):QA l=1:=by
 rw[QA,if_pos hl]
theorem z8(l:PL):∀(n i:Nat),J9 l n i=0->∀j,i<=j->j<i+n->XI l j=0|0,i,_,j,h1,h2=>by omega|n+1,i,h,j,h1,h2=>by rw[J9]at h;by_cases e:XI l i=0;(·rw[if_pos e]at h;by_cases hj:j=i;(·subst hj;exact e);·exact z8 l n (i+1) h j (by omega) (by omega));·rw[if_neg e]at h;exact absurd h e
def Um(l:PL):Prop:=l.Pairwise fun p q=>YJ p.1 q.1=tA
structure Zy(l:PL):Prop where room:l.length<=60pairs:∀p∈l,(1<=p.1.length∧p.1.length<=16)∧p.2.length<=32rises:Um l
theorem Jz(p:Pr):QU p=0↔(1<=p.1.length∧p.1.length<=16)∧p.2.length<=32:=by
 unfold QU Qp;by_cases h:32<p.2.length;·rw[if_pos h];constructor;(·intro h;cases h);·intro h;omega
 ·rw[if_neg h];by_cases h2:1<=p.1.length∧p.1.length<=16;(·rw[if_pos h2];exact⟨fun _=>⟨h2,by omega⟩,fun _=>rfl⟩);·rw[if_neg h2];constructor;(·intro h;cases h);·intro h;exact absurd h.1 h2
theorem PX(l:PL)(i:Nat):XI l i=0↔QU (l.getD i ([],[]))=0∧(0<i->YJ (l.getD (i-1) ([],[])).1 (l.getD i ([],[])).1=tA):=by
 unfold XI;by_cases h:QU (l.getD i ([],[]))=0;·rw[if_pos h];by_cases h2:0<i∧YJ (l.getD (i-1) ([],[])).1 (l.getD i ([],[])).1=tJ;(·rw[if_pos h2];constructor;(·intro h;cases h);·intro h3;have:=h3.2 h2.1;rw[h2.2]at this;cases this);·rw[if_neg h2];refine⟨fun _=>⟨h,fun hi=>?_⟩,fun _=>rfl⟩;cases hk:YJ (l.getD (i-1) ([],[])).1 (l.getD i ([],[])).1with|true=>rfl|false=>exact absurd ⟨hi,hk⟩ h2
 ·rw[if_neg h];constructor;(·intro h2;exact absurd h2 h);·intro h2;exact absurd h2.1 h
theorem zU:∀l:PL,(∀i,0<i->i<l.length->YJ (l.getD (i-1) ([],[])).1 (l.getD i ([],[])).1=tA)->Um l|[],_=>rB|[_],_=>sV _ _|p::q::r,h=>by(have ih:Um (q::r):=zU (q::r) fun i h0 hi=>by have:=h (i+1) (by omega) (by simp at hi⊢;omega);rw[show i+1-1=(i-1)+1by omega]at this;simpa using this);(have h01:YJ p.1 q.1=tA:=by have:=h 1 (by omega) (by simp);simpa using this);refine tS (fun x hx=>?_) ih;rcases tW.1 hx with rfl|hx;(·exact h01);·exact Ke _ _ _ h01 ((rI.1 ih).1 x hx)
theorem UB(l:PL)(h:Um l)(i j:Nat)(hij:i<j)(hj:j<l.length):YJ (l.getD i ([],[])).1 (l.getD j ([],[])).1=tA:=by
 have:=pJ.1 h i j (by omega) hj hij;simpa[hj,show i<l.length by omega]using this
theorem YN(l:PL):QA l=0↔Zy l:=by
 constructor;·intro h;(have hl:l.length<=60:=by by_cases hl:60<l.length;(·rw[qY l hl]at h;cases h);·omega);rw[QA,if_neg (by omega)]at h;have ha:=fun j(hj:j<l.length)=>(PX l j).1 (z8 l l.length 0 h j (by omega) (by omega));refine⟨hl,fun p hp=>?_,zU l fun i h0 hi=>(ha i hi).2 h0⟩;obtain⟨i,hi,rfl⟩:=N.1 hp;have:=(Jz _).1 (ha i hi).1;simpa[hi]using this
 ·intro h;refine zB l h.room fun j hj=>(PX l j).2 ⟨(Jz _).2 ?_,fun h0=>UB l h.rises _ _ (by omega) hj⟩;have:=h.pairs l[j] (sH hj);simpa[hj]using this
theorem Oq:Zy []:=⟨by
 simp,by
 simp,rB⟩
def Rw(l:PL)(k:List UInt8):Option (List UInt8):=(l.find? fun p=>p.1==k).map (·.2)
theorem Rc(p:Pr)(l:PL)(k:List UInt8):Rw (p::l) k=if p.1=k then F p.2 else Rw l k:=by
 unfold Rw;by_cases h:p.1=k;·rw[pR (by simpa using h),if_pos h];rfl
 ·rw[pS (by simpa using h),if_neg h]
theorem IL:∀(l:PL)(k:List UInt8)(i:Nat),i<l.length->(∀j,j<i->(l.getD j ([],[])).1≠k)->(l.getD i ([],[])).1=k->Rw l k=F (l.getD i ([],[])).2|[],_,_,h,_,_=>by simp at h|p::l,k,0,_,_,h2=>by rw[Rc,if_pos (by simpa using h2)];simp|p::l,k,i+1,h,h1,h2=>by rw[Rc,if_neg (by simpa using h1 0 (by omega))];have:=IL l k i (by simpa using h) (fun j hj=>by simpa using h1 (j+1) (by omega)) (by simpa using h2);simpa using this
theorem Di:∀(l:PL)(k:List UInt8),(∀j,j<l.length->(l.getD j ([],[])).1≠k)->Rw l k=H|[],_,_=>rfl|p::l,k,h=>by rw[Rc,if_neg (by simpa using h 0 (by simp))];exact Di l k fun j hj=>by simpa using h (j+1) (by simpa using hj)
def Kc:PL->Pr->PL|[],p=>[p]|q::r,p=>if YJ q.1 p.1=tA then q::Kc r p else if q.1=p.1then p::r else p::q::r
def jU(l:PL)(k:List UInt8):PL:=l.filter fun q=>!(q.1==k)
def U9(l:PL)(a b:List UInt8):PL:=l.filter fun q=>!YJ q.1 a&&!YJ b q.1
theorem NP(l:PL)(p x:Pr):x∈Kc l p->x=p∨x∈l:=by
 induction l with|nil=>intro h;simp[Kc]at h;exact .inl h|cons q r ih=>intro h;rw[Kc]at h;by_cases h1:YJ q.1 p.1=tA;(·rw[if_pos h1]at h;rcases tW.1 h with rfl|h;(·exact .inr (by simp));·rcases ih h with h|h;(·exact .inl h);·exact .inr (tX _ h));·rw[if_neg h1]at h;by_cases h2:q.1=p.1;(·rw[if_pos h2]at h;rcases tW.1 h with h|h;(·exact .inl h);·exact .inr (tX _ h));·rw[if_neg h2]at h;rcases tW.1 h with h|h;(·exact .inl h);·exact .inr h
theorem vT(l:PL)(p:Pr)(h:Um l):Um (Kc l p):=by
 induction l with|nil=>exact sV _ _|cons q r ih=>have hr:=rI.1 h;rw[Kc];by_cases h1:YJ q.1 p.1=tA;(·rw[if_pos h1];refine tS (fun x hx=>?_) (ih hr.2);rcases NP r p x hx with rfl|hx;(·exact h1);·exact hr.1 x hx);·rw[if_neg h1];by_cases h2:q.1=p.1;(·rw[if_pos h2];exact tS (fun x hx=>by rw[<-h2];exact hr.1 x hx) hr.2);·rw[if_neg h2];have hpq:=Uv _ _ (by simpa using h1) h2;refine tS (fun x hx=>?_) h;rcases tW.1 hx with rfl|hx;(·exact hpq);·exact Ke _ _ _ hpq (hr.1 x hx)
theorem ET(l:PL)(k:List UInt8)(h:Um l):Um (jU l k):=sW _ h
theorem Co(l:PL)(a b:List UInt8)(h:Um l):Um (U9 l a b):=sW _ h
def Xa(l:PL)(k:List UInt8):Int:=if QA l=0then Qp k.length else QA l
theorem yS{l:PL}{k:List UInt8}(h:Xa l k=0):Zy l:=by
 unfold Xa at h;by_cases h0:QA l=0;·exact(YN l).1 h0
 ·rw[if_neg h0]at h;exact absurd h h0
theorem Zu(n:Nat):Qp n=0↔1<=n∧n<=16:=by
 unfold Qp;by_cases h:1<=n∧n<=16;·rw[if_pos h];exact⟨fun _=>h,fun _=>rfl⟩
 ·rw[if_neg h];constructor;(·intro h2;cases h2);·intro h2;exact absurd h2 h
theorem IV{l:PL}{k:List UInt8}(h:Xa l k=0):1<=k.length∧k.length<=16:=by
 have ht:=(YN l).2 (yS h);unfold Xa at h;rw[if_pos ht]at h;exact(Zu _).1 h
theorem vL{l:PL}{k:List UInt8}(h:Zy l)(hk:1<=k.length∧k.length<=16):Xa l k=0:=by
 unfold Xa;rw[if_pos ((YN l).2 h)];exact(Zu _).2 hk
def Rv(l:PL)(k:List UInt8):Bool:=Xa l k==0&&(Rw l k).isSome
def Rx(l:PL)(k:List UInt8):List UInt8:=if Xa l k=0then(Rw l k).getD []else[]
def zK(l:PL)(k:List UInt8):PL:=if Xa l k=0then jU l k else[]
theorem So(l:PL)(k:List UInt8):(jU l k).length<=l.length:=sZ _ _
def Yy(l:PL)(f t:List UInt8):Int:=if Xa l f=0then Qp t.length else Xa l f
theorem Ba{l:PL}{f t:List UInt8}(h:Yy l f t=0):Xa l f=0:=by
 unfold Yy at h;by_cases h0:Xa l f=0;·exact h0
 ·rw[if_neg h0]at h;exact absurd h h0
def KM(l:PL)(f t:List UInt8):PL:=if Yy l f t=0then U9 l f t else[]
theorem Hw(l:PL)(f t:List UInt8):(U9 l f t).length<=l.length:=sZ _ _
def VV(l:PL)(p:Pr):Int:=if QA l=0then QU p else QA l
def Ki(l:PL)(p:Pr):Int:=if VV l p=0then(if 60<(Kc l p).length then 11 else 0)else VV l p
def Vi(l:PL)(p:Pr):PL:=if Ki l p=0then Kc l p else[]
theorem bV(l:PL)(p:Pr):(Kc l p).length<=l.length+1:=by
 induction l with|nil=>simp[Kc]|cons q r ih=>rw[Kc];by_cases h1:YJ q.1 p.1=tA;(·rw[if_pos h1];simp;omega);·rw[if_neg h1];by_cases h2:q.1=p.1;(·rw[if_pos h2];simp);·rw[if_neg h2];simp
structure kP (l : PL) : Prop where
  many : l.length * 48 <= 140737488355328
  each : ∀ i, i < l.length -> (l.getD i ([], [])).1.length <= 140737488355328 ∧ (l.getD i ([], [])).2.length <= 140737488355328
theorem kP.len{l:PL}(h:kP l):l.length<=140737488355328:=by
 have:=h.many;omega
theorem Zy.fits{l:PL}(h:Zy l):kP l:=by
 refine⟨by have:=h.room;omega,fun i hi=>?_⟩;have:=h.pairs l[i] (sH hi);rw[show l[i]=l.getD i ([],[])by simp[hi]]at this;omega
abbrev Tn:=List UInt8×PL
abbrev FL:=List Tn
def YA(l:FL):Prop:=l.Pairwise fun p q=>YJ p.1 q.1=tA
def zV(l:FL)(k:List UInt8):Option PL:=(l.find? fun p=>p.1==k).map (·.2)
theorem jW(p:Tn)(l:FL)(k:List UInt8):zV (p::l) k=if p.1=k then F p.2 else zV l k:=by
 unfold zV;by_cases h:p.1=k;·rw[pR (by simpa using h),if_pos h];rfl
 ·rw[pS (by simpa using h),if_neg h]
theorem Cf:∀(l:FL)(k:List UInt8)(i:Nat),i<l.length->(∀j,j<i->(l.getD j ([],[])).1≠k)->(l.getD i ([],[])).1=k->zV l k=F (l.getD i ([],[])).2|[],_,_,h,_,_=>by simp at h|p::l,k,0,_,_,h2=>by rw[jW,if_pos (by simpa using h2)];simp|p::l,k,i+1,h,h1,h2=>by rw[jW,if_neg (by simpa using h1 0 (by omega))];have:=Cf l k i (by simpa using h) (fun j hj=>by simpa using h1 (j+1) (by omega)) (by simpa using h2);simpa using this
theorem Ty:∀(l:FL)(k:List UInt8),(∀j,j<l.length->(l.getD j ([],[])).1≠k)->zV l k=H|[],_,_=>rfl|p::l,k,h=>by rw[jW,if_neg (by simpa using h 0 (by simp))];exact Ty l k fun j hj=>by simpa using h (j+1) (by simpa using hj)
def Jp:FL->Tn->FL|[],p=>[p]|q::r,p=>if YJ q.1 p.1=tA then q::Jp r p else if q.1=p.1then p::r else p::q::r
def kA(l:FL)(k:List UInt8):FL:=l.filter fun q=>!(q.1==k)
theorem Eh(l:FL)(p x:Tn):x∈Jp l p->x=p∨x∈l:=by
 induction l with|nil=>intro h;simp[Jp]at h;exact .inl h|cons q r ih=>intro h;rw[Jp]at h;by_cases h1:YJ q.1 p.1=tA;(·rw[if_pos h1]at h;rcases tW.1 h with rfl|h;(·exact .inr (by simp));·rcases ih h with h|h;(·exact .inl h);·exact .inr (tX _ h));·rw[if_neg h1]at h;by_cases h2:q.1=p.1;(·rw[if_pos h2]at h;rcases tW.1 h with h|h;(·exact .inl h);·exact .inr (tX _ h));·rw[if_neg h2]at h;rcases tW.1 h with h|h;(·exact .inl h);·exact .inr h
theorem MI(l:FL)(p:Tn)(h:YA l):YA (Jp l p):=by
 induction l with|nil=>exact sV _ _|cons q r ih=>have hr:=rI.1 h;rw[Jp];by_cases h1:YJ q.1 p.1=tA;(·rw[if_pos h1];refine tS (fun x hx=>?_) (ih hr.2);rcases Eh r p x hx with rfl|hx;(·exact h1);·exact hr.1 x hx);·rw[if_neg h1];by_cases h2:q.1=p.1;(·rw[if_pos h2];exact tS (fun x hx=>by rw[<-h2];exact hr.1 x hx) hr.2);·rw[if_neg h2];have hpq:=Uv _ _ (by simpa using h1) h2;refine tS (fun x hx=>?_) h;rcases tW.1 hx with rfl|hx;(·exact hpq);·exact Ke _ _ _ hpq (hr.1 x hx)
theorem Ch(l:FL)(k:List UInt8)(h:YA l):YA (kA l k):=sW _ h
theorem Hr(l:FL)(p:Tn):(Jp l p).length<=l.length+1:=by
 induction l with|nil=>simp[Jp]|cons q r ih=>rw[Jp];by_cases h1:YJ q.1 p.1=tA;(·rw[if_pos h1];simp;omega);·rw[if_neg h1];by_cases h2:q.1=p.1;(·rw[if_pos h2];simp);·rw[if_neg h2];simp
theorem E5(l:FL)(k:List UInt8):(kA l k).length<=l.length:=sZ _ _
def Qt(n:Nat):Int:=if 1<=n∧n<=8then 0 else 1
theorem Zw(n:Nat):Qt n=0↔1<=n∧n<=8:=by
 unfold Qt;by_cases h:1<=n∧n<=8;·rw[if_pos h];exact⟨fun _=>h,fun _=>rfl⟩
 ·rw[if_neg h];constructor;(·intro h2;cases h2);·intro h2;exact absurd h2 h
def Xz(t:Tn):Int:=if Qt t.1.length=0then(if t.2.length=0then 4 else QA t.2)else Qt t.1.length
theorem vJ(t:Tn):Xz t=0↔(1<=t.1.length∧t.1.length<=8)∧t.2≠[]∧Zy t.2:=by
 unfold Xz;by_cases h:Qt t.1.length=0;·rw[if_pos h];by_cases h2:t.2.length=0;(·rw[if_pos h2];constructor;(·intro h3;cases h3);·intro h3;exact absurd (tI h2) h3.2.1);·rw[if_neg h2,YN];exact⟨fun h3=>⟨(Zw _).1 h,fun e=>h2 (by rw[e];rfl),h3⟩,fun h3=>h3.2.2⟩
 ·rw[if_neg h];constructor;(·intro h2;exact absurd h2 h);·intro h2;exact absurd ((Zw _).2 h2.1) h
def Kl(l:FL)(i:Nat):Int:=if Xz (l.getD i ([],[]))=0then(if 0<i∧YJ (l.getD (i-1) ([],[])).1 (l.getD i ([],[])).1=tJ then 3 else 0)else Xz (l.getD i ([],[]))
def Vs(l:FL):Nat->Nat->Int|0,_=>0|n+1,i=>if Kl l i=0then Vs l n (i+1)else Kl l i
def Q7(l:FL):Int:=if 8<l.length then 1 else Vs l l.length 0
theorem jB(l:FL)(n i:Nat)(hi:i<=n)(h:∀j,j<i->Kl l j=0):Vs l n 0=Vs l (n-i) i:=by
 induction i with|zero=>rfl|succ i ih=>rw[ih (by omega) (fun j hj=>h j (by omega)),show n-i=(n-(i+1))+1by omega,Vs,if_pos (h i (by omega))]
theorem Rf(l:FL)(i:Nat)(hi:i<l.length)(hl:l.length<=8)(h:∀j,j<i->Kl l j=0)(hf:Kl l i≠0):Q7 l=Kl l i:=by
 rw[Q7,if_neg (by omega),jB l _ i (by omega) h,show l.length-i=(l.length-(i+1))+1by omega,Vs,if_neg hf]
theorem uC(l:FL)(hl:l.length<=8)(h:∀j,j<l.length->Kl l j=0):Q7 l=0:=by
 rw[Q7,if_neg (by omega),jB l _ l.length (tZ _) h,oR,Vs]
theorem vE(l:FL)(hl:8<l.length):Q7 l=1:=by
 rw[Q7,if_pos hl]
theorem vA(l:FL):∀(n i:Nat),Vs l n i=0->∀j,i<=j->j<i+n->Kl l j=0|0,i,_,j,h1,h2=>by omega|n+1,i,h,j,h1,h2=>by rw[Vs]at h;by_cases e:Kl l i=0;(·rw[if_pos e]at h;by_cases hj:j=i;(·subst hj;exact e);·exact vA l n (i+1) h j (by omega) (by omega));·rw[if_neg e]at h;exact absurd h e
theorem Ea(l:FL)(i:Nat):Kl l i=0↔Xz (l.getD i ([],[]))=0∧(0<i->YJ (l.getD (i-1) ([],[])).1 (l.getD i ([],[])).1=tA):=by
 unfold Kl;by_cases h:Xz (l.getD i ([],[]))=0;·rw[if_pos h];by_cases h2:0<i∧YJ (l.getD (i-1) ([],[])).1 (l.getD i ([],[])).1=tJ;(·rw[if_pos h2];constructor;(·intro h;cases h);·intro h3;have:=h3.2 h2.1;rw[h2.2]at this;cases this);·rw[if_neg h2];refine⟨fun _=>⟨h,fun hi=>?_⟩,fun _=>rfl⟩;cases hk:YJ (l.getD (i-1) ([],[])).1 (l.getD i ([],[])).1with|true=>rfl|false=>exact absurd ⟨hi,hk⟩ h2
 ·rw[if_neg h];constructor;(·intro h2;exact absurd h2 h);·intro h2;exact absurd h2.1 h
theorem GW:∀l:FL,(∀i,0<i->i<l.length->YJ (l.getD (i-1) ([],[])).1 (l.getD i ([],[])).1=tA)->YA l|[],_=>rB|[_],_=>sV _ _|p::q::r,h=>by(have ih:YA (q::r):=GW (q::r) fun i h0 hi=>by have:=h (i+1) (by omega) (by simp at hi⊢;omega);rw[show i+1-1=(i-1)+1by omega]at this;simpa using this);(have h01:YJ p.1 q.1=tA:=by have:=h 1 (by omega) (by simp);simpa using this);refine tS (fun x hx=>?_) ih;rcases tW.1 hx with rfl|hx;(·exact h01);·exact Ke _ _ _ h01 ((rI.1 ih).1 x hx)
theorem qO(l:FL)(h:YA l)(i j:Nat)(hij:i<j)(hj:j<l.length):YJ (l.getD i ([],[])).1 (l.getD j ([],[])).1=tA:=by
 have:=pJ.1 h i j (by omega) hj hij;simpa[hj,show i<l.length by omega]using this
structure Xo(l:FL):Prop where room:l.length<=8tens:∀t∈l,(1<=t.1.length∧t.1.length<=8)∧t.2≠[]∧Zy t.2rises:YA l
theorem XY(l:FL):Q7 l=0↔Xo l:=by
 constructor;·intro h;(have hl:l.length<=8:=by by_cases hl:8<l.length;(·rw[vE l hl]at h;cases h);·omega);rw[Q7,if_neg (by omega)]at h;have ha:=fun j(hj:j<l.length)=>(Ea l j).1 (vA l l.length 0 h j (by omega) (by omega));refine⟨hl,fun p hp=>?_,GW l fun i h0 hi=>(ha i hi).2 h0⟩;obtain⟨i,hi,rfl⟩:=N.1 hp;have:=(vJ _).1 (ha i hi).1;simpa[hi]using this
 ·intro h;refine uC l h.room fun j hj=>(Ea l j).2 ⟨(vJ _).2 ?_,fun h0=>qO l h.rises _ _ (by omega) hj⟩;have:=h.tens l[j] (sH hj);simpa[hj]using this
theorem qE:Xo []:=⟨by
 simp,by
 simp,rB⟩
def Jf(l:FL)(n:List UInt8):PL:=(zV l n).getD []
theorem eG(n:List UInt8):Jf [] n=[]:=rfl
theorem Ub{l:FL}(h:Xo l)(n:List UInt8):Zy (Jf l n):=by
 unfold Jf zV;cases hf:l.find? (fun p=>p.1==n)with|none=>exact Oq|some t=>exact(h.tens t (List.mem_of_find?_eq_some hf)).2.2
def QC(w:Ze):Int:=if Qt w.name.length=0then(if w.gone=tA then(if Qp w.key.length=0then(if 0<w.value.length then 4 else 0)else Qp w.key.length)else QU (w.key,w.value))else Qt w.name.length
def Yu(l:FL)(w:Ze):PL:=if w.gone=tA then jU (Jf l w.name) w.key else Kc (Jf l w.name) (w.key,w.value)
def G3(l:FL)(w:Ze):Int:=if w.gone=tA then Xa (Jf l w.name) w.key else Ki (Jf l w.name) (w.key,w.value)
def Zr(l:FL)(w:Ze):FL:=if(Yu l w).length=0then kA l w.name else Jp l (w.name,Yu l w)
def Yx(l:FL)(w:Ze):Int:=if G3 l w=0then(if 8<(Zr l w).length then 11 else 0)else G3 l w
def Xc:FL->List Ze->Int|_,[]=>0|l,w::ws=>if QC w=0then(if Yx l w=0then Xc (Zr l w) ws else Yx l w)else QC w
def Jq:FL->List Ze->FL|l,[]=>l|l,w::ws=>Jq (Zr l w) ws
def QZ(l:FL)(ws:List Ze):Int:=if Q7 l=0then(if 10<ws.length then 1 else Xc l ws)else Q7 l
def Xt(l:FL)(ws:List Ze):FL:=if QZ l ws=0then Jq l ws else[]
theorem XJ(w:Ze):QC w=0↔(1<=w.name.length∧w.name.length<=8)∧(1<=w.key.length∧w.key.length<=16)∧(if w.gone=tA then w.value=[]else w.value.length<=32):=by
 unfold QC;by_cases hn:Qt w.name.length=0;·rw[if_pos hn];have hn':=(Zw _).1 hn;by_cases hg:w.gone=tA;(·rw[if_pos hg,if_pos hg];by_cases hk:Qp w.key.length=0;(·rw[if_pos hk];have hk':=(Zu _).1 hk;by_cases hv:0<w.value.length;(·rw[if_pos hv];constructor;(·intro h;cases h);·intro h;rw[h.2.2]at hv;simp at hv);·rw[if_neg hv];exact⟨fun _=>⟨hn',hk',tI (by omega)⟩,fun _=>rfl⟩);·rw[if_neg hk];constructor;(·intro h;exact absurd h hk);·intro h;exact absurd ((Zu _).2 h.2.1) hk);·rw[if_neg hg,if_neg hg,Jz];exact⟨fun h=>⟨hn',h.1,h.2⟩,fun h=>⟨h.2.1,h.2.2⟩⟩
 ·rw[if_neg hn];constructor;(·intro h;exact absurd h hn);·intro h;exact absurd ((Zw _).2 h.1) hn
theorem WX{l:FL}(h:Xo l){w:Ze}(hw:QC w=0)(he:G3 l w=0):Zy (Yu l w):=by
 obtain⟨_,hk,hv⟩:=(XJ w).1 hw;have hT:=Ub h w.name;unfold Yu;unfold G3 at he;by_cases hg:w.gone=tA;·rw[if_pos hg];exact⟨rF (So _ _) hT.room,fun p hp=>hT.pairs p (pE.1 hp).1,ET _ _ hT.rises⟩
 ·rw[if_neg hg]at he hv⊢;(have h60:¬60<(Kc (Jf l w.name) (w.key,w.value)).length:=by intro h60;unfold Ki at he;by_cases h0:VV (Jf l w.name) (w.key,w.value)=0;(·rw[if_pos h0,if_pos h60]at he;cases he);·rw[if_neg h0]at he;exact h0 he);refine⟨by omega,fun q hq=>?_,vT _ _ hT.rises⟩;rcases NP _ _ q hq with rfl|hq;(·exact⟨hk,hv⟩);·exact hT.pairs q hq
theorem Rt{l:FL}(h:YA l)(w:Ze):YA (Zr l w):=by
 unfold Zr;by_cases hn:(Yu l w).length=0;·rw[if_pos hn];exact Ch _ _ h
 ·rw[if_neg hn];exact MI _ _ h
theorem xZ{l:FL}(h:Xo l){w:Ze}(hw:QC w=0)(he:Yx l w=0):Xo (Zr l w):=by
 have hE:G3 l w=0:=by by_cases h0:G3 l w=0;(·exact h0);·unfold Yx at he;rw[if_neg h0]at he;exact absurd he h0
 have hl:(Zr l w).length<=8:=by unfold Yx at he;rw[if_pos hE]at he;by_cases h8:8<(Zr l w).length;(·rw[if_pos h8]at he;cases he);·omega
 obtain⟨hn,_,_⟩:=(XJ w).1 hw;refine⟨hl,fun t ht=>?_,Rt h.rises w⟩;unfold Zr at ht;by_cases h0:(Yu l w).length=0;·rw[if_pos h0]at ht;exact h.tens t (pE.1 ht).1
 ·rw[if_neg h0]at ht;rcases Eh _ _ t ht with rfl|ht;(·exact⟨hn,fun e=>h0 (by rw[show Yu l w=[]from e];rfl),WX h hw hE⟩);·exact h.tens t ht
theorem En(t:PL)(p:Pr)(h:∀q∈t,(1<=q.1.length∧q.1.length<=16)∧q.2.length<=32)(hp:(1<=p.1.length∧p.1.length<=16)∧p.2.length<=32):∀q∈Kc t p,(1<=q.1.length∧q.1.length<=16)∧q.2.length<=32:=by
 intro q hq;rcases NP t p q hq with rfl|hq;·exact hp
 ·exact h q hq
theorem S8:∀(t:PL)(p:Pr)(k:Nat),k<=t.length->(∀j,j<k->YJ (t.getD j ([],[])).1 p.1=tA)->(k<t.length->YJ (t.getD k ([],[])).1 p.1=tJ)->Kc t p=if k<t.length∧(t.getD k ([],[])).1=p.1then t.set k p else t.take k++([p]++t.drop k)|[],p,k,hk,_,_=>by(obtain rfl:k=0:=by simpa using hk);simp[Kc]|q::r,p,0,_,_,h2=>by have h:=h2 (by simp);simp only[tV]at h;rw[Kc,if_neg (by rw[h];simp)];by_cases e:q.1=p.1;(·rw[if_pos e,if_pos ⟨by simp,by simpa using e⟩];simp);·rw[if_neg e,if_neg (fun h=>e (by simpa using h.2))];simp|q::r,p,k+1,hk,h1,h2=>by have h:=h1 0 (by omega);simp only[tV]at h;rw[Kc,if_pos h,S8 r p k (by simpa using hk) (fun j hj=>by simpa using h1 (j+1) (by omega)) (fun hk=>by simpa using h2 (by simpa using hk))];by_cases e:k<r.length∧(r.getD k ([],[])).1=p.1;(·rw[if_pos e,if_pos ⟨by simpa using e.1,by simpa using e.2⟩];simp);·rw[if_neg e,if_neg (fun h=>e ⟨by simpa using h.1,by simpa using h.2⟩)];simp
theorem aR(t:PL)(p:Pr)(h:Zy t)(hp:(1<=p.1.length∧p.1.length<=16)∧p.2.length<=32)(hl:t.length<60):Ki t p=0∧Vi t p=Kc t p∧Zy (Kc t p):=by
 have h0:VV t p=0:=by rw[VV,if_pos ((YN t).2 h)];exact(Jz p).2 hp
 have hlen:=bV t p;have h1:Ki t p=0:=by rw[Ki,if_pos h0,if_neg (by omega)]
 exact⟨h1,by rw[Vi,if_pos h1],⟨by omega,En t p h.pairs hp,vT t p h.rises⟩⟩
def Oa(m:Nat)(l:FL):Prop:=∀n,(Jf l n).length<=m
theorem Hg:Oa 0 []:=fun n=>by
 rw[eG];simp
theorem cX{l:FL}{m:Nat}(h:Xo l){w:Ze}(hw:QC w=0)(hs:Oa m l)(hm:m<60):G3 l w=0:=by
 obtain⟨_,hk,hv⟩:=(XJ w).1 hw;have hT:=Ub h w.name;have hl:=hs w.name;unfold G3;by_cases hg:w.gone=tA;·rw[if_pos hg];exact vL hT hk
 ·rw[if_neg hg]at hv⊢;exact(aR _ _ hT ⟨hk,hv⟩ (by omega)).1
theorem FX{l:FL}{m:Nat}(h:Xo l){w:Ze}(hw:QC w=0)(hs:Oa m l)(hm:m<60):Yx l w=if 8<(Zr l w).length then 11 else 0:=by
 rw[Yx,if_pos (cX h hw hs hm)]
theorem MZ(l:FL)(w:Ze):(Zr l w).length<=l.length+1:=by
 unfold Zr;by_cases hn:(Yu l w).length=0;·rw[if_pos hn];have:=E5 l w.name;omega
 ·rw[if_neg hn];exact Hr _ _
theorem uW:∀(ws:List Ze)(l:FL),Xo l->Xc l ws=0->Xo (Jq l ws)|[],l,h,_=>h|w::ws,l,h,he=>by rw[Xc]at he;by_cases hw:QC w=0;(·rw[if_pos hw]at he;by_cases h2:Yx l w=0;(·rw[if_pos h2]at he;exact uW ws _ (xZ h hw h2) he);·rw[if_neg h2]at he;exact absurd he h2);·rw[if_neg hw]at he;exact absurd he hw
theorem vK(p:Ze):QZ [] [p]=QC p:=by
 have h0:Q7 []=0:=(XY []).2 qE;rw[QZ,if_pos h0,if_neg (by simp),Xc];by_cases h:QC p=0;·have h2:=FX qE h Hg (by omega);have h3:(Zr [] p).length<=1:=MZ [] p;rw[if_neg (by omega)]at h2;rw[if_pos h,if_pos h2,Xc,h]
 ·rw[if_neg h]
theorem F0(w:I):(sizeOf (L.elem 47)).run L w=.ok 1 w:=by
 kernel_rfl
theorem Qe.cap{w:I}{a:Option rS}{n cap:Nat}{bs:List UInt8}(h:Qe w (O a n cap) bs):bs.length<=cap∧n=bs.length:=by
 obtain⟨a',cap',e,hc,_⟩:=h;simp only[sB]at e;obtain⟨_,rfl,rfl⟩:=e;exact⟨hc,rfl⟩
theorem Qe.byte{w:I}{a:Option rS}{n cap:Nat}{bs:List UInt8}(h:Qe w (O a n cap) bs)(i:Nat)(hi:i<bs.length):∃b o,a=F ⟨b,o,H⟩∧KH w b o bs:=by
 obtain⟨a',cap',e,hc,h⟩:=h;simp only[sB]at e;obtain⟨rfl,rfl,rfl⟩:=e;rcases h with⟨rfl,_⟩|⟨b,o,rfl,h⟩;·simp at hi
 ·exact⟨b,o,rfl,h⟩
theorem Qe.sliced{w:I}{a:Option rS}{cap:Nat}{l:List UInt8}(h:Qe w (O a l.length cap) l)(i j:Nat)(hij:i<=j)(hj:j<=l.length):Qe w (rC a i j cap 1) ((l.take j).drop i):=by
 obtain⟨a',cap',e,hc,h⟩:=h;simp only[sB,true_and]at e;obtain⟨rfl,rfl⟩:=e;have hlen:((l.take j).drop i).length=j-i:=by simp;omega
 refine⟨if cap=i then a else a.map (·.add (i*1)),cap-i,by rw[hlen];rfl,by rw[hlen];omega,?_⟩;by_cases hci:cap=i;·left;exact⟨tI (by rw[hlen];omega),fun _=>by omega⟩
 ·rw[if_neg hci];rcases h with⟨rfl,h⟩|⟨b,o,rfl,h⟩;(·left;refine⟨by simp,fun e=>?_⟩;cases a with|none=>have:=h rfl;simp at hj;omega|some x=>cases e);·right;refine⟨b,o+i,by simp[Z4],fun k hk=>?_⟩;rw[hlen]at hk;have:=h (i+k) (by omega);(have e:((l.take j).drop i).getD k 0=l.getD (i+k) 0:=by simp[show i+k<j by omega]);rw[e,show o+i+k=o+(i+k)by omega];exact this
theorem zS(a:Option rS)(cap:Nat)(l:List UInt8)(n:Nat)(hn:n<=l.length)(hc:l.length<=cap):∃a1 c1,(∀W,(rW 47 (O a l.length cap) H (F (V sL (n:Int))) H).run L W=.ok (O a1 n c1) W)∧∀W,Qe W (O a l.length cap) l->Qe W (O a1 n c1) (l.take n):=by
 refine⟨if cap=0then a else a.map (·.add (0*1)),cap-0,fun W=>?_,fun W h=>?_⟩;·rw[run_slice_h _ _ _ _ _ (by kernel_rfl) _ _ (by omega) (by omega),F0];simp only[sU,rC,sG,oS]
 ·have:=h.sliced 0 n (by omega) hn;simpa only[rC,List.drop_zero,oS]using this
theorem GH(a:Option rS)(cap:Nat)(l:List UInt8)(i j:Nat)(hij:i<=j)(hj:j<=l.length)(hc:l.length<=cap):∃a1 c1,(∀W,(rW 47 (O a l.length cap) (F (V sL (i:Int))) (F (V sL (j:Int))) H).run L W=.ok (O a1 (j-i) c1) W)∧∀W,Qe W (O a l.length cap) l->Qe W (O a1 (j-i) c1) ((l.take j).drop i):=by
 refine⟨if cap=i then a else a.map (·.add (i*1)),cap-i,fun W=>?_,fun W h=>?_⟩;·rw[run_slice_lh _ _ _ _ _ (by kernel_rfl) _ _ _ _ (by omega) (by omega) (by omega),F0];simp only[sU,rC,sG]
 ·have:=h.sliced i j hij hj;simpa only[rC]using this
theorem VN(a:Option rS)(cap:Nat)(l:List UInt8)(n:Nat)(hn:n<=l.length):∃a1 c1,(∀W,(rW 47 (O a l.length cap) (F (V sL (n:Int))) H H).run L W=.ok (O a1 (l.length-n) c1) W)∧∀W,Qe W (O a l.length cap) l->Qe W (O a1 (l.length-n) c1) (l.drop n):=by
 refine⟨if cap=n then a else a.map (·.add (n*1)),cap-n,fun W=>?_,fun W h=>?_⟩;·rw[run_slice_l _ _ _ _ _ (by kernel_rfl) _ _ (by omega) (by omega),F0];simp only[sU,rC,sG]
 ·have:=h.sliced n l.length hn (tZ _);simpa only[rC,List.take_length]using this
def Nj:Prop:=∀(w:I)(v:T)(bs:List UInt8)(i:Int),Qe w v bs->rO L 147 #[v,V sL i] w fun e w'=>e=tY (pB #[oF (Bz bs i).1,V sL (Bz bs i).2])∧J w w' H
theorem Nj.of(hB:Nj)(w:I)(v:T)(k:List UInt8)(i:Nat)(hv:Qe w v k)(hk:1<=k.length∧k.length<=16)(hi:i<145):rO L 147 #[v,V sL (i:Int)] w fun e w'=>e=tY (pB #[oF (ZP k i),V sL 0])∧J w w' H:=by
 have:=hB w v k i hv;rw[bK k i hk hi]at this;exact this
def FA:Prop:=∀(w:I)(a:Option rS)(n cap:Nat),rO L 54 #[O a n cap] w fun e w'=>e=tY (V sL (Qp n))∧J w w' H
theorem YM:FA:=by
 intro w a n cap;by_cases h1:1<=n;·by_cases h2:n<=16;(·rw[Qp,if_pos ⟨h1,h2⟩];(have t1:¬(n:Int)<1:=by omega);(have t2:¬(n:Int)>16:=by omega);go_enter pV,pL;go_wp2;go_ret;exact⟨rfl,Qb _ _⟩);·rw[Qp,if_neg (by omega)];(have t1:¬(n:Int)<1:=by omega);(have t2:(n:Int)>16:=by omega);go_enter pV,pL;go_wp2;go_ret;exact⟨rfl,Qb _ _⟩
 ·rw[Qp,if_neg (by omega)];(have t1:(n:Int)<1:=by omega);go_enter pV,pL;go_wp2;go_ret;exact⟨rfl,Qb _ _⟩
def Zi(k:List UInt8)(p:Nat):Nat:=if p<k.length then 256|||(k.getD p 0).toNat else 0
theorem eV:∀c:Fin 256,256|||c.val=256+c.val:=by
 decide+kernel
theorem UA(k:List UInt8)(p:Nat):Zi k p<512:=by
 unfold Zi;by_cases h:p<k.length;·rw[if_pos h];have:=eV ⟨(k.getD p 0).toNat,(k.getD p 0).toNat_lt⟩;have:=(k.getD p 0).toNat_lt;simp only at*;omega
 ·rw[if_neg h];decide
theorem KO(k:List UInt8)(i:Nat):ZP k i=(Zi k (i/9)).testBit (8-i%9):=by
 unfold ZP Zi;by_cases h:i/9<k.length;·rw[if_pos h,if_pos h];by_cases h0:i%9=0;(·rw[if_pos h0,h0,oN];simp;left;decide);·rw[if_neg h0,oN,show Nat.testBit 256 (8-i%9)=tJ from ?_,Bool.false_or];(have hj:8-i%9<8:=by omega);generalize 8-i%9=j at hj;revert hj;revert j;decide
 ·rw[if_neg h,if_neg h];simp
theorem uE(x:Nat)(h:x<65536):rT.wrap (x:Int)=(x:Int):=by
 rw[oY];omega
theorem eQ(x y:Nat)(hx:x<65536)(hy:y<65536):bits .or .u16 (x:Int) (y:Int)=((x|||y:Nat):Int):=by
 show rT.wrap ((tK 16 (x:Int)|||tK 16 (y:Int)).toNat:Int)=_;rw[tR,tR,BitVec.toNat_or,sA,sA,sQ (by omega),sQ (by omega),uE];exact Nat.or_lt_two_pow (n:=16) hx hy
theorem bE(x y:Nat)(hx:x<65536)(hy:y<65536):bits .xor .u16 (x:Int) (y:Int)=((x^^^y:Nat):Int):=by
 show rT.wrap ((tK 16 (x:Int)^^^tK 16 (y:Int)).toNat:Int)=_;rw[tR,tR,BitVec.toNat_xor,sA,sA,sQ (by omega),sQ (by omega),uE];exact Nat.xor_lt_two_pow (n:=16) hx hy
theorem Ir(x:Nat)(hx:x<65536):bits .and .u16 (x:Int) 1=((x%2:Nat):Int):=by
 show rT.wrap ((tK 16 (x:Int)&&&tK 16 ((1:Nat):Int)).toNat:Int)=_;rw[tR,tR,oE,sA,sA,sQ (by omega),sQ (by omega),Nat.and_one_is_mod,uE];omega
theorem Pd(w:I)(v:T)(bs:List UInt8)(p:Nat)(hv:Qe w v bs):rO L 157 #[v,V sL (p:Int)] w fun e w'=>e=tY (V .u16 (Zi bs p))∧J w w' H:=by
 obtain⟨a,cap,rfl,hc,hrest⟩:=hv;by_cases hp:p<bs.length;·rw[Zi,if_pos hp];rcases hrest with⟨h0,_⟩|⟨b,o,rfl,hcell⟩;(·rw[h0]at hp;cases hp);(have t1:¬(p:Int)>=(bs.length:Int):=by omega);have c0:=hcell p hp;go_enter oQ,oO;go_wp2;go_ret;refine⟨congrArg tY (congrArg (V rT) ?_),Qb _ _⟩;have hb:=(bs[p]).toNat_lt;generalize(bs[p]).toNat=c at hb⊢;rw[uE c (by omega),show(256:Int)=((256:Nat):Int)from rfl,eQ 256 c (by omega) (by omega)]
 ·rw[Zi,if_neg hp];(have t1:(p:Int)>=(bs.length:Int):=by omega);go_enter oQ,oO;go_wp2;go_ret;exact⟨rfl,Qb _ _⟩
theorem Bf:Nj:=by
 intro w v bs i hv;obtain⟨a,cap,rfl,hc,hrest⟩:=hv;have hv:Qe w (O a bs.length cap) bs:=⟨a,cap,rfl,hc,hrest⟩;clear hrest;by_cases hk:1<=bs.length∧bs.length<=16;·by_cases hi:0<=i∧i<=144;(·rw[Bz,if_pos hk,if_pos hi];obtain⟨n,rfl⟩:∃n:Nat,i=(n:Int):=⟨i.toNat,by omega⟩;(have t1:¬(n:Int)<0:=by omega);(have t2:¬(n:Int)>=145:=by omega);go_enter pM,pK;go_wp2_with fail;refine(YM _ _ _ _).mono ?_;rintro e w1⟨rfl,hg1⟩;rw[Qp,if_pos hk];go_wp2_with fail;refine(Pd _ _ _ (n/9) (hv.grown hg1)).mono ?_;rintro e w2⟨rfl,hg2⟩;have hgn:=UA bs (n/9);have HB:Hid (ZP bs n=(Zi bs (n/9)).testBit (8-n%9)):=KO bs n;generalize Zi bs (n/9)=g at hgn HB⊢;(have q1:0<=(8:Int)-(n:Int)%9:=by omega);go_wp2;go_ret2;refine⟨?_,Qa hg1 hg2⟩;(have he:(g:Int)/2^(8-n%9)=((g/2^(8-n%9):Nat):Int):=by simp);have hlt:g/2^(8-n%9)<65536:=Nat.lt_of_le_of_lt (Nat.div_le_self _ _) (by omega);rw[he,Ir _ hlt,show ZP bs ((n:Int)).toNat=ZP bs n from rfl,HB.out,pC];congr 4;generalize g/2^(8-n%9)%2=x;by_cases hx:x=1;(·subst hx;rfl);·(have:¬(x:Int)=1:=by omega);simp[hx,this]);·rw[Bz,if_pos hk,if_neg hi];go_enter pM,pK;go_wp2_with fail;refine(YM _ _ _ _).mono ?_;rintro e w1⟨rfl,hg1⟩;rw[Qp,if_pos hk];by_cases h0:i<0;(·go_wp2;go_ret2;exact⟨rfl,hg1⟩);·(have h1:i>=145:=by omega);go_wp2;go_ret2;exact⟨rfl,hg1⟩
 ·rw[Bz,if_neg hk];go_enter pM,pK;go_wp2_with fail;refine(YM _ _ _ _).mono ?_;rintro e w1⟨rfl,hg1⟩;rw[Qp,if_neg hk];go_wp2;go_ret2;exact⟨rfl,hg1⟩
def U(x:BitVec 64):Int:=(x.toNat:Int)
theorem yM(x:BitVec 64):tK 64 (U x)=x:=by
 unfold U;rw[tR];simp
theorem jX(x:BitVec 64):rH.wrap (x.toNat:Int)=U x:=by
 rw[r8];unfold U;have:=x.isLt;omega
theorem Zn(x y:BitVec 64):bits .xor .u64 (U x) (U y)=U (x^^^y):=by
 show rH.wrap ((tK 64 (U x)^^^tK 64 (U y)).toNat:Int)=_;rw[yM,yM,jX]
theorem Ex(x y:BitVec 64):bits .or .u64 (U x) (U y)=U (x|||y):=by
 show rH.wrap ((tK 64 (U x)|||tK 64 (U y)).toNat:Int)=_;rw[yM,yM,jX]
theorem Kx(x y:BitVec 64):bits .andNot .u64 (U x) (U y)=U (x&&&~~~y):=by
 show rH.wrap ((tK 64 (U x)&&&~~~tK 64 (U y)).toNat:Int)=_;rw[yM,yM,jX]
theorem JQ(x:BitVec 64)(k:Nat):rH.wrap (U x*2^k)=U (x<<<k):=by
 rw[r8];unfold U;rw[BitVec.toNat_shiftLeft,Nat.shiftLeft_eq];have e:((x.toNat:Int)*2^k)=((x.toNat*2^k:Nat):Int):=by simp
 rw[e];omega
theorem E7(x:BitVec 64)(k:Nat):U x/2^k=U (x>>>k):=by
 unfold U;rw[BitVec.toNat_ushiftRight,Nat.shiftRight_eq_div_pow];simp
theorem fR(k:Int)(h0:0<=k)(h:k<64):bits .and .u64 k 63=k:=by
 obtain⟨n,rfl⟩:=Int.eq_ofNat_of_zero_le h0;show rH.wrap ((tK 64 (n:Int)&&&tK 64 63).toNat:Int)=_;rw[tR,oE];have h1:(BitVec.ofNat 64 n).toNat=n:=by rw[sA];omega
 have h2:(tK 64 63).toNat=2^6-1:=by decide
 rw[h1,h2,Nat.and_two_pow_sub_one_eq_mod,r8];omega
def zX(x:BitVec 64)(k:Nat):BitVec 64:=(x<<<k)|||(x>>>(64-k))
def Z9(w:I)(v:T)(p:Ze):Prop:=∃vn vk vv,v=.agg #[vn,vk,oF p.gone,vv]∧Qe w vn p.name∧Qe w vk p.key∧Qe w vv p.value
theorem Z9.grown{w w':I}{v:T}{p:Ze}(h:Z9 w v p)(hg:J w w' H):Z9 w' v p:=by
 obtain⟨vn,vk,vv,rfl,h1,h2,h3⟩:=h;exact⟨vn,vk,vv,rfl,h1.grown hg,h2.grown hg,h3.grown hg⟩
theorem Z9.aggW{w:I}{v:T}{p:Ze}(h:Z9 w v p):∃na nc ka kc va vc,v=.agg #[O na p.name.length nc,O ka p.key.length kc,oF p.gone,O va p.value.length vc]:=by
 obtain⟨vn,vk,vv,rfl,h1,h2,h3⟩:=h;obtain⟨na,nc,rfl⟩:=h1.shape;obtain⟨ka,kc,rfl⟩:=h2.shape;obtain⟨va,vc,rfl⟩:=h3.shape;exact⟨na,nc,ka,kc,va,vc,rfl⟩
def uR(w:I)(b o:Nat)(p:Ze):Prop:=∃vn vk vv,w.cell? ⟨b,o,H⟩=F vn∧w.cell? ⟨b,o+1,H⟩=F vk∧w.cell? ⟨b,o+2,H⟩=F (oF p.gone)∧w.cell? ⟨b,o+3,H⟩=F vv∧Qe w vn p.name∧Qe w vk p.key∧Qe w vv p.value
theorem uR.grown{w w':I}{b o:Nat}{p:Ze}(h:uR w b o p)(hg:J w w' H):uR w' b o p:=by
 obtain⟨vn,vk,vv,c1,c2,c3,c4,h1,h2,h3⟩:=h;exact⟨vn,vk,vv,hg.cell c1 (by simp),hg.cell c2 (by simp),hg.cell c3 (by simp),hg.cell c4 (by simp),h1.grown hg,h2.grown hg,h3.grown hg⟩
def QQ(w:I)(v:T)(l:List Ze):Prop:=∃a cap,v=O a l.length cap∧l.length<=cap∧((l=[]∧(a=H->cap=0))∨∃b o,a=F ⟨b,o,H⟩∧∀i,i<l.length->uR w b (o+i*4) (l.getD i Qr))
theorem QQ.shape{w:I}{v:T}{l:List Ze}(h:QQ w v l):∃a cap,v=O a l.length cap:=by
 obtain⟨a,cap,rfl,_⟩:=h;exact⟨a,cap,rfl⟩
theorem QQ.grown{w w':I}{v:T}{l:List Ze}(h:QQ w v l)(hg:J w w' H):QQ w' v l:=by
 obtain⟨a,cap,rfl,hc,h⟩:=h;refine⟨a,cap,rfl,hc,?_⟩;rcases h with h|⟨b,o,rfl,h⟩;·exact .inl h
 ·exact .inr ⟨b,o,rfl,fun i hi=>(h i hi).grown hg⟩
theorem QQ.at{w:I}{a:Option rS}{n cap:Nat}{l:List Ze}(h:QQ w (O a n cap) l)(i:Nat)(hi:i<l.length):∃b o,a=F ⟨b,o,H⟩∧uR w b (o+i*4) (l.getD i Qr):=by
 obtain⟨a',cap',e,hc,h⟩:=h;simp only[sB]at e;obtain⟨rfl,rfl,rfl⟩:=e;rcases h with⟨rfl,_⟩|⟨b,o,rfl,h⟩;·simp at hi
 ·exact⟨b,o,rfl,h i hi⟩
structure kS (l : List Ze) : Prop where
  many : l.length * 80 <= 140737488355328
  each : ∀ i, i < l.length -> YP (l.getD i Qr)
theorem kS.len{l:List Ze}(h:kS l):l.length<=140737488355328:=by
 have:=h.many;omega
structure XC where
  turn : Int
  writes : List Ze
def Zk:XC:=⟨0,[]⟩
def C9:Nat->List Ze->Int|_,[]=>0|i,w::ws=>if(if 10<=i then(1:Int)else QC w)=0then C9 (i+1) ws else(if 10<=i then(1:Int)else QC w)
def Q9(c:XC):Int:=if 1<=c.turn∧c.turn<=1048576then(if c.writes.length=0then 1 else C9 0 c.writes)else 2
theorem SQ:∀(ws:List Ze)(i:Nat),C9 i ws=0↔(ws=[]∨i+ws.length<=10)∧∀w∈ws,QC w=0|[],i=>by simp[C9]|w::ws,i=>by have ih:=SQ ws (i+1);rw[C9];by_cases h10:10<=i;(·rw[if_pos h10,if_neg (by omega)];constructor;(·intro h;omega);·rintro⟨h|h,_⟩;(·cases h);·simp at h;omega);·rw[if_neg h10];by_cases hw:QC w=0;(·rw[if_pos hw,ih];constructor;(·rintro⟨h1,h2⟩;refine⟨.inr ?_,?_⟩;(·rcases h1 with rfl|h1;(·simp;omega);·simp;omega);·intro x hx;rcases tW.1 hx with rfl|hx;(·exact hw);·exact h2 x hx);·rintro⟨h1,h2⟩;refine⟨.inr ?_,fun x hx=>h2 x (tX _ hx)⟩;rcases h1 with h1|h1;(·cases h1);·simp at h1;omega);·rw[if_neg hw];constructor;(·intro h;exact absurd h hw);·rintro⟨_,h2⟩;exact absurd (h2 w (r7 ..)) hw
theorem KP(c:XC):Q9 c=0↔(1<=c.turn∧c.turn<=1048576)∧(1<=c.writes.length∧c.writes.length<=10)∧∀w∈c.writes,QC w=0:=by
 unfold Q9;by_cases h1:1<=c.turn∧c.turn<=1048576;·rw[if_pos h1];by_cases h2:c.writes.length=0;(·rw[if_pos h2];constructor;(·intro h;omega);·rintro⟨_,h,_⟩;omega);·rw[if_neg h2,SQ];constructor;(·rintro⟨h3|h3,h4⟩;(·rw[h3]at h2;simp at h2);·exact⟨h1,⟨by omega,by omega⟩,h4⟩);·rintro⟨_,h3,h4⟩;exact⟨.inr (by omega),h4⟩
 ·rw[if_neg h1];constructor;(·intro h;omega);·rintro⟨h,_⟩;exact absurd h h1
theorem aG(ws:List Ze)(i:Nat)(h:i<ws.length):C9 i (ws.drop i)=if(if 10<=i then(1:Int)else QC (ws.getD i Qr))=0then C9 (i+1) (ws.drop (i+1))else(if 10<=i then(1:Int)else QC (ws.getD i Qr)):=by
 rw[sR h,C9,show ws[i]=ws.getD i Qr by simp[h]]
theorem bN(ws:List Ze):C9 ws.length (ws.drop ws.length)=0:=by
 rw[List.drop_length,C9]
def XK(p:List UInt8):List UInt8:=tC p.length::p
theorem qD(p:List UInt8):(XK p).length=p.length+1:=rfl
def Gq(w:Ze):List UInt8:=if w.gone=tA then[255]else XK w.value
def Yc(w:Ze):List UInt8:=XK w.name++XK w.key++Gq w
def UX(t n:Nat):List UInt8:=[tC (t/65536),tC (t/256%256),tC (t%256),tC n]
def Zh(c:XC):List UInt8:=UX c.turn.toNat c.writes.length++c.writes.flatMap Yc
def Zt:List UInt8->Option (List UInt8×List UInt8)|[]=>H|x::r=>if x.toNat<=r.length then F (r.take x.toNat,r.drop x.toNat)else H
def uH(n k r:List UInt8):Option (Ze×List UInt8):=if r.head?=F 255then F (⟨n,k,[],tA⟩,r.tail)else match Zt r with|F (v,r2)=>F (⟨n,k,v,tJ⟩,r2)|none=>H
def Ml(n r:List UInt8):Option (Ze×List UInt8):=match Zt r with|F (k,r2)=>uH n k r2|none=>H
def Y8(r:List UInt8):Option (Ze×List UInt8):=match Zt r with|F (n,r2)=>Ml n r2|none=>H
def ZQ:Nat->List UInt8->Option (List Ze×List UInt8)|0,r=>F ([],r)|n+1,r=>match Y8 r with|F (w,r1)=>(match ZQ n r1 with|F (ws,r2)=>F (w::ws,r2)|none=>H)|none=>H
theorem Dj{p:List UInt8}(h:p.length<256):(tC p.length).toNat=p.length:=by
 simp;omega
theorem Vj(p r:List UInt8)(h:p.length<256):Zt (XK p++r)=F (p,r):=by
 show Zt (tC p.length::(p++r))=_;rw[Zt,Dj h,if_pos (by simp),rU,rV]<;>rfl
theorem Gi{r p r2:List UInt8}(h:Zt r=F (p,r2)):r=XK p++r2:=by
 cases r with|nil=>cases h|cons x r=>rw[Zt]at h;by_cases hx:x.toNat<=r.length;(·rw[if_pos hx]at h;simp only[tN,sE]at h;obtain⟨rfl,rfl⟩:=h;(have hl:(r.take x.toNat).length=x.toNat:=by simp;omega);show x::r=tC (r.take x.toNat).length::(r.take x.toNat++r.drop x.toNat);rw[hl,tD];simp);·rw[if_neg hx]at h;cases h
theorem Bp{r p r2:List UInt8}(h:Zt r=F (p,r2))(x:List UInt8):Zt (r++x)=F (p,r2++x):=by
 cases r with|nil=>cases h|cons y r=>rw[Zt]at h;by_cases hy:y.toNat<=r.length;(·rw[if_pos hy]at h;simp only[tN,sE]at h;obtain⟨rfl,rfl⟩:=h;show Zt (y::(r++x))=_;rw[Zt,if_pos (by simp;omega),pF hy,pG hy]);·rw[if_neg hy]at h;cases h
theorem BL{w:Ze}(hw:QC w=0)(r:List UInt8):Y8 (Yc w++r)=F (w,r):=by
 obtain⟨h1,h2,h3⟩:=(XJ w).1 hw;unfold Y8 Yc;rw[tE,tE,Vj _ _ (by omega)];show Ml w.name (XK w.key++(Gq w++r))=_;unfold Ml;rw[Vj _ _ (by omega)];show uH w.name w.key (Gq w++r)=_;unfold uH Gq;by_cases hg:w.gone=tA;·rw[if_pos hg]at h3⊢;rw[if_pos (by rfl)];obtain⟨n,k,v,g⟩:=w;simp only at hg h3;subst hg h3;rfl
 ·rw[if_neg hg]at h3⊢;rw[if_neg,Vj _ _ (by omega)];(·obtain⟨n,k,v,g⟩:=w;simp only[Bool.not_eq_true]at hg;subst hg;rfl);·show¬(F (tC w.value.length)=F 255);intro e;have:=congrArg UInt8.toNat (pT e);rw[Dj (by omega)]at this;have h255:(255:UInt8).toNat=255:=rfl;omega
theorem Fb:∀(ws:List Ze)(_:∀w∈ws,QC w=0)(r:List UInt8),ZQ ws.length (ws.flatMap Yc++r)=F (ws,r)|[],_,r=>rfl|w::ws,h,r=>by show ZQ (ws.length+1) ((w::ws).flatMap Yc++r)=_;rw[ZQ,rM,tE,BL (h w (r7 ..))];show(match ZQ ws.length (ws.flatMap Yc++r)with|F (ws',r2)=>F (w::ws',r2)|none=>H)=_;rw[Fb ws (fun x hx=>h x (tX _ hx)) r]
theorem M6{r r2:List UInt8}{w:Ze}(h:Y8 r=F (w,r2)):r=Yc w++r2:=by
 unfold Y8 at h;cases h1:Zt r with|none=>rw[h1]at h;cases h|some q=>obtain⟨n,ra⟩:=q;rw[h1]at h;have h:Ml n ra=F (w,r2):=h;unfold Ml at h;cases h2:Zt ra with|none=>rw[h2]at h;cases h|some q=>obtain⟨k,rb⟩:=q;rw[h2]at h;have h:uH n k rb=F (w,r2):=h;rw[Gi h1,Gi h2];unfold uH at h;by_cases hg:rb.head?=F 255;(·rw[if_pos hg]at h;simp only[tN,sE]at h;obtain⟨rfl,rfl⟩:=h;cases rb with|nil=>cases hg|cons x rb=>obtain rfl:x=255:=pT hg;show XK n++(XK k++255::rb)=XK n++XK k++[255]++rb;simp[tE]);·rw[if_neg hg]at h;cases h3:Zt rb with|none=>rw[h3]at h;cases h|some q=>obtain⟨v,rc⟩:=q;rw[h3]at h;simp only[tN,sE]at h;obtain⟨rfl,rfl⟩:=h;rw[Gi h3];show XK n++(XK k++(XK v++rc))=XK n++XK k++XK v++rc;simp[tE]
theorem vN:∀(n:Nat){r r2:List UInt8}{ws:List Ze},ZQ n r=F (ws,r2)->r=ws.flatMap Yc++r2∧ws.length=n|0,r,r2,ws,h=>by rw[ZQ]at h;simp only[tN,sE]at h;obtain⟨rfl,rfl⟩:=h;exact⟨rfl,rfl⟩|n+1,r,r2,ws,h=>by rw[ZQ]at h;cases h1:Y8 r with|none=>rw[h1]at h;cases h|some q=>obtain⟨w,ra⟩:=q;rw[h1]at h;have h:(match ZQ n ra with|F (ws,r2)=>F (w::ws,r2)|none=>H)=F (ws,r2):=h;cases h2:ZQ n ra with|none=>rw[h2]at h;cases h|some q=>obtain⟨ws',rb⟩:=q;rw[h2]at h;simp only[tN,sE]at h;obtain⟨rfl,rfl⟩:=h;obtain⟨e1,e2⟩:=vN n h2;exact⟨by rw[M6 h1,e1,rM,tE],by simp[e2]⟩
theorem zT : ∀ (n : Nat) (r : List UInt8), ZQ (n + 1) r = match ZQ n r with | F (ws, r1) => (match Y8 r1 with | F (w, r2) => F (ws ++ [w], r2) | none => H) | none => H
  | 0, r => by
    rw [ZQ]
    cases h : Y8 r with
    | none => simp [ZQ, h]
    | some q => obtain ⟨w, ra⟩ := q; simp [ZQ, h]
  | n + 1, r => by
    rw [ZQ]
    cases h : Y8 r with
    | none =>
      show H = _
      rw [ZQ, h]
    | some q =>
      obtain ⟨w, ra⟩ := q
      show (match ZQ (n + 1) ra with | F (ws, r2) => F (w :: ws, r2) | none => H) = _
      rw [zT n ra, show ZQ (n + 1) r = (match ZQ n ra with | F (ws, r2) => F (w :: ws, r2) | none => H) by rw [ZQ, h]]
      cases h2 : ZQ n ra with
      | none => rfl
      | some q =>
        obtain ⟨ws, rb⟩ := q
        show (match (match Y8 rb with | F (w, r2) => F (ws ++ [w], r2) | none => H) with | F (ws, r2) => F (w :: ws, r2) | none => H) = (match Y8 rb with | F (w', r2) => F (w :: ws ++ [w'], r2) | none => H)
        cases Y8 rb with
        | none => rfl
        | some q => rfl
def V5(b:List UInt8):Nat:=65536*(b.getD 0 0).toNat+256*(b.getD 1 0).toNat+(b.getD 2 0).toNat
def GS(b:List UInt8):Option (List Ze×List UInt8):=ZQ (b.getD 3 0).toNat (b.drop 4)
def YI(b:List UInt8):Int:=if 4000<b.length then 1 else if b.length<4then 14 else match GS b with|none=>14|F (ws,r)=>if r.length=0then Q9 ⟨(V5 b:Int),ws⟩else 4
def JB(b:List UInt8):XC:=if YI b=0then(match GS b with|F (ws,_)=>⟨(V5 b:Int),ws⟩|none=>Zk)else Zk
theorem Pq(t n:Nat):(UX t n).length=4:=rfl
theorem Wx(t n:Nat)(x:List UInt8)(ht:t<=1048576):V5 (UX t n++x)=t:=by
 show 65536*(tC (t/65536)).toNat+256*(tC (t/256%256)).toNat+(tC (t%256)).toNat=t;simp only[pZ];omega
theorem LM(t n:Nat)(x:List UInt8)(hn:n<=10):((UX t n++x).getD 3 0).toNat=n:=by
 show(tC n).toNat=n;simp;omega
theorem Ln(t n:Nat)(x:List UInt8):(UX t n++x).drop 4=x:=rfl
theorem Aw{w:Ze}(hw:QC w=0):(Yc w).length=3+w.name.length+w.key.length+w.value.length∧(Yc w).length<=59:=by
 obtain⟨h1,h2,h3⟩:=(XJ w).1 hw;unfold Yc Gq;by_cases hg:w.gone=tA;·rw[if_pos hg]at h3⊢;rw[h3];simp only[tB,qD,oI,List.length_nil];omega
 ·rw[if_neg hg]at h3⊢;simp only[tB,qD];omega
def Sk(ws:List Ze):Nat:=(ws.map fun w=>3+w.name.length+w.key.length+w.value.length).sum
theorem xB:∀(ws:List Ze)(_:∀w∈ws,QC w=0),(ws.flatMap Yc).length=Sk ws∧(ws.flatMap Yc).length<=59*ws.length|[],_=>by simp[Sk]|w::ws,h=>by obtain⟨i1,i2⟩:=xB ws (fun x hx=>h x (tX _ hx));obtain⟨j1,j2⟩:=Aw (h w (r7 ..));rw[rM,tB];unfold Sk at i1⊢;rw[oM,List.sum_cons,oI];omega
theorem UW{c:XC}(h:Q9 c=0):(Zh c).length=4+Sk c.writes∧(Zh c).length<=594:=by
 obtain⟨_,h2,h3⟩:=(KP c).1 h;obtain⟨i1,i2⟩:=xB c.writes h3;unfold Zh;rw[tB,Pq];omega
theorem M8{c:XC}(h:Q9 c=0)(x:List UInt8):GS (Zh c++x)=F (c.writes,x)∧V5 (Zh c++x)=c.turn.toNat:=by
 obtain⟨h1,h2,h3⟩:=(KP c).1 h;unfold GS Zh;rw[tE,LM _ _ _ h2.2,Ln,Wx _ _ _ (by omega)];exact⟨Fb _ h3 _,rfl⟩
theorem MJ{c:XC}(h:Q9 c=0):YI (Zh c)=0∧JB (Zh c)=c:=by
 obtain⟨h1,h2,h3⟩:=(KP c).1 h;obtain⟨s1,s2⟩:=UW h;obtain⟨b1,b2⟩:=M8 h [];rw[sS]at b1 b2;have hc:(⟨(V5 (Zh c):Int),c.writes⟩:XC)=c:=by rw[b2,Int.toNat_of_nonneg (by omega)]
 have hd:YI (Zh c)=0:=by rw[YI,if_neg (by omega),if_neg (by omega),b1];show(if([]:List UInt8).length=0then Q9 ⟨(V5 (Zh c):Int),c.writes⟩else 4)=0;rw[if_pos (show([]:List UInt8).length=0from rfl),hc,h]
 refine⟨hd,?_⟩;rw[JB,if_pos hd,b1];exact hc
theorem Nw{b:List UInt8}(h:YI b=0):Q9 (JB b)=0∧Zh (JB b)=b:=by
 have hC:JB b=(match GS b with|F (ws,_)=>⟨(V5 b:Int),ws⟩|none=>Zk):=by rw[JB,if_pos h]
 rw[YI]at h;by_cases h1:4000<b.length;·rw[if_pos h1]at h;omega
 rw[if_neg h1]at h;by_cases h2:b.length<4;·rw[if_pos h2]at h;omega
 rw[if_neg h2]at h;cases hb:GS b with|none=>rw[hb]at h;simp at h|some q=>obtain⟨ws,r⟩:=q;rw[hb]at h hC;have h:(if r.length=0then Q9 ⟨(V5 b:Int),ws⟩else 4)=0:=h;have hC:JB b=⟨(V5 b:Int),ws⟩:=hC;by_cases hr:r.length=0;(·rw[if_pos hr]at h;obtain rfl:r=[]:=tI hr;rw[hC];refine⟨h,?_⟩;obtain⟨k1,k2,k3⟩:=(KP _).1 h;unfold GS at hb;obtain⟨e1,e2⟩:=vN _ hb;rw[sS]at e1;show UX ((V5 b:Int)).toNat ws.length++ws.flatMap Yc=b;rw[<-e1,e2,sG];match b,h2 with|x0::x1::x2::x3::t,_=>show UX (65536*x0.toNat+256*x1.toNat+x2.toNat) x3.toNat++t=_;have a0:=x0.toNat_lt;have a1:=x1.toNat_lt;have a2:=x2.toNat_lt;have a3:=x3.toNat_lt;unfold UX;rw[show(65536*x0.toNat+256*x1.toNat+x2.toNat)/65536=x0.toNat by omega,show(65536*x0.toNat+256*x1.toNat+x2.toNat)/256%256=x1.toNat by omega,show(65536*x0.toNat+256*x1.toNat+x2.toNat)%256=x2.toNat by omega];simp);·rw[if_neg hr]at h;omega
section
theorem Ld(x:BitVec 64)(k:Int)(h0:0<=k)(h:k<64)(w:I):rO L 165 #[V .u64 (U x),V sL k] w fun e w'=>e=tY (V .u64 (U (zX x k.toNat)))∧w'=w:=by
 have h63:=fR k h0 h;go_enter Tryz.func165,Tryz.ntmps165;go_wp2;go_ret;refine⟨?_,rfl⟩;rw[show(64-k).toNat=64-k.toNat by omega,JQ,E7,Ex];rfl
def Kd(st:List (BitVec 64)):Array T:=(st.map fun x=>V .u64 (U x)).toArray
structure XV (n : Nat) (w : I) (b : Nat) (st : List (BitVec 64)) : Prop where
  len : st.length = n
  blk : ∃ t, w.heap[b]? = F (tP (Kd st) t (0, 0))
section
variable{n:Nat}{w:I}{b:Nat}{st:List (BitVec 64)}
theorem XV.cell(h:XV n w b st)(i:Nat)(hi:i<n):w.cell? ⟨b,i,H⟩=F (V .u64 (U (st.getD i 0))):=by
 obtain⟨t,hb⟩:=h.blk;simp[sC,hb,Kd,sX,rP (show i<st.length by have:=h.len;omega)]
theorem XV.frozen(h:XV n w b st)(i:Nat):w.frozen? ⟨b,i,H⟩=tJ:=by
 obtain⟨t,hb⟩:=h.blk;simp[rK,hb]
theorem XV.lt(h:XV n w b st):b<w.heap.size:=by
 obtain⟨t,hb⟩:=h.blk;exact(tM.1 hb).1
theorem MY(st:List (BitVec 64))(i:Nat)(x:BitVec 64):(Kd st).setIfInBounds i (V .u64 (U x))=Kd (st.set i x):=by
 simp[Kd]
theorem XV.set(h:XV n w b st)(i:Nat)(x:BitVec 64):XV n (tH w ⟨b,i,H⟩ (V .u64 (U x))) b (st.set i x):=by
 obtain⟨t,hb⟩:=h.blk;refine⟨by simp[h.len],t,?_⟩;simp only[tH,sD,if_true,hb,rA];simp[MY]
theorem XV.setOther(h:XV n w b st)(c:Nat)(hc:b≠c)(i:Nat)(v:T):XV n (tH w ⟨c,i,H⟩ v) b st:=by
 obtain⟨t,hb⟩:=h.blk;exact⟨h.len,t,by rw[Below.heap_setCell _ _ _ _ hc];exact hb⟩
theorem XV.drewN(h:XV n w b st)(k:Nat):XV n (w.drewN k) b st:=⟨h.len,h.blk⟩
theorem XV.drew(h:XV n w b st):XV n w.drew b st:=⟨h.len,h.blk⟩
theorem XV.alloc(h:XV n w b st)(o:Obj):XV n (w.alloc o) b st:=by
 obtain⟨t,hb⟩:=h.blk;exact⟨h.len,t,by rw[Below.heap_alloc _ _ _ h.lt];exact hb⟩
theorem XV.grown(h:XV n w b st){w':I}{r:Option Nat}(hg:J w w' r)(hr:F b≠r):XV n w' b st:=by
 obtain⟨t,hb⟩:=h.blk;exact⟨h.len,t,by rw[hg.block b h.lt hr];exact hb⟩
theorem XV.new(w:I)(t:rX)(st:List (BitVec 64))(hl:st.length=n):XV n (w.alloc (tP (Kd st) t)) w.heap.size st:=⟨hl,t,rN w _⟩
end
abbrev St:=XV 25
def SD(st:List (BitVec 64))(n:Nat):List (BitVec 64):=let a:=st.getD n 0;let b:=st.getD (n+1) 0;let c:=st.getD (n+2) 0;let d:=st.getD (n+3) 0;let e:=st.getD (n+4) 0;((((st.set n (a^^^(c&&&~~~b))).set (n+1) (b^^^(d&&&~~~c))).set (n+2) (c^^^(e&&&~~~d))).set (n+3) (d^^^(a&&&~~~e))).set (n+4) (e^^^(b&&&~~~a))
def VF(st:List (BitVec 64)):Nat->List (BitVec 64)|0=>st|k+1=>SD (VF st k) (5*k)
theorem Ig(w:I)(b:Nat)(st:List (BitVec 64))(h:St w b st):rO L 164 #[.pointer (F ⟨b,0,H⟩)] w fun e w'=>e=tY (pB #[])∧St w' b (VF st 5)∧J w w' (F b):=by
 go_enter Tryz.func164,Tryz.ntmps164;go_wp2;go_loopw[2](fun y wr=>∃k:Nat,k<=5∧y=V sL ((5*k:Nat):Int)∧St wr b (VF st k)∧J w wr (F b))(fun y _=>25-(intOf y).toNat);case atStart=>exact⟨0,by omega,rfl,h,Qb _ _⟩
 case round=>obtain⟨k,hk,rfl,hst,hg⟩:=hrel;by_cases hlt:k<5;(·generalize hn:5*k=n;have HN:Hid (5*k=n):=hn;clear hn;(have h25:n+4<25:=by have:=HN.out;omega);have hc:=hst.cell;have hf:=hst.frozen;have c0:=hc n (by omega);have c1:=hc (n+1) (by omega);have c2:=hc (n+2) (by omega);have c3:=hc (n+3) (by omega);have c4:=hc (n+4) (by omega);clear hc;generalize hS:VF st k=S at*;have HS:Hid (VF st k=S):=hS;clear hS;generalize hA:S.getD n 0=A at*;generalize hB:S.getD (n+1) 0=B at*;generalize hC:S.getD (n+2) 0=C at*;generalize hD:S.getD (n+3) 0=D at*;generalize hE:S.getD (n+4) 0=E at*;have HA:Hid (S.getD n 0=A):=hA;have HB:Hid (S.getD (n+1) 0=B):=hB;have HC:Hid (S.getD (n+2) 0=C):=hC;have HD:Hid (S.getD (n+3) 0=D):=hD;have HE:Hid (S.getD (n+4) 0=E):=hE;clear hA hB hC hD hE;(have i1:(n:Int)+4<25:=by omega);go_wp2;go_quiet(fail);go_wp2;go_roundw;(case rel=>refine⟨k+1,by omega,by have:=HN.out;congr 1;omega,?_,?_⟩;(·rw[Kx,Kx,Kx,Kx,Kx,Zn,Zn,Zn,Zn,Zn];(have e:VF st (k+1)=((((S.set n (A^^^(C&&&~~~B))).set (n+1) (B^^^(D&&&~~~C))).set (n+2) (C^^^(E&&&~~~D))).set (n+3) (D^^^(A&&&~~~E))).set (n+4) (E^^^(B&&&~~~A)):=by simp only[VF,SD,HS.out,HN.out,HA.out,HB.out,HC.out,HD.out,HE.out]);rw[e];exact(((((hst.drewN nq).set n _).set (n+1) _).set (n+2) _).set (n+3) _).set (n+4) _);·exact Qh (Qh (Qh (Qh (Qh (Qo hg nq) n _) (n+1) _) (n+2) _) (n+3) _) (n+4) _);case measure=>simp[intOf];omega);·(obtain rfl:k=5:=by omega);go_wp2;go_end0;exact⟨rfl,hst,hg⟩
end
def Si(st:List (BitVec 64))(x:Nat):BitVec 64:=st.getD x 0^^^st.getD (x+5) 0^^^st.getD (x+10) 0^^^st.getD (x+15) 0^^^st.getD (x+20) 0
def Va(st:List (BitVec 64)):Nat->List (BitVec 64)|0=>[0,0,0,0,0]|k+1=>(Va st k).set k (Si st k)
def O8(c:List (BitVec 64)):List (BitVec 64):=[c.getD 4 0^^^zX (c.getD 1 0) 1,c.getD 0 0^^^zX (c.getD 2 0) 1,c.getD 1 0^^^zX (c.getD 3 0) 1,c.getD 2 0^^^zX (c.getD 4 0) 1,c.getD 3 0^^^zX (c.getD 0 0) 1]
def Fv(d st:List (BitVec 64))(k:Nat):List (BitVec 64):=let y:=d.getD k 0;((((st.set k (st.getD k 0^^^y)).set (k+5) (st.getD (k+5) 0^^^y)).set (k+10) (st.getD (k+10) 0^^^y)).set (k+15) (st.getD (k+15) 0^^^y)).set (k+20) (st.getD (k+20) 0^^^y)
def jH(d st:List (BitVec 64)):Nat->List (BitVec 64)|0=>st|k+1=>Fv d (jH d st k) k
theorem OW(w:I)(b:Nat)(st:List (BitVec 64))(h:St w b st):rO L 162 #[.pointer (F ⟨b,0,H⟩)] w fun e w'=>e=tY (pB #[])∧St w' b (jH (O8 (Va st 5)) st 5)∧J w w' (F b):=by
 have hbn:b≠w.heap.size:=Nat.ne_of_lt h.lt;have h0:=h;go_enter Tryz.func162,Tryz.ntmps162;go_wp2_with fail;go_loopw[6](fun i wr=>∃k:Nat,k<=5∧i=V sL (k:Int)∧St wr b st∧XV 5 wr w.heap.size (Va st k)∧J w wr (F b))(fun i _=>5-(intOf i).toNat);case atStart=>exact⟨0,by omega,rfl,h.alloc _,XV.new w 268 [0,0,0,0,0] rfl,Qw (Qb _ _) _⟩
 case round=>obtain⟨k,hk,rfl,hst,hcl,hg⟩:=hrel;by_cases hlt:k<5;(·have c0:=hst.cell k (by omega);have c1:=hst.cell (k+5) (by omega);have c2:=hst.cell (k+10) (by omega);have c3:=hst.cell (k+15) (by omega);have c4:=hst.cell (k+20) (by omega);have d0:=hcl.cell k hlt;have hf:=hcl.frozen k;generalize hx0:st.getD k 0=x0 at*;generalize hx1:st.getD (k+5) 0=x1 at*;generalize hx2:st.getD (k+10) 0=x2 at*;generalize hx3:st.getD (k+15) 0=x3 at*;generalize hx4:st.getD (k+20) 0=x4 at*;(have HX:Hid (Si st k=x0^^^x1^^^x2^^^x3^^^x4):=by show Si st k=_;simp only[Si,hx0,hx1,hx2,hx3,hx4]);generalize hcc:Va st k=cc at*;have HC:Hid (Va st k=cc):=hcc;generalize hy:cc.getD k 0=y at*;clear hx0 hx1 hx2 hx3 hx4 hcc hy h;(have i1:(k:Int)+20<25:=by omega);(have i2:(k:Int)<5:=by omega);go_wp2_with fail;go_region;(all_goals go_wp2);go_roundw;(case rel=>rw[Zn,Zn,Zn,Zn];have hlt':=hst.lt;have hlt2:=hcl.lt;refine⟨k+1,by omega,by go_num,(hst.setOther _ hbn _ _).drew,?_,Qn (Qd hg _ (tZ _) _ _)⟩;simp only[Va,HC.out,HX.out];exact(hcl.set k _).drew);case measure=>simp[intOf];omega);·(obtain rfl:k=5:=by omega);have e0:=hcl.cell 0 (by omega);have e1:=hcl.cell 1 (by omega);have e2:=hcl.cell 2 (by omega);have e3:=hcl.cell 3 (by omega);have e4:=hcl.cell 4 (by omega);generalize hcc:Va st 5=cc at*;have HC:Hid (Va st 5=cc):=hcc;generalize hx0:cc.getD 0 0=x0 at*;generalize hx1:cc.getD 1 0=x1 at*;generalize hx2:cc.getD 2 0=x2 at*;generalize hx3:cc.getD 3 0=x3 at*;generalize hx4:cc.getD 4 0=x4 at*;(have HD:Hid (O8 cc=[x4^^^zX x1 1,x0^^^zX x2 1,x1^^^zX x3 1,x2^^^zX x4 1,x3^^^zX x0 1]):=by show O8 cc=_;simp only[O8,hx0,hx1,hx2,hx3,hx4]);clear hcc hx0 hx1 hx2 hx3 hx4 h;have hwr:=hcl.lt;go_upto_region 6with fail;go_cut[4](fun s4 wx=>s4=.pointer (F ⟨wr.heap.size,0,H⟩)∧St wx b st∧XV 5 wx wr.heap.size (O8 cc)∧J w wx (F b));(case first=>go_region_held3(fun w'=>w'.cell? ⟨w.heap.size,0,H⟩=F (V .u64 (U x0))∧w'.cell? ⟨w.heap.size,1,H⟩=F (V .u64 (U x1))∧w'.cell? ⟨w.heap.size,2,H⟩=F (V .u64 (U x2))∧w'.cell? ⟨w.heap.size,3,H⟩=F (V .u64 (U x3))∧w'.cell? ⟨w.heap.size,4,H⟩=F (V .u64 (U x4)))(go_keep)(first|(go_at_call 165;refine(Ld _ (1:Int) (by omega) (by omega) _).mono ?_;rintro e w'⟨rfl,rfl⟩));all_goals(go_wp2_with fail;go_meet;case rel=>(rw[HD.out,Zn,Zn,Zn,Zn,Zn];exact⟨rfl,(hst.alloc _).drew,(XV.new wr 268 [x4^^^zX x1 1,x0^^^zX x2 1,x1^^^zX x3 1,x2^^^zX x4 1,x3^^^zX x0 1] rfl).drew,Qn (Qw hg _)⟩)));case rest=>obtain⟨rfl,hst2,hd2,hg2⟩:=hcut;clear e0 e1 e2 e3 e4 hst hcl hg;(have hbw:b≠wr.heap.size:=by have:=h0.lt;omega);generalize hD:O8 cc=dd at*;have HDD:Hid (O8 cc=dd):=hD;clear hD HD;generalize hdn:wr.heap.size=db at*;clear hdn hwr;go_wp2_with fail;go_loopw[76](fun i wr=>∃k:Nat,k<=5∧i=V sL (k:Int)∧St wr b (jH dd st k)∧XV 5 wr db dd∧J w wr (F b))(fun i _=>5-(intOf i).toNat);(case atStart=>exact⟨0,by omega,rfl,hst2,hd2,hg2⟩);case round=>clear hst2 hd2 hg2;obtain⟨k,hk,rfl,hst,hd,hg⟩:=hrel;by_cases hlt:k<5;(·have c0:=hst.cell k (by omega);have c1:=hst.cell (k+5) (by omega);have c2:=hst.cell (k+10) (by omega);have c3:=hst.cell (k+15) (by omega);have c4:=hst.cell (k+20) (by omega);have d0:=hd.cell k hlt;have hf:=hst.frozen;generalize hS:jH dd st k=S at*;have HS:Hid (jH dd st k=S):=hS;generalize hy:dd.getD k 0=y at*;generalize hx0:S.getD k 0=x0 at*;generalize hx1:S.getD (k+5) 0=x1 at*;generalize hx2:S.getD (k+10) 0=x2 at*;generalize hx3:S.getD (k+15) 0=x3 at*;generalize hx4:S.getD (k+20) 0=x4 at*;(have HX:Hid (Fv dd S k=((((S.set k (x0^^^y)).set (k+5) (x1^^^y)).set (k+10) (x2^^^y)).set (k+15) (x3^^^y)).set (k+20) (x4^^^y)):=by show Fv dd S k=_;simp only[Fv,hy,hx0,hx1,hx2,hx3,hx4]);clear hS hy hx0 hx1 hx2 hx3 hx4;(have i1:(k:Int)+20<25:=by omega);(have i2:(k:Int)<5:=by omega);go_wp2_with fail;go_region;go_wp2_with fail;go_region;go_wp2_with fail;go_region;go_wp2_with fail;go_region;go_wp2_with fail;go_region;go_wp2_with fail;go_roundw;(case rel=>rw[Zn,Zn,Zn,Zn,Zn];refine⟨k+1,by omega,by go_num,?_,?_,?_⟩;(·simp only[jH,HS.out,HX.out];exact(((((hst.set k _).set (k+5) _).set (k+10) _).set (k+15) _).set (k+20) _).drew.drew.drew.drew.drew);(·exact(((((hd.setOther b hbw.symm k _).setOther b hbw.symm (k+5) _).setOther b hbw.symm (k+10) _).setOther b hbw.symm (k+15) _).setOther b hbw.symm (k+20) _).drew.drew.drew.drew.drew);·exact Qn (Qn (Qn (Qn (Qn (Qh (Qh (Qh (Qh (Qh hg k _) (k+5) _) (k+10) _) (k+15) _) (k+20) _))))));case measure=>simp[intOf];omega);·(obtain rfl:k=5:=by omega);go_wp2;go_end0;refine⟨rfl,?_,hg⟩;rw[HC.out,HDD.out];exact hst
theorem KZ(w:I)(v1 v2:T)(b1 b2:List UInt8)(h1:Qe w v1 b1)(h2:Qe w v2 b2):rO L 75 #[v1,v2] w fun e w'=>e=tY (oF (rJ (b1=b2)))∧w'=w:=by
 have c1:=F2 w v1 b1 h1;have c2:=F2 w v2 b2 h2;go_enter Tryz.func75,Tryz.ntmps75;go_wp2;go_ret;refine⟨?_,rfl⟩;have e:((j8 b1).toList==(j8 b2).toList)=rJ (b1=b2):=by rw[Pz,Pz];by_cases h:b1=b2<;>simp[h]
 rw[<-e];rfl
def Zq(l:PL)(k:List UInt8):Nat:=(l.takeWhile fun p=>YJ p.1 k).length
def GG(l:PL)(k:List UInt8):Bool:=rJ (Zq l k<l.length∧(l.getD (Zq l k) ([],[])).1=k)
def XO(l:PL)(k:List UInt8):Nat:=if GG l k=tA then Zq l k+1 else Zq l k
theorem xP(l:PL)(k:List UInt8):Zq l k<=l.length:=by
 induction l with|nil=>simp[Zq]|cons p r ih=>unfold Zq at ih⊢;rw[oC];cases h:YJ p.1 k with|true=>simpa using ih|false=>simp
theorem IT:∀(l:PL)(k:List UInt8)(i:Nat),i<=l.length->(∀j,j<i->YJ (l.getD j ([],[])).1 k=tA)->(i<l.length->YJ (l.getD i ([],[])).1 k=tJ)->Zq l k=i|[],k,i,h,_,_=>by(obtain rfl:i=0:=by simpa using h);rfl|p::r,k,0,_,_,h2=>by have:=h2 (by simp);simp only[tV]at this;simp[Zq,this]|p::r,k,i+1,h,h1,h2=>by have h0:=h1 0 (by omega);simp only[tV]at h0;have:=IT r k i (by simpa using h) (fun j hj=>by simpa using h1 (j+1) (by omega)) (fun hi=>by simpa using h2 (by simpa using hi));unfold Zq at this⊢;rw[tG (p:=fun p:Pr=>YJ p.1 k) h0];simpa using this
theorem No:∀(l:PL)(k:List UInt8)(j:Nat),j<Zq l k->YJ (l.getD j ([],[])).1 k=tA|[],k,j,h=>by simp[Zq]at h|p::r,k,j,h=>by cases hk:YJ p.1 k with|false=>simp[Zq,hk]at h|true=>cases j with|zero=>simpa using hk|succ j=>unfold Zq at h;rw[tG (p:=fun p:Pr=>YJ p.1 k) hk]at h;have:=No r k j (by unfold Zq;simpa using h);simpa using this
theorem NY:∀(l:PL)(k:List UInt8),Zq l k<l.length->YJ (l.getD (Zq l k) ([],[])).1 k=tJ|[],k,h=>by simp at h|p::r,k,h=>by cases hk:YJ p.1 k with|false=>simp[Zq,hk]|true=>(have e:Zq (p::r) k=Zq r k+1:=by unfold Zq;rw[tG (p:=fun p:Pr=>YJ p.1 k) hk];simp);rw[e]at h⊢;have:=NY r k (by simpa using h);simpa using this
theorem kU(l:PL)(k:List UInt8)(hr:Um l)(j:Nat)(hj:j<l.length):YJ (l.getD j ([],[])).1 k=rJ (j<Zq l k):=by
 by_cases h:j<Zq l k;·rw[decide_eq_true h];exact No l k j h
 ·rw[decide_eq_false h];have h0:=NY l k (by omega);by_cases e:j=Zq l k;(·rw[e];exact h0);·cases hk:YJ (l.getD j ([],[])).1 k with|false=>rfl|true=>have:=Ke _ _ _ (UB l hr (Zq l k) j (by omega) hj) hk;rw[this]at h0;cases h0
theorem vD{l:PL}{k:List UInt8}(h:GG l k=tA):Zq l k<l.length∧(l.getD (Zq l k) ([],[])).1=k:=by
 simpa only[GG,decide_eq_true_eq]using h
theorem yF(l:PL)(k:List UInt8):Zq l k<=XO l k∧XO l k<=l.length∧XO l k<=Zq l k+1:=by
 have:=xP l k;unfold XO;by_cases h:GG l k=tA;·rw[if_pos h];have:=(vD h).1;omega
 ·rw[if_neg h];omega
theorem FH(l:PL)(k:List UInt8)(hr:Um l)(j:Nat)(hj:j<l.length)(he:(l.getD j ([],[])).1=k):GG l k=tA∧j=Zq l k:=by
 have hp:Zq l k=j:=by refine IT l k j (by omega) (fun i hi=>?_) (fun _=>?_);(·rw[<-he];exact UB l hr i j hi hj);·rw[he];exact XZ k
 refine⟨?_,hp.symm⟩;rw[GG,hp];exact decide_eq_true ⟨hj,he⟩
theorem aP(l:PL)(k:List UInt8)(hr:Um l):Rw l k=if GG l k=tA then F (l.getD (Zq l k) ([],[])).2 else H:=by
 by_cases h:GG l k=tA;·rw[if_pos h];obtain⟨h1,h2⟩:=vD h;refine IL l k _ h1 (fun j hj e=>?_) h2;have:=No l k j hj;rw[e,XZ]at this;cases this
 ·rw[if_neg h];exact Di l k fun j hj e=>h (FH l k hr j hj e).1
theorem Dt(l:PL)(p:Pr):Kc l p=l.take (Zq l p.1)++([p]++l.drop (XO l p.1)):=by
 rw[S8 l p (Zq l p.1) (xP l p.1) (fun j hj=>No l p.1 j hj) (NY l p.1)];by_cases h:Zq l p.1<l.length∧(l.getD (Zq l p.1) ([],[])).1=p.1;·rw[if_pos h,XO,if_pos (by rw[GG];exact decide_eq_true h),pA,if_pos h.1];rfl
 ·rw[if_neg h,XO,if_neg (by rw[GG];simpa using h)]
theorem In(l:PL)(p:Pr):(Kc l p).length=Zq l p.1+1+(l.length-XO l p.1):=by
 rw[Dt];have h1:=xP l p.1;simp;omega
theorem Ib(l:PL)(p:Pr)(hl:l.length<=60):(60<(Kc l p).length)↔(Zq l p.1=XO l p.1∧l.length=60):=by
 rw[In];have:=yF l p.1;omega
theorem DU(l:PL)(f:Pr->Bool)(n:Nat)(hn:n<=l.length)(h1:∀j,j<n->f (l.getD j ([],[]))=tJ)(h2:∀j,n<=j->j<l.length->f (l.getD j ([],[]))=tA):l.filter f=l.drop n:=by
 have e:l=l.take n++l.drop n:=(tD n l).symm;have ha:(l.take n).filter f=[]:=by rw[sK];intro q hq;obtain⟨j,hj,rfl⟩:=N.1 hq;(have hjn:j<n:=by simp at hj;omega);have:=h1 j hjn;rw[sF];rw[show l[j]'(by omega)=l.getD j ([],[])by simp[show j<l.length by omega],this];simp
 have hb:(l.drop n).filter f=l.drop n:=by rw[tL];intro q hq;obtain⟨j,hj,rfl⟩:=N.1 hq;(have hjn:n+j<l.length:=by simp at hj;omega);rw[sO,show l[n+j]=l.getD (n+j) ([],[])by simp[hjn]];exact h2 _ (by omega) hjn
 conv=>lhs;rw[e]
 rw[sJ,ha,hb,pH]
theorem D7(l:PL)(f:Pr->Bool)(n:Nat)(hn:n<=l.length)(h1:∀j,j<n->f (l.getD j ([],[]))=tA)(h2:∀j,n<=j->j<l.length->f (l.getD j ([],[]))=tJ):l.filter f=l.take n:=by
 have e:l=l.take n++l.drop n:=(tD n l).symm;have hb:(l.drop n).filter f=[]:=by rw[sK];intro q hq;obtain⟨j,hj,rfl⟩:=N.1 hq;(have hjn:n+j<l.length:=by simp at hj;omega);rw[sO,show l[n+j]=l.getD (n+j) ([],[])by simp[hjn],h2 _ (by omega) hjn];simp
 have ha:(l.take n).filter f=l.take n:=by rw[tL];intro q hq;obtain⟨j,hj,rfl⟩:=N.1 hq;(have hjn:j<n:=by simp at hj;omega);rw[sF,show l[j]'(by omega)=l.getD j ([],[])by simp[show j<l.length by omega]];exact h1 j hjn
 conv=>lhs;rw[e]
 rw[sJ,ha,hb,sS]
theorem IY(l:PL)(k:List UInt8)(hr:Um l):jU l k=l.take (Zq l k)++l.drop (XO l k):=by
 by_cases h:GG l k=tA;·obtain⟨h1,h2⟩:=vD h;(have e:l=l.take (Zq l k)++(l.getD (Zq l k) ([],[])::l.drop (Zq l k+1)):=by(conv=>lhs;rw[<-tD (Zq l k) l,sR h1]);simp[h1]);have hne:∀j,j<l.length->j≠Zq l k->(l.getD j ([],[])).1≠k:=fun j hj hn e=>hn (FH l k hr j hj e).2;(have ha:(l.take (Zq l k)).filter (fun q=>!(q.1==k))=l.take (Zq l k):=by rw[tL];intro q hq;obtain⟨j,hj,rfl⟩:=N.1 hq;(have hjn:j<Zq l k:=by simp at hj;omega);rw[sF,show l[j]'(by omega)=l.getD j ([],[])by simp[show j<l.length by omega]];simpa using hne j (by omega) (by omega));(have hb:(l.drop (Zq l k+1)).filter (fun q=>!(q.1==k))=l.drop (Zq l k+1):=by rw[tL];intro q hq;obtain⟨j,hj,rfl⟩:=N.1 hq;(have hjn:Zq l k+1+j<l.length:=by simp at hj;omega);rw[sO,show l[Zq l k+1+j]=l.getD (Zq l k+1+j) ([],[])by simp[hjn]];simpa using hne _ hjn (by omega));rw[XO,if_pos h,jU];(conv=>lhs;rw[e]);rw[sJ,pN (by simpa using h2),ha,hb]
 ·rw[XO,if_neg h,tD,jU,tL];intro q hq;obtain⟨j,hj,rfl⟩:=N.1 hq;have:=fun e=>h (FH l k hr j hj e).1;rw[show l.getD j ([],[])=l[j]by simp[hj]]at this;simpa using this
theorem P0(l:PL)(k:List UInt8)(hr:Um l)(j:Nat)(hj:j<l.length):YJ k (l.getD j ([],[])).1=rJ (XO l k<=j):=by
 have hp:=kU l k hr j hj;have hn:=yF l k;by_cases h1:j<Zq l k;·rw[decide_eq_true h1]at hp;rw[LD _ _ hp,decide_eq_false (by omega)]
 ·rw[decide_eq_false h1]at hp;by_cases e:(l.getD j ([],[])).1=k;(·obtain⟨h2,h3⟩:=FH l k hr j hj e;rw[e,XZ,XO,if_pos h2,decide_eq_false (by omega)]);·rw[Uv _ _ hp e];by_cases h:GG l k=tA;(·rw[XO,if_pos h,decide_eq_true (by by_cases hjp:j=Zq l k;(·exact absurd (by rw[hjp];exact(vD h).2) e);·omega)]);·rw[XO,if_neg h,decide_eq_true (by omega)]
theorem Bd(l:PL)(f t:List UInt8)(hr:Um l):U9 l f t=(l.take (max (Zq l f) (XO l t))).drop (Zq l f):=by
 have h1:=xP l f;have h2:=yF l t;have e:U9 l f t=(l.filter fun q=>!YJ t q.1).filter fun q=>!YJ q.1 f:=by rw[U9,List.filter_filter]
 rw[e,D7 l _ (XO l t) h2.2.1 (fun j hj=>by rw[P0 l t hr j (by omega),decide_eq_false (by omega)];rfl) (fun j hj hjl=>by rw[P0 l t hr j hjl,decide_eq_true hj];rfl)];have hd:∀(n:Nat),n<=l.length->(l.take n).filter (fun q=>!YJ q.1 f)=(l.take n).drop (Zq l f):=by intro n hn;by_cases hc:Zq l f<=n;(·refine DU _ _ _ (by simp;omega) (fun j hj=>?_) (fun j hj hjl=>?_);(·(have:(l.take n).getD j ([],[])=l.getD j ([],[]):=by simp[show j<n by omega]);rw[this,kU l f hr j (by omega),decide_eq_true hj];rfl);·(have hjn:j<n:=by simp at hjl;omega);(have:(l.take n).getD j ([],[])=l.getD j ([],[]):=by simp[hjn]);rw[this,kU l f hr j (by omega),decide_eq_false (by omega)];rfl);·rw[tU (by simp;omega),sK];intro q hq;obtain⟨j,hj,rfl⟩:=N.1 hq;(have hjn:j<n:=by simp at hj;omega);rw[sF,show l[j]'(by omega)=l.getD j ([],[])by simp[show j<l.length by omega],kU l f hr j (by omega),decide_eq_true (by omega)];simp
 rw[hd _ h2.2.1];by_cases hc:Zq l f<=XO l t;·rw[Nat.max_eq_right hc]
 ·rw[Nat.max_eq_left (by omega),tU (by simp;omega),tU (by simp;omega)]
theorem Nb:∀(t:FL)(p:Tn)(k:Nat),k<=t.length->(∀j,j<k->YJ (t.getD j ([],[])).1 p.1=tA)->(k<t.length->YJ (t.getD k ([],[])).1 p.1=tJ)->Jp t p=if k<t.length∧(t.getD k ([],[])).1=p.1then t.set k p else t.take k++([p]++t.drop k)|[],p,k,hk,_,_=>by(obtain rfl:k=0:=by simpa using hk);simp[Jp]|q::r,p,0,_,_,h2=>by have h:=h2 (by simp);simp only[tV]at h;rw[Jp,if_neg (by rw[h];simp)];by_cases e:q.1=p.1;(·rw[if_pos e,if_pos ⟨by simp,by simpa using e⟩];simp);·rw[if_neg e,if_neg (fun h=>e (by simpa using h.2))];simp|q::r,p,k+1,hk,h1,h2=>by have h:=h1 0 (by omega);simp only[tV]at h;rw[Jp,if_pos h,Nb r p k (by simpa using hk) (fun j hj=>by simpa using h1 (j+1) (by omega)) (fun hk=>by simpa using h2 (by simpa using hk))];by_cases e:k<r.length∧(r.getD k ([],[])).1=p.1;(·rw[if_pos e,if_pos ⟨by simpa using e.1,by simpa using e.2⟩];simp);·rw[if_neg e,if_neg (fun h=>e ⟨by simpa using h.1,by simpa using h.2⟩)];simp
def Qz(l:FL)(k:List UInt8):Nat:=(l.takeWhile fun p=>YJ p.1 k).length
def J5(l:FL)(k:List UInt8):Bool:=rJ (Qz l k<l.length∧(l.getD (Qz l k) ([],[])).1=k)
def QO(l:FL)(k:List UInt8):Nat:=if J5 l k=tA then Qz l k+1 else Qz l k
theorem uK(l:FL)(k:List UInt8):Qz l k<=l.length:=by
 induction l with|nil=>simp[Qz]|cons p r ih=>unfold Qz at ih⊢;rw[oC];cases h:YJ p.1 k with|true=>simpa using ih|false=>simp
theorem MW:∀(l:FL)(k:List UInt8)(i:Nat),i<=l.length->(∀j,j<i->YJ (l.getD j ([],[])).1 k=tA)->(i<l.length->YJ (l.getD i ([],[])).1 k=tJ)->Qz l k=i|[],k,i,h,_,_=>by(obtain rfl:i=0:=by simpa using h);rfl|p::r,k,0,_,_,h2=>by have:=h2 (by simp);simp only[tV]at this;simp[Qz,this]|p::r,k,i+1,h,h1,h2=>by have h0:=h1 0 (by omega);simp only[tV]at h0;have:=MW r k i (by simpa using h) (fun j hj=>by simpa using h1 (j+1) (by omega)) (fun hi=>by simpa using h2 (by simpa using hi));unfold Qz at this⊢;rw[tG (p:=fun p:Tn=>YJ p.1 k) h0];simpa using this
theorem uI:∀(l:FL)(k:List UInt8)(j:Nat),j<Qz l k->YJ (l.getD j ([],[])).1 k=tA|[],k,j,h=>by simp[Qz]at h|p::r,k,j,h=>by cases hk:YJ p.1 k with|false=>simp[Qz,hk]at h|true=>cases j with|zero=>simpa using hk|succ j=>unfold Qz at h;rw[tG (p:=fun p:Tn=>YJ p.1 k) hk]at h;have:=uI r k j (by unfold Qz;simpa using h);simpa using this
theorem Ph:∀(l:FL)(k:List UInt8),Qz l k<l.length->YJ (l.getD (Qz l k) ([],[])).1 k=tJ|[],k,h=>by simp at h|p::r,k,h=>by cases hk:YJ p.1 k with|false=>simp[Qz,hk]|true=>(have e:Qz (p::r) k=Qz r k+1:=by unfold Qz;rw[tG (p:=fun p:Tn=>YJ p.1 k) hk];simp);rw[e]at h⊢;have:=Ph r k (by simpa using h);simpa using this
theorem Hb(l:FL)(k:List UInt8)(hr:YA l)(j:Nat)(hj:j<l.length):YJ (l.getD j ([],[])).1 k=rJ (j<Qz l k):=by
 by_cases h:j<Qz l k;·rw[decide_eq_true h];exact uI l k j h
 ·rw[decide_eq_false h];have h0:=Ph l k (by omega);by_cases e:j=Qz l k;(·rw[e];exact h0);·cases hk:YJ (l.getD j ([],[])).1 k with|false=>rfl|true=>have:=Ke _ _ _ (qO l hr (Qz l k) j (by omega) hj) hk;rw[this]at h0;cases h0
theorem yL{l:FL}{k:List UInt8}(h:J5 l k=tA):Qz l k<l.length∧(l.getD (Qz l k) ([],[])).1=k:=by
 simpa only[J5,decide_eq_true_eq]using h
theorem v8(l:FL)(k:List UInt8):Qz l k<=QO l k∧QO l k<=l.length∧QO l k<=Qz l k+1:=by
 have:=uK l k;unfold QO;by_cases h:J5 l k=tA;·rw[if_pos h];have:=(yL h).1;omega
 ·rw[if_neg h];omega
theorem Pv(l:FL)(k:List UInt8)(hr:YA l)(j:Nat)(hj:j<l.length)(he:(l.getD j ([],[])).1=k):J5 l k=tA∧j=Qz l k:=by
 have hp:Qz l k=j:=by refine MW l k j (by omega) (fun i hi=>?_) (fun _=>?_);(·rw[<-he];exact qO l hr i j hi hj);·rw[he];exact XZ k
 refine⟨?_,hp.symm⟩;rw[J5,hp];exact decide_eq_true ⟨hj,he⟩
theorem Hc(l:FL)(k:List UInt8)(hr:YA l):zV l k=if J5 l k=tA then F (l.getD (Qz l k) ([],[])).2 else H:=by
 by_cases h:J5 l k=tA;·rw[if_pos h];obtain⟨h1,h2⟩:=yL h;refine Cf l k _ h1 (fun j hj e=>?_) h2;have:=uI l k j hj;rw[e,XZ]at this;cases this
 ·rw[if_neg h];exact Ty l k fun j hj e=>h (Pv l k hr j hj e).1
theorem Rb(l:FL)(p:Tn):Jp l p=l.take (Qz l p.1)++([p]++l.drop (QO l p.1)):=by
 rw[Nb l p (Qz l p.1) (uK l p.1) (fun j hj=>uI l p.1 j hj) (Ph l p.1)];by_cases h:Qz l p.1<l.length∧(l.getD (Qz l p.1) ([],[])).1=p.1;·rw[if_pos h,QO,if_pos (by rw[J5];exact decide_eq_true h),pA,if_pos h.1];rfl
 ·rw[if_neg h,QO,if_neg (by rw[J5];simpa using h)]
theorem A7(l:FL)(p:Tn):(Jp l p).length=Qz l p.1+1+(l.length-QO l p.1):=by
 rw[Rb];have h1:=uK l p.1;simp;omega
theorem To(l:FL)(p:Tn)(hl:l.length<=8):(8<(Jp l p).length)↔(Qz l p.1=QO l p.1∧l.length=8):=by
 rw[A7];have:=v8 l p.1;omega
theorem Bt(l:FL)(k:List UInt8)(hr:YA l):kA l k=l.take (Qz l k)++l.drop (QO l k):=by
 by_cases h:J5 l k=tA;·obtain⟨h1,h2⟩:=yL h;(have e:l=l.take (Qz l k)++(l.getD (Qz l k) ([],[])::l.drop (Qz l k+1)):=by(conv=>lhs;rw[<-tD (Qz l k) l,sR h1]);simp[h1]);have hne:∀j,j<l.length->j≠Qz l k->(l.getD j ([],[])).1≠k:=fun j hj hn e=>hn (Pv l k hr j hj e).2;(have ha:(l.take (Qz l k)).filter (fun q=>!(q.1==k))=l.take (Qz l k):=by rw[tL];intro q hq;obtain⟨j,hj,rfl⟩:=N.1 hq;(have hjn:j<Qz l k:=by simp at hj;omega);rw[sF,show l[j]'(by omega)=l.getD j ([],[])by simp[show j<l.length by omega]];simpa using hne j (by omega) (by omega));(have hb:(l.drop (Qz l k+1)).filter (fun q=>!(q.1==k))=l.drop (Qz l k+1):=by rw[tL];intro q hq;obtain⟨j,hj,rfl⟩:=N.1 hq;(have hjn:Qz l k+1+j<l.length:=by simp at hj;omega);rw[sO,show l[Qz l k+1+j]=l.getD (Qz l k+1+j) ([],[])by simp[hjn]];simpa using hne _ hjn (by omega));rw[QO,if_pos h,kA];(conv=>lhs;rw[e]);rw[sJ,pN (by simpa using h2),ha,hb]
 ·rw[QO,if_neg h,tD,kA,tL];intro q hq;obtain⟨j,hj,rfl⟩:=N.1 hq;have:=fun e=>h (Pv l k hr j hj e).1;rw[show l.getD j ([],[])=l[j]by simp[hj]]at this;simpa using this
theorem eM(l:FL)(k:List UInt8)(hr:YA l):Jf l k=if J5 l k=tA then(l.getD (Qz l k) ([],[])).2 else[]:=by
 unfold Jf;rw[Hc l k hr];by_cases h:J5 l k=tA;·rw[if_pos h,if_pos h];rfl
 ·rw[if_neg h,if_neg h];rfl
theorem Dk(l:FL)(k:List UInt8)(hr:YA l):((l.take (QO l k)).drop (Qz l k)=[]∧Jf l k=[]∧QO l k=Qz l k)∨(∃t,(l.take (QO l k)).drop (Qz l k)=[t]∧Jf l k=t.2∧QO l k=Qz l k+1):=by
 rw[eM l k hr];by_cases h:J5 l k=tA;·right;obtain⟨h1,h2⟩:=yL h;refine⟨l.getD (Qz l k) ([],[]),?_,by rw[if_pos h],by rw[QO,if_pos h]⟩;rw[QO,if_pos h,List.take_succ_eq_append_getElem h1,pG (by simp;omega),tU (by simp;omega),pH];simp[h1]
 ·left;refine⟨?_,by rw[if_neg h],by rw[QO,if_neg h]⟩;rw[QO,if_neg h,tU (by simp;omega)]
def aZ:Prop:=∀(w:I)(a:Option rS)(n cap:Nat),rO L 53 #[O a n cap] w fun e w'=>e=tY (V sL (Qt n))∧J w w' H
theorem UJ(w:I)(a:Option rS)(n cap:Nat):rO L 53 #[O a n cap] w fun e w'=>e=tY (V sL (Qt n))∧w'=w:=by
 have HE:Hid (Qt n=if 1<=n∧n<=8then 0 else 1):=rfl;generalize Qt n=z at*;by_cases h1:1<=n;·by_cases h2:n<=8;(·(have HZ:Hid (z=0):=by show _=_;rw[HE.out,if_pos ⟨h1,h2⟩]);(have t1:¬(n:Int)<1:=by omega);(have t2:¬(n:Int)>8:=by omega);go_enter pW,pO;go_wp2;go_ret;exact⟨by rw[HZ.out];rfl,rfl⟩);·(have HZ:Hid (z=1):=by show _=_;rw[HE.out,if_neg (by omega)]);(have t1:¬(n:Int)<1:=by omega);(have t2:(n:Int)>8:=by omega);go_enter pW,pO;go_wp2;go_ret;exact⟨by rw[HZ.out];rfl,rfl⟩
 ·(have HZ:Hid (z=1):=by show _=_;rw[HE.out,if_neg (by omega)]);(have t1:(n:Int)<1:=by omega);go_enter pW,pO;go_wp2;go_ret;exact⟨by rw[HZ.out];rfl,rfl⟩
theorem Oj:aZ:=fun w a n cap=>(UJ w a n cap).mono fun e w' h=>by
 obtain⟨h1,rfl⟩:=h;exact⟨h1,Qb _ _⟩
def G6(l:FL)(n:List UInt8):Int:=if Q7 l=0then Qt n.length else Q7 l
theorem qN{l:FL}{n:List UInt8}(h:G6 l n=0):Xo l∧(1<=n.length∧n.length<=8):=by
 unfold G6 at h;by_cases h0:Q7 l=0;·rw[if_pos h0]at h;exact⟨(XY l).1 h0,(Zw _).1 h⟩
 ·rw[if_neg h0]at h;exact absurd h h0
def VC(l:FL)(n k:List UInt8):Int:=if G6 l n=0then Xa (Jf l n) k else G6 l n
def U3(l:FL)(n k:List UInt8):Bool:=if G6 l n=0then Rv (Jf l n) k else tJ
def U4(l:FL)(n k:List UInt8):List UInt8:=if G6 l n=0then Rx (Jf l n) k else[]
def YD(l:FL)(n f t:List UInt8):Int:=if G6 l n=0then Yy (Jf l n) f t else G6 l n
def Kk(l:FL)(n f t:List UInt8):PL:=if G6 l n=0then KM (Jf l n) f t else[]
structure kM where
  bit : Int
  right : Bool
  other : List UInt8
structure Ds where
  empty : Bool
  steps : List kM
  pair : Pr
def Sy:kM:=⟨0,tJ,[]⟩
def U2:Ds:=⟨tJ,[],([],[])⟩
instance:Inhabited kM:=⟨Sy⟩
instance:Inhabited Ds:=⟨U2⟩
def Uo(l:PL):Nat->Int|0=>999|1=>999|m+2=>if JG (l.getD 0 ([],[])).1 (l.getD (m+1) ([],[])).1<Uo l (m+1)then JG (l.getD 0 ([],[])).1 (l.getD (m+1) ([],[])).1 else Uo l (m+1)
def Qy(l:PL):Int:=Uo l l.length
def YY(l:PL)(b:Nat)(x:Bool):PL:=l.filter fun q=>ZP q.1 b==x
theorem DH(l:PL)(b:Nat)(x:Bool):(YY l b x).length<=l.length:=sZ _ _
theorem XX{l:PL}(h:Zy l)(b:Nat)(x:Bool):Zy (YY l b x):=⟨rF (DH l b x) h.room,fun p hp=>h.pairs p (pE.1 hp).1,sW _ h.rises⟩
theorem DN{l:PL}(h:Zy l)(i j:Nat)(hij:i<j)(hj:j<l.length):0<=JG (l.getD i ([],[])).1 (l.getD j ([],[])).1:=by
 have hk:=UB l h.rises i j hij hj;have h1:=(h.pairs l[i] (sH (by omega))).1;have h2:=(h.pairs l[j] (sH hj)).1;rw[show l[i]=l.getD i ([],[])by simp[show i<l.length by omega]]at h1;rw[show l[j]=l.getD j ([],[])by simp[hj]]at h2;have:=BA (l.getD i ([],[])).1 (l.getD j ([],[])).1 h1.2 h2.2;have hne:=eC hk;by_cases hp:JG (l.getD i ([],[])).1 (l.getD j ([],[])).1<0;·exact absurd (this.1 hp) hne
 ·omega
theorem PC{l:PL}(h:Zy l):∀m,m<=l.length->0<=Uo l m∧(2<=m->Uo l m<=144)∧Uo l m<=999|0,_=>⟨by simp[Uo],by omega,by simp[Uo]⟩|1,_=>⟨by simp[Uo],by omega,by simp[Uo]⟩|m+2,hm=>by have ih:=PC h (m+1) (by omega);have hp:=DN h 0 (m+1) (by omega) (by omega);have hr:=PJ (l.getD 0 ([],[])).1 (l.getD (m+1) ([],[])).1;rw[Uo];by_cases hlt:JG (l.getD 0 ([],[])).1 (l.getD (m+1) ([],[])).1<Uo l (m+1);(·rw[if_pos hlt];omega);·rw[if_neg hlt];omega
theorem Yf{l:PL}(h:Zy l)(h2:2<=l.length):0<=Qy l∧Qy l<=144:=by
 have:=PC h l.length (tZ _);exact⟨this.1,this.2.1 h2⟩
theorem Rl{l:PL}(_h:Zy l):∀m,2<=m->m<=l.length->∃j,0<j∧j<m∧Uo l m=JG (l.getD 0 ([],[])).1 (l.getD j ([],[])).1|0,h,_=>by omega|1,h,_=>by omega|m+2,_,hm=>by rw[Uo];by_cases hlt:JG (l.getD 0 ([],[])).1 (l.getD (m+1) ([],[])).1<Uo l (m+1);(·rw[if_pos hlt];exact⟨m+1,by omega,by omega,rfl⟩);·rw[if_neg hlt];by_cases h0:m=0;(·subst h0;have hr:=PJ (l.getD 0 ([],[])).1 (l.getD (0+1) ([],[])).1;simp only[Uo]at hlt;omega);·obtain⟨j,h1,h2,h3⟩:=Rl _h (m+1) (by omega) (by omega);exact⟨j,h1,by omega,h3⟩
theorem jV{l:PL}(h:Zy l)(h2:2<=l.length):∀x,(YY l (Qy l).toNat x).length<l.length:=by
 obtain⟨j,hj1,hj2,hj3⟩:=Rl h l.length h2 (tZ _);have hr:=Yf h h2;have hd:ZP (l.getD 0 ([],[])).1 (Qy l).toNat≠ZP (l.getD j ([],[])).1 (Qy l).toNat:=by rcases JP (l.getD 0 ([],[])).1 (l.getD j ([],[])).1with⟨e,_⟩|⟨m,e,_,_,hd⟩;(·rw[<-hj3]at e;unfold Qy at hr;omega);·(have:(Qy l).toNat=m:=by unfold Qy;omega);rw[this];exact hd
 intro x;by_cases hlt:(YY l (Qy l).toNat x).length<l.length;·exact hlt
 ·(have he:(YY l (Qy l).toNat x).length=l.length:=by have:=DH l (Qy l).toNat x;omega);have hall:=List.length_filter_eq_length_iff.1 he;have h0:=hall l[0] (sH (by omega));have hj:=hall l[j] (sH hj2);rw[show l[0]=l.getD 0 ([],[])by simp[show 0<l.length by omega]]at h0;rw[show l[j]=l.getD j ([],[])by simp[hj2]]at hj;simp only[beq_iff_eq]at h0 hj;exact absurd (h0.trans hj.symm) hd
def JF(l:PL)(b:Nat):Nat:=(l.takeWhile fun q=>!ZP q.1 b).length
theorem xA(l:PL):∀m j,0<j->j<m->m<=l.length->Uo l m<=JG (l.getD 0 ([],[])).1 (l.getD j ([],[])).1|0,j,_,h,_=>by omega|1,j,h0,h,_=>by omega|m+2,j,h0,h,hm=>by rw[Uo];by_cases hlt:JG (l.getD 0 ([],[])).1 (l.getD (m+1) ([],[])).1<Uo l (m+1);(·rw[if_pos hlt];by_cases e:j=m+1;(·subst e;exact oV _);·have:=xA l (m+1) j h0 (by omega) (by omega);omega);·rw[if_neg hlt];by_cases e:j=m+1;(·subst e;omega);·exact xA l (m+1) j h0 (by omega) (by omega)
theorem vY{l:PL}(h:Zy l)(h2:2<=l.length)(j:Nat)(hj:j<l.length)(b:Nat)(hb:b<(Qy l).toNat):ZP (l.getD 0 ([],[])).1 b=ZP (l.getD j ([],[])).1 b:=by
 by_cases h0:j=0;·subst h0;rfl
 ·have hm:=xA l l.length j (by omega) hj (tZ _);have hr:=Yf h h2;rcases JP (l.getD 0 ([],[])).1 (l.getD j ([],[])).1with⟨e,hs⟩|⟨m,e,hm1,hs,_⟩;(·exact hs b (by omega));·exact hs b (by unfold Qy at hb;omega)
theorem E8{l:PL}(h:Zy l)(h2:2<=l.length)(i j:Nat)(hij:i<j)(hj:j<l.length)(hi:ZP (l.getD i ([],[])).1 (Qy l).toNat=tA):ZP (l.getD j ([],[])).1 (Qy l).toNat=tA:=by
 have hk:=UB l h.rises i j hij hj;have hp:=DN h i j hij hj;rcases JP (l.getD i ([],[])).1 (l.getD j ([],[])).1with⟨e,_⟩|⟨m,e,hm,hs,hd⟩;·omega
 ·(have hge:(Qy l).toNat<=m:=by by_cases hlt:m<(Qy l).toNat;(·exact absurd ((vY h h2 i (by omega) m hlt).symm.trans (vY h h2 j hj m hlt)) hd);·omega);by_cases he:(Qy l).toNat=m;(·rw[he];have:=FU _ _ m hs hd;rw[this];exact hk);·rw[<-hs _ (by omega)];exact hi
theorem Nc{l:PL}(h:Zy l)(h2:2<=l.length):ZP (l.getD 0 ([],[])).1 (Qy l).toNat=tJ∧ZP (l.getD (l.length-1) ([],[])).1 (Qy l).toNat=tA:=by
 obtain⟨j,hj1,hj2,hj3⟩:=Rl h l.length h2 (tZ _);have hr:=Yf h h2;have hk:=UB l h.rises 0 j hj1 hj2;rcases JP (l.getD 0 ([],[])).1 (l.getD j ([],[])).1with⟨e,_⟩|⟨m,e,hm,hs,hd⟩;·rw[<-hj3]at e;unfold Qy at hr;omega
 ·(have em:(Qy l).toNat=m:=by unfold Qy;omega);have ho:=FU _ _ m hs hd;(have hjt:ZP (l.getD j ([],[])).1 m=tA:=by rw[ho];exact hk);refine⟨?_,?_⟩;(·rw[em];cases hx:ZP (l.getD 0 ([],[])).1 m with|false=>rfl|true=>exact absurd (hx.trans hjt.symm) hd);·by_cases hl:j=l.length-1;(·rw[<-hl,em];exact hjt);·exact E8 h h2 j (l.length-1) (by omega) (by omega) (by rw[em];exact hjt)
theorem EY{l:PL}(h:Zy l)(h2:2<=l.length):JG (l.getD 0 ([],[])).1 (l.getD (l.length-1) ([],[])).1=Qy l:=by
 have hr:=Yf h h2;obtain⟨e1,e2⟩:=Nc h h2;rw[Dh _ _ (Qy l).toNat (by omega) (fun b hb=>vY h h2 _ (by omega) b hb) (by rw[e1,e2];simp)];omega
theorem SA:∀(l:PL)(b j:Nat),j<JF l b->ZP (l.getD j ([],[])).1 b=tJ|[],b,j,h=>by simp[JF]at h|p::r,b,j,h=>by cases hk:ZP p.1 b with|true=>simp[JF,hk]at h|false=>cases j with|zero=>simpa using hk|succ j=>have:=SA r b j (by unfold JF at h⊢;rw[tG (p:=fun q:Pr=>!ZP q.1 b) (by simp[hk])]at h;simpa using h);simpa using this
theorem Cu:∀(l:PL)(b:Nat),JF l b<l.length->ZP (l.getD (JF l b) ([],[])).1 b=tA|[],b,h=>by simp at h|p::r,b,h=>by cases hk:ZP p.1 b with|true=>simp[JF,hk]|false=>(have e:JF (p::r) b=JF r b+1:=by unfold JF;rw[tG (p:=fun q:Pr=>!ZP q.1 b) (by simp[hk])];simp);rw[e]at h⊢;have:=Cu r b (by simpa using h);simpa using this
theorem GC{l:PL}(h:Zy l)(h2:2<=l.length)(j:Nat)(hj:j<l.length):ZP (l.getD j ([],[])).1 (Qy l).toNat=rJ (JF l (Qy l).toNat<=j):=by
 by_cases hlt:j<JF l (Qy l).toNat;·rw[decide_eq_false (by omega)];exact SA l _ j hlt
 ·rw[decide_eq_true (by omega)];have h0:=Cu l (Qy l).toNat (by omega);by_cases e:j=JF l (Qy l).toNat;(·rw[e];exact h0);·exact E8 h h2 _ j (by omega) hj h0
theorem Ut{l:PL}(h:Zy l)(h2:2<=l.length):0<JF l (Qy l).toNat∧JF l (Qy l).toNat<l.length:=by
 obtain⟨e1,e2⟩:=Nc h h2;rw[GC h h2 0 (by omega)]at e1;rw[GC h h2 _ (by omega)]at e2;simp at e1 e2;omega
theorem kE{l:PL}(h:Zy l)(h2:2<=l.length):YY l (Qy l).toNat tJ=l.take (JF l (Qy l).toNat):=by
 have hs:=Ut h h2;have hb:=fun j hj=>GC h h2 j hj;generalize(Qy l).toNat=b at*;generalize JF l b=n at*;have e:l=l.take n++l.drop n:=(tD n l).symm;rw[YY];conv=>lhs;rw[e]
 rw[sJ,tL.2,sK.2,sS];·intro q hq;obtain⟨j,hj,rfl⟩:=N.1 hq;(have hjn:n+j<l.length:=by simp at hj;omega);rw[sO,show l[n+j]=l.getD (n+j) ([],[])by simp[hjn],hb _ hjn];simp
 ·intro q hq;obtain⟨j,hj,rfl⟩:=N.1 hq;(have hjn:j<n:=by simp at hj;omega);rw[sF,show l[j]'(by omega)=l.getD j ([],[])by simp[show j<l.length by omega],hb _ (by omega)];simp[hjn]
theorem Pn{l:PL}(h:Zy l)(h2:2<=l.length):YY l (Qy l).toNat tA=l.drop (JF l (Qy l).toNat):=by
 have hs:=Ut h h2;have hb:=fun j hj=>GC h h2 j hj;generalize(Qy l).toNat=b at*;generalize JF l b=n at*;have e:l=l.take n++l.drop n:=(tD n l).symm;rw[YY];conv=>lhs;rw[e]
 rw[sJ,sK.2,tL.2,pH];·intro q hq;obtain⟨j,hj,rfl⟩:=N.1 hq;(have hjn:n+j<l.length:=by simp at hj;omega);rw[sO,show l[n+j]=l.getD (n+j) ([],[])by simp[hjn],hb _ hjn];simp
 ·intro q hq;obtain⟨j,hj,rfl⟩:=N.1 hq;(have hjn:j<n:=by simp at hj;omega);rw[sF,show l[j]'(by omega)=l.getD j ([],[])by simp[show j<l.length by omega],hb _ (by omega)];simp[hjn]
def Jw:List Nat:=[10,7,11,17,18,3,5,16,8,21,24,4,15,23,19,13,12,2,20,14,22,9,6,1]
def J6:List Nat:=[1,3,6,10,15,21,28,36,45,55,2,14,27,41,56,8,25,43,62,18,39,61,20,44]
def Jy:List (BitVec 64):=[0x0000000000000001,0x0000000000008082,0x800000000000808a,0x8000000080008000,0x000000000000808b,0x0000000080000001,0x8000000080008081,0x8000000000008009,0x000000000000008a,0x0000000000000088,0x0000000080008009,0x000000008000000a,0x000000008000808b,0x800000000000008b,0x8000000000008089,0x8000000000008003,0x8000000000008002,0x8000000000000080,0x000000000000800a,0x800000008000000a,0x8000000080008081,0x8000000000008080,0x0000000080000001,0x8000000080008008]
theorem bU(k:Nat)(h:k<24):Jw.getD k 0<25:=(by
 decide:∀k:Fin 24,Jw.getD k.1 0<25) ⟨k,h⟩
theorem Iv(k:Nat)(h:k<24):J6.getD k 0<64:=(by
 decide:∀k:Fin 24,J6.getD k.1 0<64) ⟨k,h⟩
structure YH(w:I):Prop where nums:∀i,i<24->w.cell? ⟨2,i,H⟩=F (V .u64 (U (Jy.getD i 0)))walk:∀i,i<24->w.cell? ⟨3,i,H⟩=F (V sL ((Jw.getD i 0:Nat):Int))turns:∀i,i<24->w.cell? ⟨4,i,H⟩=F (V sL ((J6.getD i 0:Nat):Int))
theorem YH.grown{w w':I}{b:Nat}(h:YH w)(hg:J w w' (F b))(hb:5<=b):YH w':=⟨fun i hi=>hg.cell (h.nums i hi) (by
 simp;omega),fun i hi=>hg.cell (h.walk i hi) (by
 simp;omega),fun i hi=>hg.cell (h.turns i hi) (by
 simp;omega)⟩
def JW(st:List (BitVec 64)):Nat->List (BitVec 64)×BitVec 64|0=>(st,st.getD 1 0)|k+1=>((JW st k).1.set (Jw.getD k 0) (zX (JW st k).2 (J6.getD k 0)),(JW st k).1.getD (Jw.getD k 0) 0)
theorem On(w:I)(b:Nat)(hb:5<=b)(st:List (BitVec 64))(h:St w b st)(ht:YH w):rO L 163 #[.pointer (F ⟨b,0,H⟩)] w fun e w'=>e=tY (pB #[])∧St w' b (JW st 24).1∧J w w' (F b):=by
 have c1:=h.cell 1 (by omega);go_enter Tryz.func163,Tryz.ntmps163;go_wp2;go_loopw[2,10](fun m i wr=>∃k:Nat,k<=24∧i=V sL (k:Int)∧m=V .u64 (U (JW st k).2)∧St wr b (JW st k).1∧J w wr (F b))(fun _ i _=>24-(intOf i).toNat);case atStart=>exact⟨0,by omega,rfl,by simp[JW],h,Qb _ _⟩
 case round=>obtain⟨k,hk,rfl,rfl,hst,hg⟩:=hrel;clear c1;by_cases hlt:k<24;(·have hT:=ht.grown hg hb;have hw:=bU k hlt;have hr:=Iv k hlt;have t1:=hT.walk k hlt;have t2:=hT.turns k hlt;have c:=hst.cell (Jw.getD k 0) hw;have hf:=hst.frozen;generalize hS:(JW st k).1=S at*;have HS:Hid ((JW st k).1=S):=hS;generalize hM:(JW st k).2=M at*;have HM:Hid ((JW st k).2=M):=hM;generalize hW:Jw.getD k 0=W at*;have HW:Hid (Jw.getD k 0=W):=hW;generalize hR:J6.getD k 0=R at*;have HR:Hid (J6.getD k 0=R):=hR;clear hS hM hW hR;generalize hX:S.getD W 0=X at*;have HX:Hid (S.getD W 0=X):=hX;clear hX hT ht h;(have i1:(W:Int)<25:=by omega);go_wp2_with fail;go_region_with(go_at_call 165;refine(Ld M (R:Int) (by omega) (by omega) _).mono ?_;rintro e w'⟨rfl,rfl⟩);(all_goals go_wp2);go_roundw;(case rel=>refine⟨k+1,by omega,by go_num,?_,?_,Qn (Qh hg _ _)⟩;(·simp only[JW,HS.out,HW.out,HX.out]);·simp only[JW,HS.out,HM.out,HW.out,HR.out];exact(hst.set W _).drew);case measure=>simp[intOf];omega);·(obtain rfl:k=24:=by omega);go_wp2;go_end0;exact⟨rfl,hst,hg⟩
def Bc(st:List (BitVec 64))(n:BitVec 64):List (BitVec 64):=let r:=VF (JW (jH (O8 (Va st 5)) st 5) 24).1 5;r.set 0 (r.getD 0 0^^^n)
theorem W9(w:I)(b:Nat)(hb:5<=b)(st:List (BitVec 64))(n:BitVec 64)(h:St w b st)(ht:YH w):rO L 160 #[.pointer (F ⟨b,0,H⟩),V .u64 (U n)] w fun e w'=>e=tY (pB #[])∧St w' b (Bc st n)∧J w w' (F b):=by
 go_enter Tryz.func160,Tryz.ntmps160;go_wp2_with fail;refine(OW _ b st h).mono ?_;rintro e w1⟨rfl,h1,g1⟩;go_wp2_with fail;refine(On _ b hb _ h1 (ht.grown g1 hb)).mono ?_;rintro e w2⟨rfl,h2,g2⟩;go_wp2_with fail;refine(Ig _ b _ h2).mono ?_;rintro e w3⟨rfl,h3,g3⟩;have g:=Qa g1 (Qa g2 g3);clear g1 g2 g3 h1 h2 h ht;have HR:Hid (Bc st n=(VF (JW (jH (O8 (Va st 5)) st 5) 24).1 5).set 0 ((VF (JW (jH (O8 (Va st 5)) st 5) 24).1 5).getD 0 0^^^n)):=rfl;generalize VF (JW (jH (O8 (Va st 5)) st 5) 24).1 5=S at*;have c0:=h3.cell 0 (by omega);have hf:=h3.frozen 0;generalize hx:S.getD 0 0=x at*;clear hx;go_wp2_with fail;go_region;go_wp2_with fail;go_end0;refine⟨rfl,?_,Qn (Qh g 0 _)⟩;rw[HR.out,Zn];exact(h3.set 0 _).drew
def Rg:Prop:=∀(w:I)(v u:T)(a b:List UInt8),Qe w v a->Qe w u b->rO L 154 #[v,u] w fun e w'=>e=tY (pB #[V sL (FM a b).1,V sL (FM a b).2])∧J w w' H
theorem Rg.of(hP:Rg)(w:I)(v u:T)(a b:List UInt8)(hv:Qe w v a)(hu:Qe w u b)(ha:1<=a.length∧a.length<=16)(hb:1<=b.length∧b.length<=16):rO L 154 #[v,u] w fun e w'=>e=tY (pB #[V sL (JG a b),V sL 0])∧J w w' H:=by
 have:=hP w v u a b hv hu;rw[Oh a b ha hb]at this;exact this
def Fn(b:List UInt8):List UInt8:=tC (b.length/256)::tC (b.length%256)::b
theorem zO(b:List UInt8):(Fn b).length=b.length+2:=rfl
def ZC(D:List UInt8->List UInt8)(c:XC):List UInt8:=Fn (Zh c)++D (Fn (Zh c))
def Zg(r:List UInt8):Nat:=256*(r.getD 0 0).toNat+(r.getD 1 0).toNat
def XF(D:List UInt8->List UInt8)(r:List UInt8):Option (XC×List UInt8):=if r.length<6then H else if r.length<Zg r+6∨4000<Zg r+2then H else if D (r.take (Zg r+2))=(r.drop (Zg r+2)).take 4then(if YI ((r.drop 2).take (Zg r))=0then F (JB ((r.drop 2).take (Zg r)),r.drop (Zg r+6))else H)else H
theorem Bh{D:List UInt8->List UInt8}{r r2:List UInt8}{c:XC}(h:XF D r=F (c,r2)):∃m,6<=m∧m<=r.length∧r2=r.drop m∧Q9 c=0:=by
 unfold XF at h;by_cases h1:r.length<6;·rw[if_pos h1]at h;cases h
 rw[if_neg h1]at h;by_cases h2:r.length<Zg r+6∨4000<Zg r+2;·rw[if_pos h2]at h;cases h
 rw[if_neg h2]at h;by_cases h3:D (r.take (Zg r+2))=(r.drop (Zg r+2)).take 4;·rw[if_pos h3]at h;by_cases h4:YI ((r.drop 2).take (Zg r))=0;(·rw[if_pos h4]at h;simp only[tN,sE]at h;obtain⟨rfl,rfl⟩:=h;exact⟨Zg r+6,by omega,by omega,rfl,(Nw h4).1⟩);·rw[if_neg h4]at h;cases h
 ·rw[if_neg h3]at h;cases h
theorem Et{b:List UInt8}(h:b.length<65536)(x:List UInt8):Zg (Fn b++x)=b.length:=by
 show 256*(tC (b.length/256)).toNat+(tC (b.length%256)).toNat=b.length;simp only[pZ];omega
theorem Pg{D:List UInt8->List UInt8}(hD:∀x,(D x).length=4)(c:XC):(ZC D c).length=(Zh c).length+6:=by
 unfold ZC;rw[tB,hD,zO]
theorem Bb{D:List UInt8->List UInt8}(hD:∀x,(D x).length=4){c:XC}(h:Q9 c=0)(r:List UInt8):XF D (ZC D c++r)=F (c,r):=by
 obtain⟨s1,s2⟩:=UW h;obtain⟨d1,d2⟩:=MJ h;have hl:=Pg hD c;have hz:Zg (ZC D c++r)=(Zh c).length:=by unfold ZC;rw[tE];exact Et (by omega) _
 have ht:(ZC D c++r).take ((Zh c).length+2)=Fn (Zh c):=by unfold ZC;rw[tE];exact rU (zO _)
 have hd:(ZC D c++r).drop ((Zh c).length+2)=D (Fn (Zh c))++r:=by unfold ZC;rw[tE];exact rV (zO _)
 have hm:((ZC D c++r).drop 2).take (Zh c).length=Zh c:=by unfold ZC;rw[tE];exact rU rfl
 have he:(ZC D c++r).drop ((Zh c).length+6)=r:=rV hl;have hlen:(ZC D c++r).length=(Zh c).length+6+r.length:=by rw[tB,hl]
 unfold XF;rw[if_neg (by omega),hz,if_neg (by omega),ht,hd,hm,he,if_pos (rU (hD _)).symm,if_pos d1,d2]
theorem Sh{D:List UInt8->List UInt8}(hD:∀x,(D x).length=4){c:XC}(h:Q9 c=0)(k:Nat)(hk:k<(ZC D c).length):XF D ((ZC D c).take k)=H:=by
 obtain⟨s1,s2⟩:=UW h;have hl:=Pg hD c;have hkl:((ZC D c).take k).length=k:=by simp;omega
 unfold XF;by_cases h6:k<6;·rw[if_pos (by omega)]
 ·(have hz:Zg ((ZC D c).take k)=(Zh c).length:=by(have hz:Zg (ZC D c++[])=(Zh c).length:=by unfold ZC;rw[tE];exact Et (by omega) _);rw[sS]at hz;rw[<-hz];unfold Zg;simp only[List.getD_eq_getElem?_getD,oD];rw[if_pos (by omega),if_pos (by omega)]);rw[if_neg (by omega),hz,if_pos (by omega)]
def Kz(D:List UInt8->List UInt8)(turn:Nat)(r:List UInt8):List XC×List UInt8:=match h:XF D r with|F (c,r2)=>if c.turn=(turn:Int)then(c::(Kz D (turn+1) r2).1,(Kz D (turn+1) r2).2)else([],r)|none=>([],r)termination_by r.length decreasing_by
 all_goals obtain⟨m,h1,h2,h3,_⟩:=Bh h;rw[h3,List.length_drop];omega
theorem Ip{D:List UInt8->List UInt8}{turn:Nat}{r r2:List UInt8}{c:XC}(h:XF D r=F (c,r2))(ht:c.turn=(turn:Int)):Kz D turn r=(c::(Kz D (turn+1) r2).1,(Kz D (turn+1) r2).2):=by
 rw[Kz];split;·next c' r' h'=>rw[h]at h';simp only[tN,sE]at h';obtain⟨rfl,rfl⟩:=h';rw[if_pos ht]
 ·next h'=>rw[h]at h';cases h'
theorem Wg{D:List UInt8->List UInt8}{turn:Nat}{r r2:List UInt8}{c:XC}(h:XF D r=F (c,r2))(ht:c.turn≠(turn:Int)):Kz D turn r=([],r):=by
 rw[Kz];split;·next c' r' h'=>rw[h]at h';simp only[tN,sE]at h';obtain⟨rfl,rfl⟩:=h';rw[if_neg ht]
 ·rfl
theorem Tw{D:List UInt8->List UInt8}{turn:Nat}{r:List UInt8}(h:XF D r=H):Kz D turn r=([],r):=by
 rw[Kz];split;·next c' r' h'=>rw[h]at h';cases h'
 ·rfl
theorem WD(D:List UInt8->List UInt8):XF D []=H:=by
 unfold XF;rw[if_pos (by simp)]
def qQ:Nat->List XC->Prop|_,[]=>True|t,c::cs=>c.turn=(t:Int)∧Q9 c=0∧qQ (t+1) cs
theorem qQ.take:∀{t:Nat}{cs:List XC}(_:qQ t cs)(j:Nat),qQ t (cs.take j)|_,[],_,j=>by rw[oP];trivial|_,c::cs,_,0=>trivial|t,c::cs,h,j+1=>⟨h.1,h.2.1,qQ.take h.2.2 j⟩
def Q5(D:List UInt8->List UInt8)(cs:List XC):List UInt8:=cs.flatMap (ZC D)
theorem KI(D:List UInt8->List UInt8)(c:XC)(cs:List XC):Q5 D (c::cs)=ZC D c++Q5 D cs:=rM
theorem Vt(D:List UInt8->List UInt8)(a b:List XC):Q5 D (a++b)=Q5 D a++Q5 D b:=List.flatMap_append
theorem Pb(D:List UInt8->List UInt8)(c:XC):Q5 D [c]=ZC D c:=by
 simp[Q5]
def M9(D:List UInt8->List UInt8)(r:List UInt8):Nat:=r.length-(Kz D 1 r).2.length
theorem Cn{D:List UInt8->List UInt8}(hD:∀x,(D x).length=4):∀{t:Nat}{cs:List XC}(_:qQ t cs)(k:Nat),∃j,j<=cs.length∧Kz D t ((Q5 D cs).take k)=(cs.take j,((Q5 D cs).take k).drop (Q5 D (cs.take j)).length)∧(Q5 D (cs.take j)).length<=k∧(Q5 D (cs.take j)).length<=(Q5 D cs).length∧(j<cs.length->k<(Q5 D (cs.take (j+1))).length)|t,[],_,k=>⟨0,by simp,by show Kz D t (([]:List UInt8).take k)=_;rw[oP,Tw (WD D)];simp[Q5],by simp[Q5],by simp[Q5],fun h=>by simp at h⟩|t,c::cs,h,k=>by by_cases hk:k<(ZC D c).length;(·refine⟨0,by simp,?_,by simp[Q5],by simp[Q5],fun _=>?_⟩;(·rw[KI,pF (by omega),Tw (Sh hD h.2.1 k hk)];simp[Q5]);·show k<(Q5 D [c]).length;rw[Pb];exact hk);·obtain⟨j,h1,h2,h3,h4,h5⟩:=Cn hD h.2.2 (k-(ZC D c).length);(have ht:(Q5 D (c::cs)).take k=ZC D c++(Q5 D cs).take (k-(ZC D c).length):=by rw[KI,List.take_append,pP (by omega)]);refine⟨j+1,by simp;omega,?_,?_,?_,fun hj=>?_⟩;(·rw[ht,Ip (Bb hD h.2.1 _) h.1,h2,rG,KI];rw[tB,<-List.drop_drop,rV rfl]);(·rw[rG,KI,tB];omega);(·rw[rG,KI,KI,tB,tB];omega);·have:=h5 (by simpa using hj);rw[rG,KI,tB];omega
theorem UN(D:List UInt8->List UInt8)(cs:List XC)(i j:Nat)(h:i<=j):(Q5 D (cs.take i)).length<=(Q5 D (cs.take j)).length:=by
 have:cs.take i=(cs.take j).take i:=by rw[List.take_take,oL h]
 rw[this];conv=>rhs;rw[<-tD i (cs.take j),Vt]
 rw[tB];omega
theorem T9{D:List UInt8->List UInt8}{cs:List XC}{k j i:Nat}(hi:i<=cs.length)(hj:j<cs.length->k<(Q5 D (cs.take (j+1))).length)(hk:(Q5 D (cs.take i)).length<=k):i<=j:=by
 by_cases h:i<=j;·exact h
 ·have:=UN D cs (j+1) i (by omega);have:=hj (by omega);omega
end Go.Proofs.YtaljfgkjfogmeaaGreatDoor
