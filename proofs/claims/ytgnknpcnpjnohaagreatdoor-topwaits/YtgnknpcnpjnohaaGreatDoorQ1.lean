/-
  Texts of this proof, joined, with few blanks: Base, LineF, SlM, PartM, Keys, PlaceM, Trees, TreeF, FitsF, ForestF, RdF, WrM0, TapeF, TapeG, KTree, KPure, ForestK, ForestE, WireF, WireG, LineG, RqMem, RqBox, RqEn, RdM0, ProofM, Sides, ForkF, Bits, Lanes, Cols, Move, Round, IdxF, EqB, ApplyOne, CheckC, CheckP, PosF, FPosF, FCName, RqCk.
-/
import Derived.WalkKit
import Derived.WalkSpells
import Derived.WalkLawsBesides
import Derived.BigRegion
import Derived.Deep.QuietTactic
import Derived.BigQuiet
import Derived.Deep.RegionHeld3
import Derived.Deep.DeepCutAuto
import Derived.Lib.Strings
import Derived.Test.YtgnknpcnpjnohaaGreatDoorChecked
set_option maxRecDepth 100000
set_option maxHeartbeats 8000000
open Array renaming getElem?_eq_some_iff->tL,getElem?_modify->tQ,ext->oI
open BitVec renaming ofInt->sB,ofInt_natCast->pL
open Bool renaming true->O,false->V,or_eq_false_iff->rO,and_eq_true->pX,or_eq_true->oC
open Classical renaming byContradiction->sN
open Decidable renaming decide->tI
open Go renaming World->I,Value->N,TypeId->sW,heap_alloc_new->rJ,Calls->rW,Addr->pD,maxLen->oK,info_parts->oL
open Go.Ending renaming returned->sP
open Go.IntKind renaming i64->sY,u64->rD,u8->rG,wrap_u64->rU
open Go.Obj renaming cells->tJ
open Go.Op renaming bytesLess->sH
open Go.Proofs.Tryz renaming prog->tA,underlying23->sL,ntmps44->pE,func44->pP
open Go.Value renaming slice->tH,int->tK,agg->pN,bool->pO,tuple->pV,ownBlock->pZ
open Go.Value.slice renaming injEq->rB
open Go.World renaming grownBy->J,setCell->tG,cell?->tZ,frozen?->sV,grownBy_alloc->rP
open Int renaming toNat_natCast->rI,le_refl->oJ
open List renaming mem_iff_getElem->L,length_append->T,append_assoc->tB,eq_nil_of_length_eq_zero->tD,take_append_drop->tE,takeWhile_cons_of_pos->tM,filter_eq_self->tN,mem_cons->tS,append_nil->tV,drop_eq_nil_of_le->tW,getD_cons_zero->tX,mem_cons_of_mem->tY,drop_eq_getElem_cons->sD,getElem_take->sE,getElem_mem->sF,take_succ_cons->sG,filter_append->sI,filter_eq_nil_iff->sJ,getElem_drop->sM,pairwise_singleton->sQ,getElem?_map->sS,length_filter_le->sX,pairwise_cons->rF,flatMap_cons->rH,getElem?_eq_getElem->rK,take_left'->rM,drop_left'->rN,any_cons->rS,mem_cons_self->rT,set_eq_take_append_cons_drop->rV,length_cons->rX,mem_filter->rY,take_append_of_le_length->r7,drop_append_of_le_length->r8,nil_append->pA,getElem?_eq_some_iff->pB,pairwise_iff_getElem->pC,filter_cons_of_neg->pF,take_of_length_le->pG,find?_cons_of_pos->pI,find?_cons_of_neg->pJ,drop_succ_cons->pR,takeWhile_cons->pT,getElem?_take->pU,length_drop->pY,map_cons->oE,take_nil->oF
open List.Pairwise renaming cons->tU,filter->sR,nil->sZ
open Nat renaming lt_of_lt_of_le->tR,le_refl->sA,testBit_lt_two_pow->sU,pow_le_pow_right->rA,le_trans->rC,testBit_div_two_pow->pH,div_div_eq_div_mul->pM,eq_of_testBit_eq->pQ,min_eq_left->oD,sub_self->oG,mul_one->oH
open Option renaming some->F,none->H,map_some->sO
open Option.some renaming injEq->tP,inj->pK
open Prod.mk renaming injEq->sC
open UInt8 renaming ofNat->tC,lt_iff_toNat_lt->sK,toNat_ofNat'->pS,toNat_inj->pW
namespace Go.Proofs.YtgnknpcnpjnohaaGreatDoor
open Go.RowKit
section
theorem Qb(w:I)(r:Option Nat):J w w r:=⟨rfl,rfl,rfl,sA _,fun _ _ _=>rfl⟩
theorem Qa{w w1 w2:I}{r:Option Nat}(h:J w w1 r)(k:J w1 w2 r):J w w2 r:=⟨k.os.trans h.os,k.tape.trans h.tape,k.output.trans h.output,rC h.size k.size,fun i hi hn=>(k.block i (tR hi h.size) hn).trans (h.block i hi hn)⟩
theorem Ql{w w1:I}{r:Option Nat}(h:J w w1 r):J w w1.drew r:=⟨h.os,h.tape,h.output,h.size,h.block⟩
theorem Qn{w w1:I}{r:Option Nat}(h:J w w1 r)(n:Nat):J w (w1.drewN n) r:=⟨h.os,h.tape,h.output,h.size,h.block⟩
theorem Qh{w w1:I}{b:Nat}(h:J w w1 (F b))(i:Nat)(v:N):J w (tG w1 ⟨b,i,H⟩ v) (F b):=Qa h ⟨rfl,rfl,rfl,by
 simp[tG],fun k _ hn=>Below.heap_setCell _ _ _ _ (by
 intro e;exact hn (by rw[e]))⟩
theorem Qw{w w1:I}{r:Option Nat}(h:J w w1 r)(o:Obj):J w (w1.alloc o) r:=Qa h (rP _ _ _)
theorem JI{w w1 w2:I}{r:Option Nat}{c:Nat}(h:J w w1 r)(hc:w.heap.size<=c)(k:J w1 w2 (F c)):J w w2 r:=⟨k.os.trans h.os,k.tape.trans h.tape,k.output.trans h.output,rC h.size k.size,fun i hi hn=>(k.block i (tR hi h.size) (by
 simp;omega)).trans (h.block i hi hn)⟩
theorem Qc{w w1:I}{r:Option Nat}(h:J w w1 r)(c:Nat)(hc:w.heap.size<=c)(i:Nat)(v:N):J w (tG w1 ⟨c,i,H⟩ v) r:=JI h hc (Qh (Qb _ _) i v)
theorem ZW(b o n:Nat):(⟨b,o,H⟩:pD).add n=⟨b,o+n,H⟩:=by
 unfold Addr.add;split;·simp_all
 ·rfl
theorem cU(w:I):(sizeOf (tA.elem 23)).run tA w=.ok 1 w:=by
 kernel_rfl
theorem dJ(W:I)(pb o len cap:Nat)(l:Int)(n:Nat)(hn:l=(n:Int))(h1:n<=len)(hc:n<cap):(Instr.slice 23 (tH (F ⟨pb,o,H⟩) len cap) (F (tK sY l)) H H).run tA W=.ok (tH (F ⟨pb,o+n,H⟩) (len-n) (cap-n)) W:=by
 subst hn;rw[run_slice_l _ _ _ _ _ (by kernel_rfl) _ _ (by omega) (by omega),cU];simp only[Result.andThen,sliced,rI,sO,oH,ZW];rw[if_neg (by omega)]
theorem Lo(W:I)(pb o len cap:Nat)(l:Int)(n:Nat)(hn:l=(n:Int))(hc:n<=cap)(h0:0<cap):(Instr.slice 23 (tH (F ⟨pb,o,H⟩) len cap) H (F (tK sY l)) H).run tA W=.ok (tH (F ⟨pb,o,H⟩) n cap) W:=by
 subst hn;rw[run_slice_h _ _ _ _ _ (by kernel_rfl) _ _ (by omega) (by omega),cU];simp only[Result.andThen,sliced,rI,sO,oH,ZW];rw[if_neg (by omega)];simp
def KW(w:I)(pb o:Nat)(bs:List UInt8):Prop:=∀i,i<bs.length->w.cell? ⟨pb,o+i,H⟩=F (tK rG ((bs.getD i 0).toNat:Int))
theorem KW.drew{w:I}{pb o:Nat}{bs:List UInt8}(h:KW w pb o bs):KW w.drew pb o bs:=h
theorem KW.grown{w w':I}{pb o:Nat}{bs:List UInt8}{r:Option Nat}(h:KW w pb o bs)(hg:J w w' r)(hr:F pb≠r):KW w' pb o bs:=fun i hi=>hg.cell (h i hi) hr
def Z4(bs:List UInt8):Array N:=(bs.map fun c=>tK rG (c.toNat:Int)).toArray
def ZN(w:I)(b:Nat)(bs:List UInt8):Prop:=∃t,w.heap[b]?=F (tJ (Z4 bs) t (0,0))
section
variable{w:I}{b:Nat}{bs:List UInt8}
theorem ZN.cell(h:ZN w b bs)(i:Nat)(hi:i<bs.length):w.cell? ⟨b,i,H⟩=F (tK rG ((bs.getD i 0).toNat:Int)):=by
 obtain⟨t,hb⟩:=h;simp[tZ,hb,Z4,sS,rK hi]
theorem ZN.frozen(h:ZN w b bs)(i:Nat):w.frozen? ⟨b,i,H⟩=V:=by
 obtain⟨t,hb⟩:=h;simp[sV,hb]
theorem ZN.lt(h:ZN w b bs):b<w.heap.size:=by
 obtain⟨t,hb⟩:=h;exact(tL.1 hb).1
theorem Bz(bs:List UInt8)(i:Nat)(x:UInt8):(Z4 bs).setIfInBounds i (tK rG (x.toNat:Int))=Z4 (bs.set i x):=by
 simp[Z4]
theorem ZN.set(h:ZN w b bs)(i:Nat)(x:UInt8):ZN (tG w ⟨b,i,H⟩ (tK rG (x.toNat:Int))) b (bs.set i x):=by
 obtain⟨t,hb⟩:=h;refine⟨t,?_⟩;simp only[tG,tQ,if_true,hb,sO];simp[Bz]
theorem ZN.drewN(h:ZN w b bs)(k:Nat):ZN (w.drewN k) b bs:=h
theorem ZN.drew(h:ZN w b bs):ZN w.drew b bs:=h
theorem ZN.alloc(h:ZN w b bs)(o:Obj):ZN (w.alloc o) b bs:=by
 have hl:=h.lt;obtain⟨t,hb⟩:=h;exact⟨t,by rw[Below.heap_alloc _ _ _ hl];exact hb⟩
theorem ZN.grown(h:ZN w b bs){w':I}{r:Option Nat}(hg:J w w' r)(hr:F b≠r):ZN w' b bs:=by
 have hl:=h.lt;obtain⟨t,hb⟩:=h;exact⟨t,by rw[hg.block b hl hr];exact hb⟩
theorem ZN.new(w:I)(t:sW)(bs:List UInt8):ZN (w.alloc (tJ (Z4 bs) t)) w.heap.size bs:=⟨t,rJ w _⟩
theorem ZN.at(h:ZN w b bs)(o:Nat)(cs:List UInt8)(hc:∀i,i<cs.length->o+i<bs.length∧bs.getD (o+i) 0=cs.getD i 0):KW w b o cs:=by
 intro i hi;rw[h.cell (o+i) (hc i hi).1,(hc i hi).2]
end
def Qe(w:I)(v:N)(bs:List UInt8):Prop:=∃a cap,v=tH a bs.length cap∧bs.length<=cap∧((bs=[]∧(a=H->cap=0))∨∃b o,a=F ⟨b,o,H⟩∧KW w b o bs)
theorem Qe.grown{w w':I}{v:N}{bs:List UInt8}(h:Qe w v bs)(hg:J w w' H):Qe w' v bs:=by
 obtain⟨a,cap,rfl,hc,h⟩:=h;refine⟨a,cap,rfl,hc,?_⟩;rcases h with h|⟨b,o,rfl,h⟩;·exact .inl h
 ·exact .inr ⟨b,o,rfl,h.grown hg (by simp)⟩
theorem Qe.alloc{w:I}{v:N}{bs:List UInt8}(h:Qe w v bs)(o:Obj):Qe (w.alloc o) v bs:=h.grown (rP _ _ _)
theorem Qe.drew{w:I}{v:N}{bs:List UInt8}(h:Qe w v bs):Qe w.drew v bs:=h
theorem Qe.drewN{w:I}{v:N}{bs:List UInt8}(h:Qe w v bs)(n:Nat):Qe (w.drewN n) v bs:=h
theorem ZN.slice{w:I}{b:Nat}{bs:List UInt8}(h:ZN w b bs)(cap:Nat)(hc:bs.length<=cap):Qe w (tH (F ⟨b,0,H⟩) bs.length cap) bs:=⟨_,cap,rfl,hc,.inr ⟨b,0,rfl,h.at 0 bs fun i hi=>by
 simpa using hi⟩⟩
theorem Qx(w:I):Qe w (tH H 0 0) []:=⟨H,0,rfl,sA _,.inl ⟨rfl,fun _=>rfl⟩⟩
def Uq(n:Nat):List UInt8:=List.replicate n 0
theorem Ns(n:Nat):(Uq n).length=n:=by
 simp[Uq]
theorem Sx(n:Nat):madeCells (tK rG 0).cells (n*1)=Z4 (Uq n):=by
 apply oI;·simp[size_madeCells,Z4,Uq]
 ·intro i h1 h2;simp[madeCells,Z4,Uq,Value.cells,Nat.mod_one]
theorem gY:(tA.info? 5).map (fun i=>(i.zero,i.size,i.bytes))=F (F (tK rG 0),1,1):=by
 kernel_rfl
theorem gV:(tA.info? 5).map (·.size)=F 1:=by
 kernel_rfl
theorem Sm(W:I)(c:Int)(n:Nat)(hc:c=(n:Int))(hn:n<=1000000):(Instr.makeSlice 23 (tK sY c) (tK sY c)).run tA W=.ok (tH (F ⟨W.heap.size,0,H⟩) n n) (W.alloc (tJ (Z4 (Uq n)) 5)):=by
 subst hc;obtain⟨i0,hi,hz0,hz1,hz2⟩:=oL gY;have h:=run_make (P:=tA) W 23 5 i0 (tK rG 0) sL hi hz0 sY sY (n:Int) (n:Int) (by omega) (oJ _) (by rw[hz2];omega) (by omega);rw[h,hz1,rI,Sx]
theorem j9(bs:List UInt8):∀v∈(bs.map fun c=>tK rG (c.toNat:Int)),v.oneCell'=O:=by
 intro v hv;obtain⟨c,_,rfl⟩:=List.mem_map.1 hv;rfl
theorem Mq(w:I)(X Y:Array N)(t:sW):(w.alloc (tJ X t)).setRow w.heap.size Y=w.alloc (tJ Y t):=by
 simp only[World.setRow,World.alloc];congr 1;apply oI;·simp
 ·intro i h1 h2;simp only[Array.getElem_modify,Array.getElem_push];(have hi:i<w.heap.size+1:=by simpa using h2);split<;>split<;>first|rfl|omega|(exfalso;omega)|simp_all
theorem S8(w:I)(a:Option pD)(bs:List UInt8)(cap n m ty:Nat)(hn:bs.length<=n)(hs:Qe w (tH a bs.length cap) bs):(Builtin.copy_ #[23,23] ty #[tH (F ⟨w.heap.size,0,H⟩) n m,tH a bs.length cap]).run tA (w.alloc (tJ (Z4 (Uq n)) 5))=.ok (tK sY (bs.length:Int)) (w.alloc (tJ (Z4 (bs++Uq (n-bs.length))) 5)):=by
 obtain⟨a',cap',e,hc,h⟩:=hs.alloc (tJ (Z4 (Uq n)) 5);simp only[rB,true_and]at e;obtain⟨rfl,rfl⟩:=e;by_cases h0:bs=[];·subst h0;have:=run_copy_none (P:=tA) (w.alloc (tJ (Z4 (Uq n)) 5)) 23 23 ty 5 (F ⟨w.heap.size,0,H⟩) a n m 0 cap sL gV (by simp);simpa[goInt]using this
 ·rcases h with h|⟨b,o,rfl,h⟩;(·exact absurd h.1 h0);·have:=run_copy_row (P:=tA) (w.alloc (tJ (Z4 (Uq n)) 5)) 23 23 ty 5 w.heap.size 0 n m ⟨b,o,H⟩ bs.length cap (Z4 (Uq n)) 5 (bs.map fun c=>tK rG (c.toNat:Int)) sL gV (rJ w _) (by simp only[List.length_map];exact(oD hn).symm) (by intro j v hj;rw[sS]at hj;cases hb:bs[j]?with|none=>rw[hb]at hj;simp at hj|some c=>rw[hb]at hj;simp at hj;subst hj;rw[ZW];have hlt:j<bs.length:=(pB.1 hb).1;rw[h j hlt];simp[hb]) (by simp[Z4,Uq];exact hn) (j9 bs);rw[this,Mq];simp[goInt,Z4,Uq]
def VM(bs:List UInt8):List N:=bs.map fun c=>tK rG (c.toNat:Int)
theorem bJ(bs:List UInt8):(VM bs).length=bs.length:=by
 simp[VM]
theorem Ds(a b:List UInt8):VM (a++b)=VM a++VM b:=by
 simp[VM]
theorem Bp(bs:List UInt8)(j:Nat)(u:N)(h:(VM bs)[j]?=F u):j<bs.length∧u=tK rG ((bs.getD j 0).toNat:Int):=by
 rw[VM,sS]at h;cases hb:bs[j]?with|none=>rw[hb]at h;simp at h|some c=>rw[hb]at h;simp at h;exact⟨(pB.1 hb).1,by simp[hb,<-h]⟩
def Zb(base:Nat)(w:I)(v:N)(bs:List UInt8):Prop:=w.ownsRow base 5 1 v bs.length (VM bs)
theorem QT(base:Nat)(w:I):Zb base w (tH H 0 0) []:=World.ownsRow_nil _ _ _ _
theorem Zb.grown{base:Nat}{w w':I}{v:N}{bs:List UInt8}(h:Zb base w v bs){row:Option Nat}(hg:J w w' row)(hne:v.ownBlock=H∨v.ownBlock≠row):Zb base w' v bs:=World.ownsRow.kept h hg hne
theorem Zb.grownNone{base:Nat}{w w':I}{v:N}{bs:List UInt8}(h:Zb base w v bs)(hg:J w w' H):Zb base w' v bs:=by
 refine h.grown hg ?_;cases hv:v.ownBlock with|none=>exact .inl rfl|some k=>exact .inr (by simp)
theorem Zb.alloc{base:Nat}{w:I}{v:N}{bs:List UInt8}(h:Zb base w v bs)(o:Obj):Zb base (w.alloc o) v bs:=World.ownsRow.alloc h o
theorem Zb.slice{base:Nat}{w:I}{v:N}{bs:List UInt8}(h:Zb base w v bs):Qe w v bs:=by
 obtain⟨h1,h2⟩:=h;rcases h2 with⟨rfl,h0⟩|⟨g,cap,cur,rfl,hb,hg,hn,hm,hs,ht⟩;·obtain rfl:=tD h0;exact Qx w
 ·refine⟨_,cap,rfl,hn,.inr ⟨g,0,rfl,?_⟩⟩;intro i hi;(have hc:cur.toList[i]?=F (tK rG ((bs.getD i 0).toNat:Int)):=by(have e:(cur.toList.take (bs.length*1))[i]?=(VM bs)[i]?:=by rw[ht]);rw[pU,if_pos (by omega)]at e;rw[e,VM,sS,rK hi];simp[hi]);simp[tZ,hg];simpa using hc
theorem Zb.lt{base:Nat}{w:I}{v:N}{bs:List UInt8}(h:Zb base w v bs):∀k,v.ownBlock=F k->base<=k∧k<w.heap.size:=World.ownsRow.lt h
theorem Zb.shape{base:Nat}{w:I}{v:N}{bs:List UInt8}(h:Zb base w v bs):∃a cap,v=tH a bs.length cap:=by
 obtain⟨a,cap,e,_⟩:=h.slice;exact⟨a,cap,e⟩
theorem Ti(base:Nat)(w:I)(bs:List UInt8)(hb:base<=w.heap.size)(hm:bs.length<=oK):Zb base (w.alloc (tJ (Z4 bs) 5)) (tH (F ⟨w.heap.size,0,H⟩) bs.length bs.length) bs:=⟨by
 simp[VM],.inr ⟨w.heap.size,bs.length,Z4 bs,rfl,hb,rJ w _,sA _,hm,by
 simp[Z4],by
 simp[Z4,VM,pG]⟩⟩
theorem Xo{w W w1:I}{v:N}{bs:List UInt8}(h:J w W H)(ho:Zb w.heap.size W v bs)(hg:J W w1 v.ownBlock):J w w1 H:=⟨hg.os.trans h.os,hg.tape.trans h.tape,hg.output.trans h.output,rC h.size hg.size,fun i hi hn=>(hg.block i (tR hi h.size) (fun e=>by
 have:=(ho.lt i e.symm).1;omega)).trans (h.block i hi hn)⟩
theorem Mz(w:I)(base ty:Nat)(v:N)(bs:List UInt8)(hown:Zb base w v bs)(a:Option pD)(m cap:Nat)(cs:List UInt8)(hs:Qe w (tH a m cap) cs)(hbytes:bs.length+m<=140737488355328)(hbase:base<=w.heap.size):∃v' w',(Builtin.append_ #[23,23] ty #[v,tH a m cap]).run tA w=.ok v' w'∧Zb base w' v' (bs++cs)∧J w w' v.ownBlock:=by
 obtain⟨i0,hi,hz0,hz1,hz2⟩:=oL gY;obtain⟨a',cap',e,hc,h⟩:=hs;simp only[rB]at e;obtain⟨rfl,rfl,rfl⟩:=e;have h63:bs.length+cs.length<=oK:=by unfold oK;omega
 have key:∀ad:pD,(∀j u,(VM cs)[j]?=F u->w.cell? (ad.add j)=F u)->∃v' w',(Builtin.append_ #[23,23] ty #[v,tH (F ad) cs.length cap]).run tA w=.ok v' w'∧Zb base w' v' (bs++cs)∧J w w' v.ownBlock:=by intro ad hnews;obtain⟨v',w',hr,ho,hg,_⟩:=run_append_own (P:=tA) w base 23 ty 5 i0 (tK rG 0) 1 1 sL hi hz0 hz1 hz2 rfl (by decide) v bs.length (VM bs) hown ad cs.length cap (VM cs) (by simp[VM]) hnews (j9 cs) h63 (by omega) hbase;refine⟨v',w',hr,?_,hg⟩;unfold Zb;rw[Ds,T];exact ho
 rcases h with⟨rfl,hz⟩|⟨b,o,rfl,h⟩;·cases a with|none=>obtain rfl:=hz rfl;refine⟨v,w,run_append_owned_none (P:=tA) (w:=w) base 23 ty 5 i0 1 sL hi v bs.length (VM bs) hown,?_,Qb _ _⟩;rw[tV];exact hown|some ad=>exact key ad (by simp[VM])
 ·refine key ⟨b,o,H⟩ fun j u hj=>?_;obtain⟨hlt,rfl⟩:=Bp cs j u hj;rw[ZW];exact h j hlt
theorem QL{w:I}{ops:Array Oper}{rest:List Oper}{o:Oper}{a:Act}{Q:Exit->Act->I->Prop}(hgd:o.guard=H)(s x:Operand)(ho:o.op=.call {callee:=.builtin .append,args:=#[s,x],argTypes:=#[23,23]})(base:Nat)(v:N)(bs:List UInt8)(hs:a.eval s=v)(hown:Zb base w v bs)(xa:Option pD)(m cap:Nat)(cs:List UInt8)(hx:a.eval x=tH xa m cap)(hsl:Qe w (tH xa m cap) cs)(hbytes:bs.length+m<=140737488355328)(hbase:base<=w.heap.size)(h:∀v' w',Zb base w' v' (bs++cs)->J w w' v.ownBlock->wpList tA ops Q rest (a.put o.dst v') w'):wpList tA ops Q (o::rest) a w:=by
 refine wpList_plain hgd fun K hK=>?_;obtain⟨v',w',hrun,ho',hg⟩:=Mz w base o.type v bs hown xa m cap cs hsl hbytes hbase;unfold Oper.wp;simp[execOp,ho,resolve,invoke,builtin,hs,hx,hrun,Result.andThen];exact hK _ _ (h v' w' ho' hg)
theorem Qe.take{w:I}{a:Option pD}{m cap:Nat}{bs:List UInt8}(h:Qe w (tH a m cap) bs)(k:Nat)(hk:k<=m):Qe w (tH a k cap) (bs.take k):=by
 obtain⟨a',cap',e,hc,h⟩:=h;simp only[rB]at e;obtain⟨rfl,rfl,rfl⟩:=e;have hl:(bs.take k).length=k:=by simp;omega
 refine⟨a,cap,by rw[hl],by omega,?_⟩;rcases h with⟨rfl,hz⟩|⟨b,o,rfl,h⟩;·exact .inl ⟨by simp,hz⟩
 ·refine .inr ⟨b,o,rfl,fun i hi=>?_⟩;rw[h i (by omega)];rw[hl]at hi;simp[hi]
theorem WD(bs:List UInt8)(s:ByteArray):((bs.map fun c=>((c.toNat:Nat):Int)).foldl (fun r n=>r.push (tC n.toNat)) s)=⟨s.data++bs.toArray⟩:=by
 induction bs generalizing s with|nil=>simp|cons c bs ih=>simp only[oE,List.foldl_cons];rw[ih];congr 1;simp[ByteArray.push]
def qU(bs:List UInt8):ByteArray:=⟨bs.toArray⟩
theorem Gf(bs:List UInt8):(qU bs).toList=bs:=by
 rw[Lib.toList_data];rfl
theorem qN(W:I)(v:N)(bs:List UInt8)(hs:Qe W v bs):(convert 23 9 v).run tA W=.ok (.string (qU bs)) W:=by
 obtain⟨a,cap,rfl,hc,h⟩:=hs;rw[run_convert_bytes_string W 23 9 5 a bs.length cap sL Tryz.underlying5 Tryz.underlying9];have key:∀ad:pD,(∀j u,(VM bs)[j]?=F u->W.cell? (ad.add j)=F u)->(Conv.bytesToString (tH (F ad) bs.length cap)).run tA W=.ok (.string (qU bs)) W:=by intro ad hcells;have hl:=run_loadCells_list (P:=tA) W ad (VM bs) hcells;rw[bJ]at hl;have:=run_bytesToString (P:=tA) W ad bs.length cap (bs.map fun c=>((c.toNat:Nat):Int)) (by rw[hl];simp[VM]);rw[this,WD];simp[qU]
 rcases h with⟨rfl,hz⟩|⟨b,o,rfl,h⟩;·cases a with|none=>simp[Conv.bytesToString,qU];rfl|some ad=>exact key ad (by simp[VM])
 ·refine key ⟨b,o,H⟩ fun j u hj=>?_;obtain⟨hlt,rfl⟩:=Bp bs j u hj;rw[ZW];exact h j hlt
theorem ZN.slice32{w:I}{b:Nat}{bs:List UInt8}(h:ZN w b bs)(hl:bs.length=32):Qe w (tH (F ⟨b,0,H⟩) 32 32) bs:=by
 have:=h.slice 32 (by omega);rw[hl]at this;exact this
theorem UY(w:I)(x:UInt8)(t:sW):Qe (w.alloc (tJ #[tK rG (x.toNat:Int)] t)) (tH (F ⟨w.heap.size,0,H⟩) 1 1) [x]:=(ZN.new w t [x]).slice 1 (by
 simp)
theorem NS(w:I)(x y:UInt8)(t:sW):Qe (w.alloc (tJ #[tK rG (x.toNat:Int),tK rG (y.toNat:Int)] t)) (tH (F ⟨w.heap.size,0,H⟩) 2 2) [x,y]:=(ZN.new w t [x,y]).slice 2 (by
 simp)
theorem KD{base base':Nat}{w:I}{v:N}{bs:List UInt8}(h:Zb base w v bs)(hb:base'<=base):Zb base' w v bs:=by
 refine⟨h.1,?_⟩;rcases h.2with h2|⟨g,cap,cur,h1,h2,h3⟩;·exact .inl h2
 ·exact .inr ⟨g,cap,cur,h1,rC hb h2,h3⟩
end
structure Ac where
  kind : Int
  sess : Int
  keep : Int
  data : List UInt8
def UE:Ac:=⟨0,0,0,[]⟩
def Jb(a:Ac):Int:=if 1<=a.kind∧a.kind<=4then(if(a.kind=1∧¬(0<=a.sess∧a.sess<=7))∨(a.kind=3∧¬(0<=a.keep∧a.keep<=200000))then 2 else if 4000<a.data.length then 1 else if(a.kind≠1∧a.sess≠0)∨(a.kind≠3∧a.keep≠0)∨(a.kind≠1∧0<a.data.length)then 4 else 0)else 5
structure XH(a:Ac):Prop where kind:1<=a.kind∧a.kind<=4sess:a.kind=1->0<=a.sess∧a.sess<=7keep:a.kind=3->0<=a.keep∧a.keep<=200000data:a.data.length<=4000noSess:a.kind≠1->a.sess=0noKeep:a.kind≠3->a.keep=0noData:a.kind≠1->a.data=[]
theorem uK(a:Ac):Jb a=0↔XH a:=by
 unfold Jb;by_cases h0:1<=a.kind∧a.kind<=4;·rw[if_pos h0];by_cases h1:(a.kind=1∧¬(0<=a.sess∧a.sess<=7))∨(a.kind=3∧¬(0<=a.keep∧a.keep<=200000));(·rw[if_pos h1];refine⟨fun e=>(by cases e),fun h=>?_⟩;rcases h1 with⟨h1,h2⟩|⟨h1,h2⟩;(·exact absurd (h.sess h1) h2);·exact absurd (h.keep h1) h2);·rw[if_neg h1];by_cases h2:4000<a.data.length;(·rw[if_pos h2];exact⟨fun e=>(by cases e),fun h=>by have:=h.data;omega⟩);·rw[if_neg h2];by_cases h3:(a.kind≠1∧a.sess≠0)∨(a.kind≠3∧a.keep≠0)∨(a.kind≠1∧0<a.data.length);(·rw[if_pos h3];refine⟨fun e=>(by cases e),fun h=>?_⟩;rcases h3 with⟨h3,h4⟩|⟨h3,h4⟩|⟨h3,h4⟩;(·exact absurd (h.noSess h3) h4);(·exact absurd (h.noKeep h3) h4);·rw[h.noData h3]at h4;simp at h4);·rw[if_neg h3];refine⟨fun _=>⟨h0,fun h=>?_,fun h=>?_,by omega,fun h=>?_,fun h=>?_,fun h=>?_⟩,fun _=>rfl⟩;(·exact sN fun e=>h1 (.inl ⟨h,e⟩));(·exact sN fun e=>h1 (.inr ⟨h,e⟩));(·exact sN fun e=>h3 (.inl ⟨h,e⟩));(·exact sN fun e=>h3 (.inr (.inl ⟨h,e⟩)));·refine tD ?_;have:¬0<a.data.length:=fun e=>h3 (.inr (.inr ⟨h,e⟩));omega
 ·rw[if_neg h0];exact⟨fun e=>(by cases e),fun h=>absurd h.kind h0⟩
def mP(n:Nat):UInt8:=tC (48+n)
def iQ(n:Nat):List UInt8:=if n<10then[mP n]else iQ (n/10)++[mP (n%10)]termination_by n decreasing_by
 omega
def mD(n:Nat):UInt8:=if n<10then tC (48+n)else tC (87+n)
def nG(bs:List UInt8):List UInt8:=bs.flatMap fun c=>[mD (c.toNat/16),mD (c.toNat%16)]
def nI:List UInt8:=[97,115,107]
def lW:List UInt8:=[115,121,110,99]
def iZ:List UInt8:=[99,114,97,115,104]
def iE:List UInt8:=[115,116,97,114,116]
def mW(a:Ac):List UInt8:=if a.kind=1then nI++32::(iQ a.sess.toNat++32::nG a.data)else if a.kind=2then lW else if a.kind=3then iZ++32::iQ a.keep.toNat else if a.kind=4then iE else[]
theorem Zo(w:I)(o:Obj):∃W:I,Hid (W=w.alloc o)∧J w W H∧Hid (W.heap[w.heap.size]?=F o):=⟨w.alloc o,rfl,rP _ _ _,rJ w o⟩
theorem Qe.shape{w:I}{v:N}{bs:List UInt8}(h:Qe w v bs):∃a cap,v=tH a bs.length cap:=by
 obtain⟨a,cap,rfl,_⟩:=h;exact⟨a,cap,rfl⟩
theorem QR{W w:I}{b:Nat}{x y:N}{t:sW}(hg:J W w H)(h:W.heap[b]?=F (tJ #[x,y] t)):w.cell? ⟨b,0,H⟩=F x∧w.cell? ⟨b,1,H⟩=F y∧w.frozen? ⟨b,0,H⟩=V∧w.frozen? ⟨b,1,H⟩=V:=by
 have hb:w.heap[b]?=F (tJ #[x,y] t):=by rw[hg.block b (tL.1 h).1 (by simp)];exact h
 refine⟨by simp[tZ,hb],by simp[tZ,hb],by simp[sV,hb],by simp[sV,hb]⟩
theorem xB{W w:I}{b:Nat}{x y:N}{t:sW}(hg:J W w H)(h:W.heap[b]?=F (tJ #[x,y] t)){G:Prop}(k:w.heap[b]?=F (tJ #[x,y] t)->w.cell? ⟨b,0,H⟩=F x->w.cell? ⟨b,1,H⟩=F y->w.frozen? ⟨b,0,H⟩=V->w.frozen? ⟨b,1,H⟩=V->G):G:=by
 obtain⟨h1,h2,h3,h4⟩:=QR hg h;exact k (by rw[hg.block b (tL.1 h).1 (by simp)];exact h) h1 h2 h3 h4
theorem Qd{W w:I}{b:Nat}{o:Obj}(hg:J W w H)(h:W.heap[b]?=F o):w.heap[b]?=F o:=by
 rw[hg.block b (tL.1 h).1 (by simp)];exact h
def Qi(base:Nat)(w:I)(v:N)(bs:List UInt8):Prop:=Qe w v bs∧(bs=[]∨∃b,v.ownBlock=F b∧b<w.heap.size∧(b<base∨∃cur fz,w.heap[b]?=F (tJ cur 5 fz)))
theorem Qi.slice{base:Nat}{w:I}{v:N}{bs:List UInt8}(h:Qi base w v bs):Qe w v bs:=h.1
theorem Zb.part{base base':Nat}{w:I}{v:N}{bs:List UInt8}(h:Zb base' w v bs):Qi base w v bs:=by
 refine⟨h.slice,?_⟩;rcases h.2with⟨rfl,h0⟩|⟨g,cap,cur,rfl,hb,hg,_⟩;·exact .inl (tD h0)
 ·exact .inr ⟨g,rfl,(tL.1 hg).1,.inr ⟨cur,_,hg⟩⟩
theorem VI{w:I}{b o:Nat}{v:N}(h:w.cell? ⟨b,o,H⟩=F v):b<w.heap.size:=by
 by_cases hb:b<w.heap.size;·exact hb
 ·simp[tZ,Array.getElem?_eq_none (Nat.le_of_not_lt hb)]at h
theorem Qe.part{w w':I}{v:N}{bs:List UInt8}(h:Qe w v bs)(hg:J w w' H)(base:Nat)(hb:w.heap.size<=base):Qi base w' v bs:=by
 refine⟨h.grown hg,?_⟩;obtain⟨a,cap,rfl,hc,h⟩:=h;rcases h with⟨rfl,_⟩|⟨b,o,rfl,h⟩;·exact .inl rfl
 ·by_cases h0:bs=[];(·exact .inl h0);·have hl:0<bs.length:=List.length_pos_iff.2 h0;have:=VI (h 0 hl);exact .inr ⟨b,rfl,tR this hg.size,.inl (by omega)⟩
theorem Qi.mono{base base':Nat}{w:I}{v:N}{bs:List UInt8}(h:Qi base w v bs)(hb:base<=base'):Qi base' w v bs:=by
 refine⟨h.1,?_⟩;rcases h.2with h|⟨b,h1,h2,h3⟩;·exact .inl h
 ·refine .inr ⟨b,h1,h2,?_⟩;rcases h3 with h3|h3;(·exact .inl (by omega));·exact .inr h3
theorem Zz{base:Nat}{w:I}{v:N}{bs:List UInt8}(h:Qi base w v bs):v.oneCell'=O:=by
 obtain⟨⟨a,cap,rfl,_⟩,_⟩:=h;rfl
theorem Qi.keptT{base:Nat}{w w':I}{v:N}{bs:List UInt8}(h:Qi base w v bs){row:Option Nat}(hg:J w w' row)(hrow:row=H∨∃g cur t fz,row=F g∧base<=g∧w.heap[g]?=F (tJ cur t fz)∧t≠5):Qi base w' v bs:=by
 obtain⟨hs,ho⟩:=h;rcases ho with rfl|⟨b,hb,hlt,hc⟩;·obtain⟨a,cap,rfl,hc,h⟩:=hs;refine⟨⟨a,cap,rfl,hc,?_⟩,.inl rfl⟩;rcases h with h|⟨b,o,rfl,h⟩;(·exact .inl h);·exact .inr ⟨b,o,rfl,fun i hi=>by simp at hi⟩
 ·(have hne:F b≠row:=by intro e;rcases hrow with rfl|⟨g,cur,t,fz,rfl,hbg,hgc,ht⟩;(·cases e);·cases e;rcases hc with hc|⟨cur2,fz2,hc⟩;(·omega);·rw[hc]at hgc;simp only[tP,Obj.cells.injEq]at hgc;exact ht hgc.2.1.symm);have hblk:=hg.block b hlt hne;refine⟨?_,.inr ⟨b,hb,tR hlt hg.size,?_⟩⟩;(·obtain⟨a,cap,rfl,hcp,h⟩:=hs;refine⟨a,cap,rfl,hcp,?_⟩;rcases h with h|⟨b',o,rfl,h⟩;(·exact .inl h);·refine .inr ⟨b',o,rfl,fun i hi=>?_⟩;simp[pZ]at hb;subst hb;exact hg.cell (h i hi) (by simpa using hne));·rcases hc with hc|⟨cur,fz,hc⟩;(·exact .inl hc);·exact .inr ⟨cur,fz,by rw[hblk];exact hc⟩
def ZX(k:List UInt8)(i:Nat):Bool:=if i/9<k.length then(if i%9=0then O else(k.getD (i/9) 0).toNat.testBit (8-i%9))else V
theorem Ui(k:List UInt8)(p:Nat):ZX k (9*p)=tI (p<k.length):=by
 unfold ZX;rw[show 9*p/9=p by omega,show 9*p%9=0 by omega];by_cases h:p<k.length<;>simp[h]
theorem Uj(k:List UInt8)(p r:Nat)(hp:p<k.length)(hr:1<=r)(hr8:r<=8):ZX k (9*p+r)=(k.getD p 0).toNat.testBit (8-r):=by
 unfold ZX;rw[show(9*p+r)/9=p by omega,show(9*p+r)%9=r by omega,if_pos hp,if_neg (by omega)]
theorem Nx(k:List UInt8)(i:Nat)(h:k.length<=i/9):ZX k i=V:=by
 unfold ZX;rw[if_neg (by omega)]
theorem C7(x y:UInt8)(h:∀j,j<8->x.toNat.testBit j=y.toNat.testBit j):x=y:=by
 apply pW.1;apply pQ;intro j;by_cases hj:j<8;·exact h j hj
 ·rw[sU (tR x.toNat_lt (rA (by decide) (by omega:8<=j))),sU (tR y.toNat_lt (rA (by decide) (by omega:8<=j)))]
theorem Iy(a b:List UInt8)(ha:a.length<=16)(hb:b.length<=16)(h:∀i,i<145->ZX a i=ZX b i):a=b:=by
 have hl:a.length=b.length:=by have h1:=h (9*a.length) (by omega);have h2:=h (9*b.length) (by omega);rw[Ui,Ui]at h1 h2;simp at h1 h2;omega
 apply List.ext_getElem hl;intro p h1 h2;have e:a.getD p 0=b.getD p 0:=by apply C7;intro j hj;have:=h (9*p+(8-j)) (by omega);rw[Uj a p _ h1 (by omega) (by omega),Uj b p _ h2 (by omega) (by omega),show 8-(8-j)=j by omega]at this;exact this
 simpa[h1,h2]using e
def yC(a b:List UInt8):Nat->Nat->Int|0,_=>-1|n+1,i=>if ZX a i=ZX b i then yC a b n (i+1)else(i:Int)
def JT(a b:List UInt8):Int:=yC a b 145 0
theorem Eo(a b:List UInt8)(n i:Nat):(yC a b n i=-1∧∀j,i<=j->j<i+n->ZX a j=ZX b j)∨∃m:Nat,yC a b n i=(m:Int)∧i<=m∧m<i+n∧(∀j,i<=j->j<m->ZX a j=ZX b j)∧ZX a m≠ZX b m:=by
 induction n generalizing i with|zero=>exact .inl ⟨rfl,fun j _ h=>by omega⟩|succ n ih=>unfold yC;by_cases he:ZX a i=ZX b i;(·rw[if_pos he];rcases ih (i+1)with⟨h1,h2⟩|⟨m,h1,h2,h3,h4,h5⟩;(·refine .inl ⟨h1,fun j hj hj2=>?_⟩;by_cases hji:j=i;(·subst hji;exact he);·exact h2 j (by omega) (by omega));·refine .inr ⟨m,h1,by omega,by omega,fun j hj hj2=>?_,h5⟩;by_cases hji:j=i;(·subst hji;exact he);·exact h4 j (by omega) hj2);·rw[if_neg he];exact .inr ⟨i,rfl,sA _,by omega,fun j h1 h2=>by omega,he⟩
theorem J0(a b:List UInt8):(JT a b=-1∧∀j,j<145->ZX a j=ZX b j)∨∃m:Nat,JT a b=(m:Int)∧m<145∧(∀j,j<m->ZX a j=ZX b j)∧ZX a m≠ZX b m:=by
 rcases Eo a b 145 0with⟨h1,h2⟩|⟨m,h1,_,h3,h4,h5⟩;·exact .inl ⟨h1,fun j hj=>h2 j (by omega) (by omega)⟩
 ·exact .inr ⟨m,h1,by omega,fun j hj=>h4 j (by omega) hj,h5⟩
theorem DZ(a b:List UInt8)(m:Nat)(hm:m<145)(h:∀j,j<m->ZX a j=ZX b j)(hd:ZX a m≠ZX b m):JT a b=(m:Int):=by
 rcases J0 a b with⟨_,h2⟩|⟨m',h1,h2,h3,h4⟩;·exact absurd (h2 m hm) hd
 ·by_cases hlt:m'<m;(·exact absurd (h m' hlt) h4);·by_cases hgt:m<m';(·exact absurd (h3 m hgt) hd);·rw[h1];omega
theorem T7(a b:List UInt8)(h:∀j,j<145->ZX a j=ZX b j):JT a b=-1:=by
 rcases J0 a b with⟨h1,_⟩|⟨m',_,h2,_,h4⟩;·exact h1
 ·exact absurd (h m' h2) h4
theorem Fn(a b:List UInt8):-1<=JT a b∧JT a b<=144:=by
 rcases J0 a b with⟨h,_⟩|⟨m,h,hm,_⟩<;>omega
theorem AL(a b:List UInt8)(ha:a.length<=16)(hb:b.length<=16):JT a b<0↔a=b:=by
 constructor;·intro h;rcases J0 a b with⟨_,h2⟩|⟨m,h1,_⟩;(·exact Iy a b ha hb h2);·omega
 ·rintro rfl;rw[T7 a a fun _ _=>rfl];decide
theorem PM(x y:UInt8)(a b:List UInt8):sH (x::a) (y::b)=(tI (x<y)||(x==y&&sH a b)):=by
 simp[sH]
theorem NZ:∀(p:Nat)(a b:List UInt8),(∀i,i<p->i<a.length∧i<b.length∧a.getD i 0=b.getD i 0)->sH a b=sH (a.drop p) (b.drop p)|0,a,b,_=>by simp|p+1,[],b,h=>by have:=(h 0 (by omega)).1;simp at this|p+1,x::a,[],h=>by have:=(h 0 (by omega)).2.1;simp at this|p+1,x::a,y::b,h=>by have h0:=(h 0 (by omega)).2.2;simp at h0;subst h0;rw[PM,pR,pR,<-NZ p a b fun i hi=>by have:=h (i+1) (by omega);simp at this;simpa using this];simp
theorem Cu(a:List UInt8):sH a []=V:=by
 cases a<;>rfl
theorem Fh(a:List UInt8)(p:Nat)(h:p<a.length):a.drop p=a.getD p 0::a.drop (p+1):=by
 rw[sD h];simp[h]
theorem Na(x y j:Nat)(hx:x.testBit j=V)(hy:y.testBit j=O)(h:∀i,j<i->x.testBit i=y.testBit i):x<y:=by
 have hq:x/2^(j+1)=y/2^(j+1):=by apply pQ;intro i;rw[pH,pH];exact h _ (by omega)
 rw[Nat.testBit_eq_decide_div_mod_eq]at hx hy;simp at hx hy;rw[Nat.pow_succ,<-pM,<-pM]at hq;exact Nat.lt_of_div_lt_div (c:=2^j) (by omega)
theorem I6(x y:UInt8)(j:Nat)(hd:x.toNat.testBit j≠y.toNat.testBit j)(h:∀i,j<i->x.toNat.testBit i=y.toNat.testBit i):(tI (x<y)||(x==y&&V))=y.toNat.testBit j:=by
 cases hy:y.toNat.testBit j with|true=>(have hx:x.toNat.testBit j=V:=by cases hx:x.toNat.testBit j with|true=>exact absurd (hx.trans hy.symm) hd|false=>rfl);have:=Na _ _ j hx hy h;simp[sK,this]|false=>(have hx:x.toNat.testBit j=O:=by cases hx:x.toNat.testBit j with|true=>rfl|false=>exact absurd (hx.trans hy.symm) hd);have:=Na _ _ j hy hx (fun i hi=>(h i hi).symm);simp[sK];omega
theorem Ej(a b:List UInt8)(m:Nat)(h:∀j,j<m->ZX a j=ZX b j)(hd:ZX a m≠ZX b m):ZX b m=sH a b:=by
 have hone:m/9<a.length∨m/9<b.length:=by by_cases h1:m/9<a.length;(·exact .inl h1);·by_cases h2:m/9<b.length;(·exact .inr h2);·rw[Nx a m (by omega),Nx b m (by omega)]at hd;exact absurd rfl hd
 have hpre:∀i,i<m/9->i<a.length∧i<b.length∧a.getD i 0=b.getD i 0:=by intro i hi;have hh:=h (9*i) (by omega);rw[Ui,Ui]at hh;(have hl:i<a.length∧i<b.length:=by simp at hh;omega);refine⟨hl.1,hl.2,C7 _ _ fun j hj=>?_⟩;have:=h (9*i+(8-j)) (by omega);rw[Uj a i _ hl.1 (by omega) (by omega),Uj b i _ hl.2 (by omega) (by omega),show 8-(8-j)=j by omega]at this;exact this
 rw[NZ (m/9) a b hpre];by_cases hr:m%9=0;·(have em:m=9*(m/9):=by omega);have ha:=Ui a (m/9);have hb:=Ui b (m/9);rw[<-em]at ha hb;by_cases hlb:m/9<b.length;(·have hla:¬m/9<a.length:=fun hla=>hd (by rw[ha,hb];simp[hla,hlb]);rw[hb,tW (by omega),Fh b _ hlb];simp[hlb,sH]);·rw[hb,tW (show b.length<=m/9by omega),Cu];simp[hlb]
 ·have hh:=h (9*(m/9)) (by omega);rw[Ui,Ui]at hh;(have hl:m/9<a.length∧m/9<b.length:=by simp at hh;omega);(have em:m=9*(m/9)+m%9:=by omega);have ha:=Uj a (m/9) (m%9) hl.1 (by omega) (by omega);have hb:=Uj b (m/9) (m%9) hl.2 (by omega) (by omega);rw[<-em]at ha hb;rw[Fh a _ hl.1,Fh b _ hl.2,PM,hb];rw[ha,hb]at hd;(have hne:(a.getD (m/9) 0==b.getD (m/9) 0)=V:=by rw[beq_eq_false_iff_ne];intro e;rw[e]at hd;exact hd rfl);rw[hne,Bool.false_and];have:=I6 (a.getD (m/9) 0) (b.getD (m/9) 0) (8-m%9) hd (fun i hi=>by by_cases hi8:i<8;(·have:=h (9*(m/9)+(8-i)) (by omega);rw[Uj a _ _ hl.1 (by omega) (by omega),Uj b _ _ hl.2 (by omega) (by omega),show 8-(8-i)=i by omega]at this;exact this);·rw[sU (tR (a.getD (m/9) 0).toNat_lt (rA (by decide) (by omega:8<=i))),sU (tR (b.getD (m/9) 0).toNat_lt (rA (by decide) (by omega:8<=i)))]);rw[Bool.and_false]at this;exact this.symm
def Qq(n:Nat):Int:=if 1<=n∧n<=16then 0 else 1
def AJ(k:List UInt8)(i:Int):Bool×Int:=if 1<=k.length∧k.length<=16then(if 0<=i∧i<=144then(ZX k i.toNat,0)else(V,2))else(V,1)
def Tl(a b:List UInt8):Int×Int:=if 1<=a.length∧a.length<=16then(if 1<=b.length∧b.length<=16then(JT a b,0)else(0,1))else(0,1)
theorem eP(k:List UInt8)(i:Nat)(hk:1<=k.length∧k.length<=16)(hi:i<145):AJ k (i:Int)=(ZX k i,0):=by
 rw[AJ,if_pos hk,if_pos (by omega)];rfl
theorem aV(a b:List UInt8)(ha:1<=a.length∧a.length<=16)(hb:1<=b.length∧b.length<=16):Tl a b=(JT a b,0):=by
 rw[Tl,if_pos ha,if_pos hb]
structure Zi where
  name : List UInt8
  key : List UInt8
  value : List UInt8
  gone : Bool
def YX(p:Zi):Prop:=p.name.length<=140737488355328∧p.key.length<=140737488355328∧p.value.length<=140737488355328
def Qs:Zi:=⟨[],[],[],V⟩
theorem Qj{W w:I}{b:Nat}{x y z u:N}{t:sW}(hg:J W w H)(h:W.heap[b]?=F (tJ #[x,y,z,u] t)):(w.cell? ⟨b,0,H⟩=F x∧w.cell? ⟨b,1,H⟩=F y∧w.cell? ⟨b,2,H⟩=F z∧w.cell? ⟨b,3,H⟩=F u)∧w.frozen? ⟨b,0,H⟩=V∧w.frozen? ⟨b,1,H⟩=V∧w.frozen? ⟨b,2,H⟩=V∧w.frozen? ⟨b,3,H⟩=V∧w.heap[b]?=F (tJ #[x,y,z,u] t):=by
 have hb:w.heap[b]?=F (tJ #[x,y,z,u] t):=by rw[hg.block b (tL.1 h).1 (by simp)];exact h
 refine⟨⟨?_,?_,?_,?_⟩,?_,?_,?_,?_,hb⟩;all_goals simp[tZ,sV,hb]
theorem JD{w:I}{b:Nat}{x y z u:N}{t:sW}(h:w.heap[b]?=F (tJ #[x,y,z,u] t))(x' y' z' u':N):((((tG w ⟨b,0,H⟩ x').setCell ⟨b,1,H⟩ y').setCell ⟨b,2,H⟩ z').setCell ⟨b,3,H⟩ u').heap[b]?=F (tJ #[x',y',z',u'] t)∧(tG w ⟨b,0,H⟩ x').cell? ⟨b,0,H⟩=F x'∧((tG w ⟨b,0,H⟩ x').setCell ⟨b,1,H⟩ y').cell? ⟨b,1,H⟩=F y'∧(((tG w ⟨b,0,H⟩ x').setCell ⟨b,1,H⟩ y').setCell ⟨b,2,H⟩ z').cell? ⟨b,2,H⟩=F z'∧((((tG w ⟨b,0,H⟩ x').setCell ⟨b,1,H⟩ y').setCell ⟨b,2,H⟩ z').setCell ⟨b,3,H⟩ u').cell? ⟨b,3,H⟩=F u':=by
 have h0:(tG w ⟨b,0,H⟩ x').heap[b]?=F (tJ #[x',y,z,u] t):=by simp only[tG,tQ,if_true,h,sO];first|rfl|simp
 have h1:((tG w ⟨b,0,H⟩ x').setCell ⟨b,1,H⟩ y').heap[b]?=F (tJ #[x',y',z,u] t):=by rw[tG,tQ,if_pos rfl,h0];first|rfl|simp
 have h2:(((tG w ⟨b,0,H⟩ x').setCell ⟨b,1,H⟩ y').setCell ⟨b,2,H⟩ z').heap[b]?=F (tJ #[x',y',z',u] t):=by rw[tG,tQ,if_pos rfl,h1];first|rfl|simp
 have h3:((((tG w ⟨b,0,H⟩ x').setCell ⟨b,1,H⟩ y').setCell ⟨b,2,H⟩ z').setCell ⟨b,3,H⟩ u').heap[b]?=F (tJ #[x',y',z',u'] t):=by rw[tG,tQ,if_pos rfl,h2];first|rfl|simp
 exact⟨h3,by simp[tZ,h0],by simp[tZ,h1],by simp[tZ,h2],by simp[tZ,h3]⟩
theorem Zb.setBlk{base:Nat}{w:I}{v:N}{bs:List UInt8}(h:Zb base w v bs){b:Nat}{cur:Array N}{t:sW}{fz:Nat×Nat}(hb:w.heap[b]?=F (tJ cur t fz))(ht:t≠5)(i:Nat)(u:N):Zb base (tG w ⟨b,i,H⟩ u) v bs:=by
 refine h.grown (row:=F b) (Qh (Qb _ _) i u) ?_;rcases h.2with⟨rfl,_⟩|⟨g,cap,cur2,rfl,_,hg,_⟩;·exact .inl rfl
 ·right;intro e;simp[pZ]at e;subst e;rw[hg]at hb;simp at hb;exact ht hb.2.1.symm
theorem Jx{w w1:I}(h:J w w1 H)(b:Nat)(hb:w.heap.size<=b)(x y z u:N):J w ((((tG w1 ⟨b,0,H⟩ x).setCell ⟨b,1,H⟩ y).setCell ⟨b,2,H⟩ z).setCell ⟨b,3,H⟩ u) H:=Qc (Qc (Qc (Qc h _ hb _ _) _ hb _ _) _ hb _ _) _ hb _ _
abbrev Pr:=List UInt8×List UInt8
abbrev PL:=List Pr
abbrev YN(a b:List UInt8):Bool:=sH a b
theorem Td(a:List UInt8):YN a []=V:=Cu a
theorem Pc(x y:UInt8)(a b:List UInt8):YN (x::a) (y::b)=(tI (x<y)||(x==y&&YN a b)):=PM x y a b
theorem Yb:∀a:List UInt8,YN a a=V|[]=>rfl|x::a=>by rw[Pc,Yb a];simp
theorem Kn:∀a b c:List UInt8,YN a b=O->YN b c=O->YN a c=O|_,[],_,h,_=>by rw[Td]at h;cases h|_,_::_,[],_,h=>by rw[Td]at h;cases h|[],_::_,_::_,_,_=>rfl|x::a,y::b,z::c,h1,h2=>by rw[Pc]at h1 h2⊢;simp only[oC,decide_eq_true_eq,pX,beq_iff_eq,sK]at h1 h2⊢;rcases h1 with h1|⟨rfl,h1⟩;(·rcases h2 with h2|⟨rfl,h2⟩;(·left;omega);·left;exact h1);·rcases h2 with h2|⟨rfl,h2⟩;(·left;exact h2);·right;exact⟨rfl,Kn a b c h1 h2⟩
theorem UR:∀a b:List UInt8,YN a b=V->a≠b->YN b a=O|[],[],_,h=>absurd rfl h|[],_::_,h,_=>by cases h|_::_,[],_,_=>rfl|x::a,y::b,h1,h2=>by rw[Pc]at h1⊢;simp only[rO,decide_eq_false_iff_not,Bool.and_eq_false_iff,beq_eq_false_iff_ne,sK]at h1;simp only[oC,decide_eq_true_eq,pX,beq_iff_eq,sK];by_cases e:y=x;(·subst e;right;refine⟨rfl,UR a b ?_ (fun e=>h2 (by rw[e]))⟩;rcases h1.2with h|h;(·exact absurd rfl h);·exact h);·left;have:x.toNat≠y.toNat:=fun h=>e (pW.1 h.symm);omega
theorem Hw(a b:List UInt8)(h:YN a b=O):YN b a=V:=by
 cases hb:YN b a with|false=>rfl|true=>have:=Kn a b a h hb;rw[Yb]at this;cases this
theorem g8{a b:List UInt8}(h:YN a b=O):a≠b:=by
 rintro rfl;rw[Yb]at h;cases h
def QV(p:Pr):Int:=if 32<p.2.length then 1 else Qq p.1.length
def XN(l:PL)(i:Nat):Int:=if QV (l.getD i ([],[]))=0then(if 0<i∧YN (l.getD (i-1) ([],[])).1 (l.getD i ([],[])).1=V then 3 else 0)else QV (l.getD i ([],[]))
def Kj(l:PL):Nat->Nat->Int|0,_=>0|n+1,i=>if XN l i=0then Kj l n (i+1)else XN l i
def QC(l:PL):Int:=if 60<l.length then 1 else Kj l l.length 0
theorem zT(l:PL)(n i:Nat)(hi:i<=n)(h:∀j,j<i->XN l j=0):Kj l n 0=Kj l (n-i) i:=by
 induction i with|zero=>rfl|succ i ih=>rw[ih (by omega) (fun j hj=>h j (by omega)),show n-i=(n-(i+1))+1by omega,Kj,if_pos (h i (by omega))]
theorem jZ(l:PL)(i:Nat)(hi:i<l.length)(hl:l.length<=60)(h:∀j,j<i->XN l j=0)(hf:XN l i≠0):QC l=XN l i:=by
 rw[QC,if_neg (by omega),zT l _ i (by omega) h,show l.length-i=(l.length-(i+1))+1by omega,Kj,if_neg hf]
theorem zS(l:PL)(hl:l.length<=60)(h:∀j,j<l.length->XN l j=0):QC l=0:=by
 rw[QC,if_neg (by omega),zT l _ l.length (sA _) h,oG,Kj]
theorem zP(l:PL)(hl:60<l.length):QC l=1:=by
 rw[QC,if_pos hl]
theorem xQ(l:PL):∀(n i:Nat),Kj l n i=0->∀j,i<=j->j<i+n->XN l j=0|0,i,_,j,h1,h2=>by omega|n+1,i,h,j,h1,h2=>by rw[Kj]at h;by_cases e:XN l i=0;(·rw[if_pos e]at h;by_cases hj:j=i;(·subst hj;exact e);·exact xQ l n (i+1) h j (by omega) (by omega));·rw[if_neg e]at h;exact absurd h e
def UB(l:PL):Prop:=l.Pairwise fun p q=>YN p.1 q.1=O
structure ZI(l:PL):Prop where room:l.length<=60pairs:∀p∈l,(1<=p.1.length∧p.1.length<=16)∧p.2.length<=32rises:UB l
theorem JL(p:Pr):QV p=0↔(1<=p.1.length∧p.1.length<=16)∧p.2.length<=32:=by
 unfold QV Qq;by_cases h:32<p.2.length;·rw[if_pos h];constructor;(·intro h;cases h);·intro h;omega
 ·rw[if_neg h];by_cases h2:1<=p.1.length∧p.1.length<=16;(·rw[if_pos h2];exact⟨fun _=>⟨h2,by omega⟩,fun _=>rfl⟩);·rw[if_neg h2];constructor;(·intro h;cases h);·intro h;exact absurd h.1 h2
theorem Ft(l:PL)(i:Nat):XN l i=0↔QV (l.getD i ([],[]))=0∧(0<i->YN (l.getD (i-1) ([],[])).1 (l.getD i ([],[])).1=O):=by
 unfold XN;by_cases h:QV (l.getD i ([],[]))=0;·rw[if_pos h];by_cases h2:0<i∧YN (l.getD (i-1) ([],[])).1 (l.getD i ([],[])).1=V;(·rw[if_pos h2];constructor;(·intro h;cases h);·intro h3;have:=h3.2 h2.1;rw[h2.2]at this;cases this);·rw[if_neg h2];refine⟨fun _=>⟨h,fun hi=>?_⟩,fun _=>rfl⟩;cases hk:YN (l.getD (i-1) ([],[])).1 (l.getD i ([],[])).1with|true=>rfl|false=>exact absurd ⟨hi,hk⟩ h2
 ·rw[if_neg h];constructor;(·intro h2;exact absurd h2 h);·intro h2;exact absurd h2.1 h
theorem xK:∀l:PL,(∀i,0<i->i<l.length->YN (l.getD (i-1) ([],[])).1 (l.getD i ([],[])).1=O)->UB l|[],_=>sZ|[_],_=>sQ _ _|p::q::r,h=>by(have ih:UB (q::r):=xK (q::r) fun i h0 hi=>by have:=h (i+1) (by omega) (by simp at hi⊢;omega);rw[show i+1-1=(i-1)+1by omega]at this;simpa using this);(have h01:YN p.1 q.1=O:=by have:=h 1 (by omega) (by simp);simpa using this);refine tU (fun x hx=>?_) ih;rcases tS.1 hx with rfl|hx;(·exact h01);·exact Kn _ _ _ h01 ((rF.1 ih).1 x hx)
theorem UX(l:PL)(h:UB l)(i j:Nat)(hij:i<j)(hj:j<l.length):YN (l.getD i ([],[])).1 (l.getD j ([],[])).1=O:=by
 have:=pC.1 h i j (by omega) hj hij;simpa[hj,show i<l.length by omega]using this
theorem YW(l:PL):QC l=0↔ZI l:=by
 constructor;·intro h;(have hl:l.length<=60:=by by_cases hl:60<l.length;(·rw[zP l hl]at h;cases h);·omega);rw[QC,if_neg (by omega)]at h;have ha:=fun j(hj:j<l.length)=>(Ft l j).1 (xQ l l.length 0 h j (by omega) (by omega));refine⟨hl,fun p hp=>?_,xK l fun i h0 hi=>(ha i hi).2 h0⟩;obtain⟨i,hi,rfl⟩:=L.1 hp;have:=(JL _).1 (ha i hi).1;simpa[hi]using this
 ·intro h;refine zS l h.room fun j hj=>(Ft l j).2 ⟨(JL _).2 ?_,fun h0=>UX l h.rises _ _ (by omega) hj⟩;have:=h.pairs l[j] (sF hj);simpa[hj]using this
theorem bD:ZI []:=⟨by
 simp,by
 simp,sZ⟩
def Ev(l:PL)(k:List UInt8):Option (List UInt8):=(l.find? fun p=>p.1==k).map (·.2)
theorem Ea(p:Pr)(l:PL)(k:List UInt8):Ev (p::l) k=if p.1=k then F p.2 else Ev l k:=by
 unfold Ev;by_cases h:p.1=k;·rw[pI (by simpa using h),if_pos h];rfl
 ·rw[pJ (by simpa using h),if_neg h]
theorem OW:∀(l:PL)(k:List UInt8)(i:Nat),i<l.length->(∀j,j<i->(l.getD j ([],[])).1≠k)->(l.getD i ([],[])).1=k->Ev l k=F (l.getD i ([],[])).2|[],_,_,h,_,_=>by simp at h|p::l,k,0,_,_,h2=>by rw[Ea,if_pos (by simpa using h2)];simp|p::l,k,i+1,h,h1,h2=>by rw[Ea,if_neg (by simpa using h1 0 (by omega))];have:=OW l k i (by simpa using h) (fun j hj=>by simpa using h1 (j+1) (by omega)) (by simpa using h2);simpa using this
theorem D0:∀(l:PL)(k:List UInt8),(∀j,j<l.length->(l.getD j ([],[])).1≠k)->Ev l k=H|[],_,_=>rfl|p::l,k,h=>by rw[Ea,if_neg (by simpa using h 0 (by simp))];exact D0 l k fun j hj=>by simpa using h (j+1) (by simpa using hj)
def Kl:PL->Pr->PL|[],p=>[p]|q::r,p=>if YN q.1 p.1=O then q::Kl r p else if q.1=p.1then p::r else p::q::r
def kM(l:PL)(k:List UInt8):PL:=l.filter fun q=>!(q.1==k)
def Vq(l:PL)(a b:List UInt8):PL:=l.filter fun q=>!YN q.1 a&&!YN b q.1
theorem MF(l:PL)(p x:Pr):x∈Kl l p->x=p∨x∈l:=by
 induction l with|nil=>intro h;simp[Kl]at h;exact .inl h|cons q r ih=>intro h;rw[Kl]at h;by_cases h1:YN q.1 p.1=O;(·rw[if_pos h1]at h;rcases tS.1 h with rfl|h;(·exact .inr (by simp));·rcases ih h with h|h;(·exact .inl h);·exact .inr (tY _ h));·rw[if_neg h1]at h;by_cases h2:q.1=p.1;(·rw[if_pos h2]at h;rcases tS.1 h with h|h;(·exact .inl h);·exact .inr (tY _ h));·rw[if_neg h2]at h;rcases tS.1 h with h|h;(·exact .inl h);·exact .inr h
theorem Pu(l:PL)(p:Pr)(h:UB l):UB (Kl l p):=by
 induction l with|nil=>exact sQ _ _|cons q r ih=>have hr:=rF.1 h;rw[Kl];by_cases h1:YN q.1 p.1=O;(·rw[if_pos h1];refine tU (fun x hx=>?_) (ih hr.2);rcases MF r p x hx with rfl|hx;(·exact h1);·exact hr.1 x hx);·rw[if_neg h1];by_cases h2:q.1=p.1;(·rw[if_pos h2];exact tU (fun x hx=>by rw[<-h2];exact hr.1 x hx) hr.2);·rw[if_neg h2];have hpq:=UR _ _ (by simpa using h1) h2;refine tU (fun x hx=>?_) h;rcases tS.1 hx with rfl|hx;(·exact hpq);·exact Kn _ _ _ hpq (hr.1 x hx)
theorem NP(l:PL)(k:List UInt8)(h:UB l):UB (kM l k):=sR _ h
theorem Bl(l:PL)(a b:List UInt8)(h:UB l):UB (Vq l a b):=sR _ h
def Xe(l:PL)(k:List UInt8):Int:=if QC l=0then Qq k.length else QC l
theorem jJ{l:PL}{k:List UInt8}(h:Xe l k=0):ZI l:=by
 unfold Xe at h;by_cases h0:QC l=0;·exact(YW l).1 h0
 ·rw[if_neg h0]at h;exact absurd h h0
theorem Zy(n:Nat):Qq n=0↔1<=n∧n<=16:=by
 unfold Qq;by_cases h:1<=n∧n<=16;·rw[if_pos h];exact⟨fun _=>h,fun _=>rfl⟩
 ·rw[if_neg h];constructor;(·intro h2;cases h2);·intro h2;exact absurd h2 h
theorem aA{l:PL}{k:List UInt8}(h:Xe l k=0):1<=k.length∧k.length<=16:=by
 have ht:=(YW l).2 (jJ h);unfold Xe at h;rw[if_pos ht]at h;exact(Zy _).1 h
theorem Ph{l:PL}{k:List UInt8}(h:ZI l)(hk:1<=k.length∧k.length<=16):Xe l k=0:=by
 unfold Xe;rw[if_pos ((YW l).2 h)];exact(Zy _).2 hk
def Et(l:PL)(k:List UInt8):Bool:=Xe l k==0&&(Ev l k).isSome
def Ew(l:PL)(k:List UInt8):List UInt8:=if Xe l k=0then(Ev l k).getD []else[]
def z8(l:PL)(k:List UInt8):PL:=if Xe l k=0then kM l k else[]
theorem Lr(l:PL)(k:List UInt8):(kM l k).length<=l.length:=sX _ _
def YH(l:PL)(f t:List UInt8):Int:=if Xe l f=0then Qq t.length else Xe l f
theorem Ae{l:PL}{f t:List UInt8}(h:YH l f t=0):Xe l f=0:=by
 unfold YH at h;by_cases h0:Xe l f=0;·exact h0
 ·rw[if_neg h0]at h;exact absurd h h0
def KZ(l:PL)(f t:List UInt8):PL:=if YH l f t=0then Vq l f t else[]
theorem Ih(l:PL)(f t:List UInt8):(Vq l f t).length<=l.length:=sX _ _
def V5(l:PL)(p:Pr):Int:=if QC l=0then QV p else QC l
def Ks(l:PL)(p:Pr):Int:=if V5 l p=0then(if 60<(Kl l p).length then 11 else 0)else V5 l p
def Vx(l:PL)(p:Pr):PL:=if Ks l p=0then Kl l p else[]
theorem e9(l:PL)(p:Pr):(Kl l p).length<=l.length+1:=by
 induction l with|nil=>simp[Kl]|cons q r ih=>rw[Kl];by_cases h1:YN q.1 p.1=O;(·rw[if_pos h1];simp;omega);·rw[if_neg h1];by_cases h2:q.1=p.1;(·rw[if_pos h2];simp);·rw[if_neg h2];simp
structure uJ (l : PL) : Prop where
  many : l.length * 48 <= 140737488355328
  each : ∀ i, i < l.length -> (l.getD i ([], [])).1.length <= 140737488355328 ∧ (l.getD i ([], [])).2.length <= 140737488355328
theorem uJ.len{l:PL}(h:uJ l):l.length<=140737488355328:=by
 have:=h.many;omega
theorem ZI.fits{l:PL}(h:ZI l):uJ l:=by
 refine⟨by have:=h.room;omega,fun i hi=>?_⟩;have:=h.pairs l[i] (sF hi);rw[show l[i]=l.getD i ([],[])by simp[hi]]at this;omega
abbrev Tn:=List UInt8×PL
abbrev FL:=List Tn
def YI(l:FL):Prop:=l.Pairwise fun p q=>YN p.1 q.1=O
def xL(l:FL)(k:List UInt8):Option PL:=(l.find? fun p=>p.1==k).map (·.2)
theorem kO(p:Tn)(l:FL)(k:List UInt8):xL (p::l) k=if p.1=k then F p.2 else xL l k:=by
 unfold xL;by_cases h:p.1=k;·rw[pI (by simpa using h),if_pos h];rfl
 ·rw[pJ (by simpa using h),if_neg h]
theorem Bc:∀(l:FL)(k:List UInt8)(i:Nat),i<l.length->(∀j,j<i->(l.getD j ([],[])).1≠k)->(l.getD i ([],[])).1=k->xL l k=F (l.getD i ([],[])).2|[],_,_,h,_,_=>by simp at h|p::l,k,0,_,_,h2=>by rw[kO,if_pos (by simpa using h2)];simp|p::l,k,i+1,h,h1,h2=>by rw[kO,if_neg (by simpa using h1 0 (by omega))];have:=Bc l k i (by simpa using h) (fun j hj=>by simpa using h1 (j+1) (by omega)) (by simpa using h2);simpa using this
theorem Rj:∀(l:FL)(k:List UInt8),(∀j,j<l.length->(l.getD j ([],[])).1≠k)->xL l k=H|[],_,_=>rfl|p::l,k,h=>by rw[kO,if_neg (by simpa using h 0 (by simp))];exact Rj l k fun j hj=>by simpa using h (j+1) (by simpa using hj)
def Jz:FL->Tn->FL|[],p=>[p]|q::r,p=>if YN q.1 p.1=O then q::Jz r p else if q.1=p.1then p::r else p::q::r
def kU(l:FL)(k:List UInt8):FL:=l.filter fun q=>!(q.1==k)
theorem E8(l:FL)(p x:Tn):x∈Jz l p->x=p∨x∈l:=by
 induction l with|nil=>intro h;simp[Jz]at h;exact .inl h|cons q r ih=>intro h;rw[Jz]at h;by_cases h1:YN q.1 p.1=O;(·rw[if_pos h1]at h;rcases tS.1 h with rfl|h;(·exact .inr (by simp));·rcases ih h with h|h;(·exact .inl h);·exact .inr (tY _ h));·rw[if_neg h1]at h;by_cases h2:q.1=p.1;(·rw[if_pos h2]at h;rcases tS.1 h with h|h;(·exact .inl h);·exact .inr (tY _ h));·rw[if_neg h2]at h;rcases tS.1 h with h|h;(·exact .inl h);·exact .inr h
theorem Dq(l:FL)(p:Tn)(h:YI l):YI (Jz l p):=by
 induction l with|nil=>exact sQ _ _|cons q r ih=>have hr:=rF.1 h;rw[Jz];by_cases h1:YN q.1 p.1=O;(·rw[if_pos h1];refine tU (fun x hx=>?_) (ih hr.2);rcases E8 r p x hx with rfl|hx;(·exact h1);·exact hr.1 x hx);·rw[if_neg h1];by_cases h2:q.1=p.1;(·rw[if_pos h2];exact tU (fun x hx=>by rw[<-h2];exact hr.1 x hx) hr.2);·rw[if_neg h2];have hpq:=UR _ _ (by simpa using h1) h2;refine tU (fun x hx=>?_) h;rcases tS.1 hx with rfl|hx;(·exact hpq);·exact Kn _ _ _ hpq (hr.1 x hx)
theorem Bd(l:FL)(k:List UInt8)(h:YI l):YI (kU l k):=sR _ h
theorem W9(l:FL)(p:Tn):(Jz l p).length<=l.length+1:=by
 induction l with|nil=>simp[Jz]|cons q r ih=>rw[Jz];by_cases h1:YN q.1 p.1=O;(·rw[if_pos h1];simp;omega);·rw[if_neg h1];by_cases h2:q.1=p.1;(·rw[if_pos h2];simp);·rw[if_neg h2];simp
theorem N4(l:FL)(k:List UInt8):(kU l k).length<=l.length:=sX _ _
def Qt(n:Nat):Int:=if 1<=n∧n<=8then 0 else 1
theorem ZG(n:Nat):Qt n=0↔1<=n∧n<=8:=by
 unfold Qt;by_cases h:1<=n∧n<=8;·rw[if_pos h];exact⟨fun _=>h,fun _=>rfl⟩
 ·rw[if_neg h];constructor;(·intro h2;cases h2);·intro h2;exact absurd h2 h
def XF(t:Tn):Int:=if Qt t.1.length=0then(if t.2.length=0then 4 else QC t.2)else Qt t.1.length
theorem Pf(t:Tn):XF t=0↔(1<=t.1.length∧t.1.length<=8)∧t.2≠[]∧ZI t.2:=by
 unfold XF;by_cases h:Qt t.1.length=0;·rw[if_pos h];by_cases h2:t.2.length=0;(·rw[if_pos h2];constructor;(·intro h3;cases h3);·intro h3;exact absurd (tD h2) h3.2.1);·rw[if_neg h2,YW];exact⟨fun h3=>⟨(ZG _).1 h,fun e=>h2 (by rw[e];rfl),h3⟩,fun h3=>h3.2.2⟩
 ·rw[if_neg h];constructor;(·intro h2;exact absurd h2 h);·intro h2;exact absurd ((ZG _).2 h2.1) h
def Kv(l:FL)(i:Nat):Int:=if XF (l.getD i ([],[]))=0then(if 0<i∧YN (l.getD (i-1) ([],[])).1 (l.getD i ([],[])).1=V then 3 else 0)else XF (l.getD i ([],[]))
def VG(l:FL):Nat->Nat->Int|0,_=>0|n+1,i=>if Kv l i=0then VG l n (i+1)else Kv l i
def Q9(l:FL):Int:=if 8<l.length then 1 else VG l l.length 0
theorem jU(l:FL)(n i:Nat)(hi:i<=n)(h:∀j,j<i->Kv l j=0):VG l n 0=VG l (n-i) i:=by
 induction i with|zero=>rfl|succ i ih=>rw[ih (by omega) (fun j hj=>h j (by omega)),show n-i=(n-(i+1))+1by omega,VG,if_pos (h i (by omega))]
theorem Ec(l:FL)(i:Nat)(hi:i<l.length)(hl:l.length<=8)(h:∀j,j<i->Kv l j=0)(hf:Kv l i≠0):Q9 l=Kv l i:=by
 rw[Q9,if_neg (by omega),jU l _ i (by omega) h,show l.length-i=(l.length-(i+1))+1by omega,VG,if_neg hf]
theorem uX(l:FL)(hl:l.length<=8)(h:∀j,j<l.length->Kv l j=0):Q9 l=0:=by
 rw[Q9,if_neg (by omega),jU l _ l.length (sA _) h,oG,VG]
theorem vZ(l:FL)(hl:8<l.length):Q9 l=1:=by
 rw[Q9,if_pos hl]
theorem vV(l:FL):∀(n i:Nat),VG l n i=0->∀j,i<=j->j<i+n->Kv l j=0|0,i,_,j,h1,h2=>by omega|n+1,i,h,j,h1,h2=>by rw[VG]at h;by_cases e:Kv l i=0;(·rw[if_pos e]at h;by_cases hj:j=i;(·subst hj;exact e);·exact vV l n (i+1) h j (by omega) (by omega));·rw[if_neg e]at h;exact absurd h e
theorem EX(l:FL)(i:Nat):Kv l i=0↔XF (l.getD i ([],[]))=0∧(0<i->YN (l.getD (i-1) ([],[])).1 (l.getD i ([],[])).1=O):=by
 unfold Kv;by_cases h:XF (l.getD i ([],[]))=0;·rw[if_pos h];by_cases h2:0<i∧YN (l.getD (i-1) ([],[])).1 (l.getD i ([],[])).1=V;(·rw[if_pos h2];constructor;(·intro h;cases h);·intro h3;have:=h3.2 h2.1;rw[h2.2]at this;cases this);·rw[if_neg h2];refine⟨fun _=>⟨h,fun hi=>?_⟩,fun _=>rfl⟩;cases hk:YN (l.getD (i-1) ([],[])).1 (l.getD i ([],[])).1with|true=>rfl|false=>exact absurd ⟨hi,hk⟩ h2
 ·rw[if_neg h];constructor;(·intro h2;exact absurd h2 h);·intro h2;exact absurd h2.1 h
theorem G8:∀l:FL,(∀i,0<i->i<l.length->YN (l.getD (i-1) ([],[])).1 (l.getD i ([],[])).1=O)->YI l|[],_=>sZ|[_],_=>sQ _ _|p::q::r,h=>by(have ih:YI (q::r):=G8 (q::r) fun i h0 hi=>by have:=h (i+1) (by omega) (by simp at hi⊢;omega);rw[show i+1-1=(i-1)+1by omega]at this;simpa using this);(have h01:YN p.1 q.1=O:=by have:=h 1 (by omega) (by simp);simpa using this);refine tU (fun x hx=>?_) ih;rcases tS.1 hx with rfl|hx;(·exact h01);·exact Kn _ _ _ h01 ((rF.1 ih).1 x hx)
theorem zB(l:FL)(h:YI l)(i j:Nat)(hij:i<j)(hj:j<l.length):YN (l.getD i ([],[])).1 (l.getD j ([],[])).1=O:=by
 have:=pC.1 h i j (by omega) hj hij;simpa[hj,show i<l.length by omega]using this
structure Xr(l:FL):Prop where room:l.length<=8tens:∀t∈l,(1<=t.1.length∧t.1.length<=8)∧t.2≠[]∧ZI t.2rises:YI l
theorem Ya(l:FL):Q9 l=0↔Xr l:=by
 constructor;·intro h;(have hl:l.length<=8:=by by_cases hl:8<l.length;(·rw[vZ l hl]at h;cases h);·omega);rw[Q9,if_neg (by omega)]at h;have ha:=fun j(hj:j<l.length)=>(EX l j).1 (vV l l.length 0 h j (by omega) (by omega));refine⟨hl,fun p hp=>?_,G8 l fun i h0 hi=>(ha i hi).2 h0⟩;obtain⟨i,hi,rfl⟩:=L.1 hp;have:=(Pf _).1 (ha i hi).1;simpa[hi]using this
 ·intro h;refine uX l h.room fun j hj=>(EX l j).2 ⟨(Pf _).2 ?_,fun h0=>zB l h.rises _ _ (by omega) hj⟩;have:=h.tens l[j] (sF hj);simpa[hj]using this
theorem VR:Xr []:=⟨by
 simp,by
 simp,sZ⟩
def Jn(l:FL)(n:List UInt8):PL:=(xL l n).getD []
theorem iC(n:List UInt8):Jn [] n=[]:=rfl
theorem Uo{l:FL}(h:Xr l)(n:List UInt8):ZI (Jn l n):=by
 unfold Jn xL;cases hf:l.find? (fun p=>p.1==n)with|none=>exact bD|some t=>exact(h.tens t (List.mem_of_find?_eq_some hf)).2.2
def QG(w:Zi):Int:=if Qt w.name.length=0then(if w.gone=O then(if Qq w.key.length=0then(if 0<w.value.length then 4 else 0)else Qq w.key.length)else QV (w.key,w.value))else Qt w.name.length
def YA(l:FL)(w:Zi):PL:=if w.gone=O then kM (Jn l w.name) w.key else Kl (Jn l w.name) (w.key,w.value)
def qG(l:FL)(w:Zi):Int:=if w.gone=O then Xe (Jn l w.name) w.key else Ks (Jn l w.name) (w.key,w.value)
def Zv(l:FL)(w:Zi):FL:=if(YA l w).length=0then kU l w.name else Jz l (w.name,YA l w)
def YF(l:FL)(w:Zi):Int:=if qG l w=0then(if 8<(Zv l w).length then 11 else 0)else qG l w
def Xg:FL->List Zi->Int|_,[]=>0|l,w::ws=>if QG w=0then(if YF l w=0then Xg (Zv l w) ws else YF l w)else QG w
def JA:FL->List Zi->FL|l,[]=>l|l,w::ws=>JA (Zv l w) ws
def Q5(l:FL)(ws:List Zi):Int:=if Q9 l=0then(if 10<ws.length then 1 else Xg l ws)else Q9 l
def Xx(l:FL)(ws:List Zi):FL:=if Q5 l ws=0then JA l ws else[]
theorem XO(w:Zi):QG w=0↔(1<=w.name.length∧w.name.length<=8)∧(1<=w.key.length∧w.key.length<=16)∧(if w.gone=O then w.value=[]else w.value.length<=32):=by
 unfold QG;by_cases hn:Qt w.name.length=0;·rw[if_pos hn];have hn':=(ZG _).1 hn;by_cases hg:w.gone=O;(·rw[if_pos hg,if_pos hg];by_cases hk:Qq w.key.length=0;(·rw[if_pos hk];have hk':=(Zy _).1 hk;by_cases hv:0<w.value.length;(·rw[if_pos hv];constructor;(·intro h;cases h);·intro h;rw[h.2.2]at hv;simp at hv);·rw[if_neg hv];exact⟨fun _=>⟨hn',hk',tD (by omega)⟩,fun _=>rfl⟩);·rw[if_neg hk];constructor;(·intro h;exact absurd h hk);·intro h;exact absurd ((Zy _).2 h.2.1) hk);·rw[if_neg hg,if_neg hg,JL];exact⟨fun h=>⟨hn',h.1,h.2⟩,fun h=>⟨h.2.1,h.2.2⟩⟩
 ·rw[if_neg hn];constructor;(·intro h;exact absurd h hn);·intro h;exact absurd ((ZG _).2 h.1) hn
theorem I7{l:FL}(h:Xr l){w:Zi}(hw:QG w=0)(he:qG l w=0):ZI (YA l w):=by
 obtain⟨_,hk,hv⟩:=(XO w).1 hw;have hT:=Uo h w.name;unfold YA;unfold qG at he;by_cases hg:w.gone=O;·rw[if_pos hg];exact⟨rC (Lr _ _) hT.room,fun p hp=>hT.pairs p (rY.1 hp).1,NP _ _ hT.rises⟩
 ·rw[if_neg hg]at he hv⊢;(have h60:¬60<(Kl (Jn l w.name) (w.key,w.value)).length:=by intro h60;unfold Ks at he;by_cases h0:V5 (Jn l w.name) (w.key,w.value)=0;(·rw[if_pos h0,if_pos h60]at he;cases he);·rw[if_neg h0]at he;exact h0 he);refine⟨by omega,fun q hq=>?_,Pu _ _ hT.rises⟩;rcases MF _ _ q hq with rfl|hq;(·exact⟨hk,hv⟩);·exact hT.pairs q hq
theorem Ep{l:FL}(h:YI l)(w:Zi):YI (Zv l w):=by
 unfold Zv;by_cases hn:(YA l w).length=0;·rw[if_pos hn];exact Bd _ _ h
 ·rw[if_neg hn];exact Dq _ _ h
theorem yO{l:FL}(h:Xr l){w:Zi}(hw:QG w=0)(he:YF l w=0):Xr (Zv l w):=by
 have hE:qG l w=0:=by by_cases h0:qG l w=0;(·exact h0);·unfold YF at he;rw[if_neg h0]at he;exact absurd he h0
 have hl:(Zv l w).length<=8:=by unfold YF at he;rw[if_pos hE]at he;by_cases h8:8<(Zv l w).length;(·rw[if_pos h8]at he;cases he);·omega
 obtain⟨hn,_,_⟩:=(XO w).1 hw;refine⟨hl,fun t ht=>?_,Ep h.rises w⟩;unfold Zv at ht;by_cases h0:(YA l w).length=0;·rw[if_pos h0]at ht;exact h.tens t (rY.1 ht).1
 ·rw[if_neg h0]at ht;rcases E8 _ _ t ht with rfl|ht;(·exact⟨hn,fun e=>h0 (by rw[show YA l w=[]from e];rfl),I7 h hw hE⟩);·exact h.tens t ht
structure Rd where
  name : List UInt8
  key : List UInt8
  wide : Bool
  last : List UInt8
def Zg:Rd:=⟨[],[],V,[]⟩
def XI(r:Rd):Int:=if Qt r.name.length=0then(if Qq r.key.length=0then(if r.wide=O then Qq r.last.length else(if 0<r.last.length then 4 else 0))else Qq r.key.length)else Qt r.name.length
theorem EW(r:Rd):XI r=0↔(1<=r.name.length∧r.name.length<=8)∧(1<=r.key.length∧r.key.length<=16)∧(if r.wide=O then 1<=r.last.length∧r.last.length<=16 else r.last=[]):=by
 unfold XI;by_cases hn:Qt r.name.length=0;·rw[if_pos hn];have hn':=(ZG _).1 hn;by_cases hk:Qq r.key.length=0;(·rw[if_pos hk];have hk':=(Zy _).1 hk;by_cases hw:r.wide=O;(·rw[if_pos hw,if_pos hw,Zy];exact⟨fun h=>⟨hn',hk',h⟩,fun h=>h.2.2⟩);·rw[if_neg hw,if_neg hw];by_cases hl:0<r.last.length;(·rw[if_pos hl];exact⟨fun h=>by omega,fun h=>by rw[h.2.2]at hl;simp at hl⟩);·rw[if_neg hl];exact⟨fun _=>⟨hn',hk',tD (by omega)⟩,fun _=>rfl⟩);·rw[if_neg hk];exact⟨fun h=>absurd h hk,fun h=>absurd ((Zy _).2 h.2.1) hk⟩
 ·rw[if_neg hn];exact⟨fun h=>absurd h hn,fun h=>absurd ((ZG _).2 h.1) hn⟩
def Xd(w:I)(v:N)(p:Zi):Prop:=∃vn vk vv,v=pN #[vn,vk,pO p.gone,vv]∧Qe w vn p.name∧Qe w vk p.key∧Qe w vv p.value
theorem Xd.grown{w w':I}{v:N}{p:Zi}(h:Xd w v p)(hg:J w w' H):Xd w' v p:=by
 obtain⟨vn,vk,vv,rfl,h1,h2,h3⟩:=h;exact⟨vn,vk,vv,rfl,h1.grown hg,h2.grown hg,h3.grown hg⟩
theorem Xd.aggW{w:I}{v:N}{p:Zi}(h:Xd w v p):∃na nc ka kc va vc,v=pN #[tH na p.name.length nc,tH ka p.key.length kc,pO p.gone,tH va p.value.length vc]:=by
 obtain⟨vn,vk,vv,rfl,h1,h2,h3⟩:=h;obtain⟨na,nc,rfl⟩:=h1.shape;obtain⟨ka,kc,rfl⟩:=h2.shape;obtain⟨va,vc,rfl⟩:=h3.shape;exact⟨na,nc,ka,kc,va,vc,rfl⟩
def vK(w:I)(b o:Nat)(p:Zi):Prop:=∃vn vk vv,w.cell? ⟨b,o,H⟩=F vn∧w.cell? ⟨b,o+1,H⟩=F vk∧w.cell? ⟨b,o+2,H⟩=F (pO p.gone)∧w.cell? ⟨b,o+3,H⟩=F vv∧Qe w vn p.name∧Qe w vk p.key∧Qe w vv p.value
theorem vK.grown{w w':I}{b o:Nat}{p:Zi}(h:vK w b o p)(hg:J w w' H):vK w' b o p:=by
 obtain⟨vn,vk,vv,c1,c2,c3,c4,h1,h2,h3⟩:=h;exact⟨vn,vk,vv,hg.cell c1 (by simp),hg.cell c2 (by simp),hg.cell c3 (by simp),hg.cell c4 (by simp),h1.grown hg,h2.grown hg,h3.grown hg⟩
def QQ(w:I)(v:N)(l:List Zi):Prop:=∃a cap,v=tH a l.length cap∧l.length<=cap∧((l=[]∧(a=H->cap=0))∨∃b o,a=F ⟨b,o,H⟩∧∀i,i<l.length->vK w b (o+i*4) (l.getD i Qs))
theorem QQ.shape{w:I}{v:N}{l:List Zi}(h:QQ w v l):∃a cap,v=tH a l.length cap:=by
 obtain⟨a,cap,rfl,_⟩:=h;exact⟨a,cap,rfl⟩
theorem QQ.grown{w w':I}{v:N}{l:List Zi}(h:QQ w v l)(hg:J w w' H):QQ w' v l:=by
 obtain⟨a,cap,rfl,hc,h⟩:=h;refine⟨a,cap,rfl,hc,?_⟩;rcases h with h|⟨b,o,rfl,h⟩;·exact .inl h
 ·exact .inr ⟨b,o,rfl,fun i hi=>(h i hi).grown hg⟩
theorem QQ.at{w:I}{a:Option pD}{n cap:Nat}{l:List Zi}(h:QQ w (tH a n cap) l)(i:Nat)(hi:i<l.length):∃b o,a=F ⟨b,o,H⟩∧vK w b (o+i*4) (l.getD i Qs):=by
 obtain⟨a',cap',e,hc,h⟩:=h;simp only[rB]at e;obtain⟨rfl,rfl,rfl⟩:=e;rcases h with⟨rfl,_⟩|⟨b,o,rfl,h⟩;·simp at hi
 ·exact⟨b,o,rfl,h i hi⟩
structure uN (l : List Zi) : Prop where
  many : l.length * 80 <= 140737488355328
  each : ∀ i, i < l.length -> YX (l.getD i Qs)
theorem uN.len{l:List Zi}(h:uN l):l.length<=140737488355328:=by
 have:=h.many;omega
structure XG where
  turn : Int
  writes : List Zi
def Zn:XG:=⟨0,[]⟩
def Ad:Nat->List Zi->Int|_,[]=>0|i,w::ws=>if(if 10<=i then(1:Int)else QG w)=0then Ad (i+1) ws else(if 10<=i then(1:Int)else QG w)
def Zc(c:XG):Int:=if 1<=c.turn∧c.turn<=1048576then(if c.writes.length=0then 1 else Ad 0 c.writes)else 2
theorem LP:∀(ws:List Zi)(i:Nat),Ad i ws=0↔(ws=[]∨i+ws.length<=10)∧∀w∈ws,QG w=0|[],i=>by simp[Ad]|w::ws,i=>by have ih:=LP ws (i+1);rw[Ad];by_cases h10:10<=i;(·rw[if_pos h10,if_neg (by omega)];constructor;(·intro h;omega);·rintro⟨h|h,_⟩;(·cases h);·simp at h;omega);·rw[if_neg h10];by_cases hw:QG w=0;(·rw[if_pos hw,ih];constructor;(·rintro⟨h1,h2⟩;refine⟨.inr ?_,?_⟩;(·rcases h1 with rfl|h1;(·simp;omega);·simp;omega);·intro x hx;rcases tS.1 hx with rfl|hx;(·exact hw);·exact h2 x hx);·rintro⟨h1,h2⟩;refine⟨.inr ?_,fun x hx=>h2 x (tY _ hx)⟩;rcases h1 with h1|h1;(·cases h1);·simp at h1;omega);·rw[if_neg hw];constructor;(·intro h;exact absurd h hw);·rintro⟨_,h2⟩;exact absurd (h2 w (rT ..)) hw
theorem K4(c:XG):Zc c=0↔(1<=c.turn∧c.turn<=1048576)∧(1<=c.writes.length∧c.writes.length<=10)∧∀w∈c.writes,QG w=0:=by
 unfold Zc;by_cases h1:1<=c.turn∧c.turn<=1048576;·rw[if_pos h1];by_cases h2:c.writes.length=0;(·rw[if_pos h2];constructor;(·intro h;omega);·rintro⟨_,h,_⟩;omega);·rw[if_neg h2,LP];constructor;(·rintro⟨h3|h3,h4⟩;(·rw[h3]at h2;simp at h2);·exact⟨h1,⟨by omega,by omega⟩,h4⟩);·rintro⟨_,h3,h4⟩;exact⟨.inr (by omega),h4⟩
 ·rw[if_neg h1];constructor;(·intro h;omega);·rintro⟨h,_⟩;exact absurd h h1
theorem dE(ws:List Zi)(i:Nat)(h:i<ws.length):Ad i (ws.drop i)=if(if 10<=i then(1:Int)else QG (ws.getD i Qs))=0then Ad (i+1) (ws.drop (i+1))else(if 10<=i then(1:Int)else QG (ws.getD i Qs)):=by
 rw[sD h,Ad,show ws[i]=ws.getD i Qs by simp[h]]
theorem eS(ws:List Zi):Ad ws.length (ws.drop ws.length)=0:=by
 rw[List.drop_length,Ad]
def XP(p:List UInt8):List UInt8:=tC p.length::p
theorem qO(p:List UInt8):(XP p).length=p.length+1:=rfl
def GA(w:Zi):List UInt8:=if w.gone=O then[255]else XP w.value
def Yi(w:Zi):List UInt8:=XP w.name++XP w.key++GA w
def Vh(t n:Nat):List UInt8:=[tC (t/65536),tC (t/256%256),tC (t%256),tC n]
def Zl(c:XG):List UInt8:=Vh c.turn.toNat c.writes.length++c.writes.flatMap Yi
def Zx:List UInt8->Option (List UInt8×List UInt8)|[]=>H|x::r=>if x.toNat<=r.length then F (r.take x.toNat,r.drop x.toNat)else H
def vB(n k r:List UInt8):Option (Zi×List UInt8):=if r.head?=F 255then F (⟨n,k,[],O⟩,r.tail)else match Zx r with|F (v,r2)=>F (⟨n,k,v,V⟩,r2)|none=>H
def M3(n r:List UInt8):Option (Zi×List UInt8):=match Zx r with|F (k,r2)=>vB n k r2|none=>H
def Ji(r:List UInt8):Option (Zi×List UInt8):=match Zx r with|F (n,r2)=>M3 n r2|none=>H
def ZY:Nat->List UInt8->Option (List Zi×List UInt8)|0,r=>F ([],r)|n+1,r=>match Ji r with|F (w,r1)=>(match ZY n r1 with|F (ws,r2)=>F (w::ws,r2)|none=>H)|none=>H
theorem D4{p:List UInt8}(h:p.length<256):(tC p.length).toNat=p.length:=by
 simp;omega
theorem Vy(p r:List UInt8)(h:p.length<256):Zx (XP p++r)=F (p,r):=by
 show Zx (tC p.length::(p++r))=_;rw[Zx,D4 h,if_pos (by simp),rM,rN]<;>rfl
theorem Gt{r p r2:List UInt8}(h:Zx r=F (p,r2)):r=XP p++r2:=by
 cases r with|nil=>cases h|cons x r=>rw[Zx]at h;by_cases hx:x.toNat<=r.length;(·rw[if_pos hx]at h;simp only[tP,sC]at h;obtain⟨rfl,rfl⟩:=h;(have hl:(r.take x.toNat).length=x.toNat:=by simp;omega);show x::r=tC (r.take x.toNat).length::(r.take x.toNat++r.drop x.toNat);rw[hl,tE];simp);·rw[if_neg hx]at h;cases h
theorem Au{r p r2:List UInt8}(h:Zx r=F (p,r2))(x:List UInt8):Zx (r++x)=F (p,r2++x):=by
 cases r with|nil=>cases h|cons y r=>rw[Zx]at h;by_cases hy:y.toNat<=r.length;(·rw[if_pos hy]at h;simp only[tP,sC]at h;obtain⟨rfl,rfl⟩:=h;show Zx (y::(r++x))=_;rw[Zx,if_pos (by simp;omega),r7 hy,r8 hy]);·rw[if_neg hy]at h;cases h
theorem AS{w:Zi}(hw:QG w=0)(r:List UInt8):Ji (Yi w++r)=F (w,r):=by
 obtain⟨h1,h2,h3⟩:=(XO w).1 hw;unfold Ji Yi;rw[tB,tB,Vy _ _ (by omega)];show M3 w.name (XP w.key++(GA w++r))=_;unfold M3;rw[Vy _ _ (by omega)];show vB w.name w.key (GA w++r)=_;unfold vB GA;by_cases hg:w.gone=O;·rw[if_pos hg]at h3⊢;rw[if_pos (by rfl)];obtain⟨n,k,v,g⟩:=w;simp only at hg h3;subst hg h3;rfl
 ·rw[if_neg hg]at h3⊢;rw[if_neg,Vy _ _ (by omega)];(·obtain⟨n,k,v,g⟩:=w;simp only[Bool.not_eq_true]at hg;subst hg;rfl);·show¬(F (tC w.value.length)=F 255);intro e;have:=congrArg UInt8.toNat (pK e);rw[D4 (by omega)]at this;have h255:(255:UInt8).toNat=255:=rfl;omega
theorem FN:∀(ws:List Zi)(_:∀w∈ws,QG w=0)(r:List UInt8),ZY ws.length (ws.flatMap Yi++r)=F (ws,r)|[],_,r=>rfl|w::ws,h,r=>by show ZY (ws.length+1) ((w::ws).flatMap Yi++r)=_;rw[ZY,rH,tB,AS (h w (rT ..))];show(match ZY ws.length (ws.flatMap Yi++r)with|F (ws',r2)=>F (w::ws',r2)|none=>H)=_;rw[FN ws (fun x hx=>h x (tY _ hx)) r]
theorem DM{r r2:List UInt8}{w:Zi}(h:Ji r=F (w,r2)):r=Yi w++r2:=by
 unfold Ji at h;cases h1:Zx r with|none=>rw[h1]at h;cases h|some q=>obtain⟨n,ra⟩:=q;rw[h1]at h;have h:M3 n ra=F (w,r2):=h;unfold M3 at h;cases h2:Zx ra with|none=>rw[h2]at h;cases h|some q=>obtain⟨k,rb⟩:=q;rw[h2]at h;have h:vB n k rb=F (w,r2):=h;rw[Gt h1,Gt h2];unfold vB at h;by_cases hg:rb.head?=F 255;(·rw[if_pos hg]at h;simp only[tP,sC]at h;obtain⟨rfl,rfl⟩:=h;cases rb with|nil=>cases hg|cons x rb=>obtain rfl:x=255:=pK hg;show XP n++(XP k++255::rb)=XP n++XP k++[255]++rb;simp[tB]);·rw[if_neg hg]at h;cases h3:Zx rb with|none=>rw[h3]at h;cases h|some q=>obtain⟨v,rc⟩:=q;rw[h3]at h;simp only[tP,sC]at h;obtain⟨rfl,rfl⟩:=h;rw[Gt h3];show XP n++(XP k++(XP v++rc))=XP n++XP k++XP v++rc;simp[tB]
theorem Pk:∀(n:Nat){r r2:List UInt8}{ws:List Zi},ZY n r=F (ws,r2)->r=ws.flatMap Yi++r2∧ws.length=n|0,r,r2,ws,h=>by rw[ZY]at h;simp only[tP,sC]at h;obtain⟨rfl,rfl⟩:=h;exact⟨rfl,rfl⟩|n+1,r,r2,ws,h=>by rw[ZY]at h;cases h1:Ji r with|none=>rw[h1]at h;cases h|some q=>obtain⟨w,ra⟩:=q;rw[h1]at h;have h:(match ZY n ra with|F (ws,r2)=>F (w::ws,r2)|none=>H)=F (ws,r2):=h;cases h2:ZY n ra with|none=>rw[h2]at h;cases h|some q=>obtain⟨ws',rb⟩:=q;rw[h2]at h;simp only[tP,sC]at h;obtain⟨rfl,rfl⟩:=h;obtain⟨e1,e2⟩:=Pk n h2;exact⟨by rw[DM h1,e1,rH,tB],by simp[e2]⟩
theorem xJ : ∀ (n : Nat) (r : List UInt8), ZY (n + 1) r = match ZY n r with | F (ws, r1) => (match Ji r1 with | F (w, r2) => F (ws ++ [w], r2) | none => H) | none => H
  | 0, r => by
    rw [ZY]
    cases h : Ji r with
    | none => simp [ZY, h]
    | some q => obtain ⟨w, ra⟩ := q; simp [ZY, h]
  | n + 1, r => by
    rw [ZY]
    cases h : Ji r with
    | none =>
      show H = _
      rw [ZY, h]
    | some q =>
      obtain ⟨w, ra⟩ := q
      show (match ZY (n + 1) ra with | F (ws, r2) => F (w :: ws, r2) | none => H) = _
      rw [xJ n ra, show ZY (n + 1) r = (match ZY n ra with | F (ws, r2) => F (w :: ws, r2) | none => H) by rw [ZY, h]]
      cases h2 : ZY n ra with
      | none => rfl
      | some q =>
        obtain ⟨ws, rb⟩ := q
        show (match (match Ji rb with | F (w, r2) => F (ws ++ [w], r2) | none => H) with | F (ws, r2) => F (w :: ws, r2) | none => H) = (match Ji rb with | F (w', r2) => F (w :: ws ++ [w'], r2) | none => H)
        cases Ji rb with
        | none => rfl
        | some q => rfl
def Gg(b:List UInt8):Nat:=65536*(b.getD 0 0).toNat+256*(b.getD 1 0).toNat+(b.getD 2 0).toNat
def G6(b:List UInt8):Option (List Zi×List UInt8):=ZY (b.getD 3 0).toNat (b.drop 4)
def YL(b:List UInt8):Int:=if 4000<b.length then 1 else if b.length<4then 14 else match G6 b with|none=>14|F (ws,r)=>if r.length=0then Zc ⟨(Gg b:Int),ws⟩else 4
def JN(b:List UInt8):XG:=if YL b=0then(match G6 b with|F (ws,_)=>⟨(Gg b:Int),ws⟩|none=>Zn)else Zn
theorem Fc(t n:Nat):(Vh t n).length=4:=rfl
theorem IJ(t n:Nat)(x:List UInt8)(ht:t<=1048576):Gg (Vh t n++x)=t:=by
 show 65536*(tC (t/65536)).toNat+256*(tC (t/256%256)).toNat+(tC (t%256)).toNat=t;simp only[pS];omega
theorem Wf(t n:Nat)(x:List UInt8)(hn:n<=10):((Vh t n++x).getD 3 0).toNat=n:=by
 show(tC n).toNat=n;simp;omega
theorem Hi(t n:Nat)(x:List UInt8):(Vh t n++x).drop 4=x:=rfl
theorem Su{w:Zi}(hw:QG w=0):(Yi w).length=3+w.name.length+w.key.length+w.value.length∧(Yi w).length<=59:=by
 obtain⟨h1,h2,h3⟩:=(XO w).1 hw;unfold Yi GA;by_cases hg:w.gone=O;·rw[if_pos hg]at h3⊢;rw[h3];simp only[T,qO,rX,List.length_nil];omega
 ·rw[if_neg hg]at h3⊢;simp only[T,qO];omega
def Ln(ws:List Zi):Nat:=(ws.map fun w=>3+w.name.length+w.key.length+w.value.length).sum
theorem xT:∀(ws:List Zi)(_:∀w∈ws,QG w=0),(ws.flatMap Yi).length=Ln ws∧(ws.flatMap Yi).length<=59*ws.length|[],_=>by simp[Ln]|w::ws,h=>by obtain⟨i1,i2⟩:=xT ws (fun x hx=>h x (tY _ hx));obtain⟨j1,j2⟩:=Su (h w (rT ..));rw[rH,T];unfold Ln at i1⊢;rw[oE,List.sum_cons,rX];omega
theorem Vg{c:XG}(h:Zc c=0):(Zl c).length=4+Ln c.writes∧(Zl c).length<=594:=by
 obtain⟨_,h2,h3⟩:=(K4 c).1 h;obtain⟨i1,i2⟩:=xT c.writes h3;unfold Zl;rw[T,Fc];omega
theorem DQ{c:XG}(h:Zc c=0)(x:List UInt8):G6 (Zl c++x)=F (c.writes,x)∧Gg (Zl c++x)=c.turn.toNat:=by
 obtain⟨h1,h2,h3⟩:=(K4 c).1 h;unfold G6 Zl;rw[tB,Wf _ _ _ h2.2,Hi,IJ _ _ _ (by omega)];exact⟨FN _ h3 _,rfl⟩
theorem Dr{c:XG}(h:Zc c=0):YL (Zl c)=0∧JN (Zl c)=c:=by
 obtain⟨h1,h2,h3⟩:=(K4 c).1 h;obtain⟨s1,s2⟩:=Vg h;obtain⟨b1,b2⟩:=DQ h [];rw[tV]at b1 b2;have hc:(⟨(Gg (Zl c):Int),c.writes⟩:XG)=c:=by rw[b2,Int.toNat_of_nonneg (by omega)]
 have hd:YL (Zl c)=0:=by rw[YL,if_neg (by omega),if_neg (by omega),b1];show(if([]:List UInt8).length=0then Zc ⟨(Gg (Zl c):Int),c.writes⟩else 4)=0;rw[if_pos (show([]:List UInt8).length=0from rfl),hc,h]
 refine⟨hd,?_⟩;rw[JN,if_pos hd,b1];exact hc
theorem Mw{b:List UInt8}(h:YL b=0):Zc (JN b)=0∧Zl (JN b)=b:=by
 have hC:JN b=(match G6 b with|F (ws,_)=>⟨(Gg b:Int),ws⟩|none=>Zn):=by rw[JN,if_pos h]
 rw[YL]at h;by_cases h1:4000<b.length;·rw[if_pos h1]at h;omega
 rw[if_neg h1]at h;by_cases h2:b.length<4;·rw[if_pos h2]at h;omega
 rw[if_neg h2]at h;cases hb:G6 b with|none=>rw[hb]at h;simp at h|some q=>obtain⟨ws,r⟩:=q;rw[hb]at h hC;have h:(if r.length=0then Zc ⟨(Gg b:Int),ws⟩else 4)=0:=h;have hC:JN b=⟨(Gg b:Int),ws⟩:=hC;by_cases hr:r.length=0;(·rw[if_pos hr]at h;obtain rfl:r=[]:=tD hr;rw[hC];refine⟨h,?_⟩;obtain⟨k1,k2,k3⟩:=(K4 _).1 h;unfold G6 at hb;obtain⟨e1,e2⟩:=Pk _ hb;rw[tV]at e1;show Vh ((Gg b:Int)).toNat ws.length++ws.flatMap Yi=b;rw[<-e1,e2,rI];match b,h2 with|x0::x1::x2::x3::t,_=>show Vh (65536*x0.toNat+256*x1.toNat+x2.toNat) x3.toNat++t=_;have a0:=x0.toNat_lt;have a1:=x1.toNat_lt;have a2:=x2.toNat_lt;have a3:=x3.toNat_lt;unfold Vh;rw[show(65536*x0.toNat+256*x1.toNat+x2.toNat)/65536=x0.toNat by omega,show(65536*x0.toNat+256*x1.toNat+x2.toNat)/256%256=x1.toNat by omega,show(65536*x0.toNat+256*x1.toNat+x2.toNat)%256=x2.toNat by omega];simp);·rw[if_neg hr]at h;omega
def F2(b:List UInt8):List UInt8:=tC (b.length/256)::tC (b.length%256)::b
theorem xC(b:List UInt8):(F2 b).length=b.length+2:=rfl
def ZM(D:List UInt8->List UInt8)(c:XG):List UInt8:=F2 (Zl c)++D (F2 (Zl c))
def Zk(r:List UInt8):Nat:=256*(r.getD 0 0).toNat+(r.getD 1 0).toNat
def XK(D:List UInt8->List UInt8)(r:List UInt8):Option (XG×List UInt8):=if r.length<6then H else if r.length<Zk r+6∨4000<Zk r+2then H else if D (r.take (Zk r+2))=(r.drop (Zk r+2)).take 4then(if YL ((r.drop 2).take (Zk r))=0then F (JN ((r.drop 2).take (Zk r)),r.drop (Zk r+6))else H)else H
theorem Al{D:List UInt8->List UInt8}{r r2:List UInt8}{c:XG}(h:XK D r=F (c,r2)):∃m,6<=m∧m<=r.length∧r2=r.drop m∧Zc c=0:=by
 unfold XK at h;by_cases h1:r.length<6;·rw[if_pos h1]at h;cases h
 rw[if_neg h1]at h;by_cases h2:r.length<Zk r+6∨4000<Zk r+2;·rw[if_pos h2]at h;cases h
 rw[if_neg h2]at h;by_cases h3:D (r.take (Zk r+2))=(r.drop (Zk r+2)).take 4;·rw[if_pos h3]at h;by_cases h4:YL ((r.drop 2).take (Zk r))=0;(·rw[if_pos h4]at h;simp only[tP,sC]at h;obtain⟨rfl,rfl⟩:=h;exact⟨Zk r+6,by omega,by omega,rfl,(Mw h4).1⟩);·rw[if_neg h4]at h;cases h
 ·rw[if_neg h3]at h;cases h
theorem Nl{b:List UInt8}(h:b.length<65536)(x:List UInt8):Zk (F2 b++x)=b.length:=by
 show 256*(tC (b.length/256)).toNat+(tC (b.length%256)).toNat=b.length;simp only[pS];omega
theorem PX{D:List UInt8->List UInt8}(hD:∀x,(D x).length=4)(c:XG):(ZM D c).length=(Zl c).length+6:=by
 unfold ZM;rw[T,hD,xC]
theorem Af{D:List UInt8->List UInt8}(hD:∀x,(D x).length=4){c:XG}(h:Zc c=0)(r:List UInt8):XK D (ZM D c++r)=F (c,r):=by
 obtain⟨s1,s2⟩:=Vg h;obtain⟨d1,d2⟩:=Dr h;have hl:=PX hD c;have hz:Zk (ZM D c++r)=(Zl c).length:=by unfold ZM;rw[tB];exact Nl (by omega) _
 have ht:(ZM D c++r).take ((Zl c).length+2)=F2 (Zl c):=by unfold ZM;rw[tB];exact rM (xC _)
 have hd:(ZM D c++r).drop ((Zl c).length+2)=D (F2 (Zl c))++r:=by unfold ZM;rw[tB];exact rN (xC _)
 have hm:((ZM D c++r).drop 2).take (Zl c).length=Zl c:=by unfold ZM;rw[tB];exact rM rfl
 have he:(ZM D c++r).drop ((Zl c).length+6)=r:=rN hl;have hlen:(ZM D c++r).length=(Zl c).length+6+r.length:=by rw[T,hl]
 unfold XK;rw[if_neg (by omega),hz,if_neg (by omega),ht,hd,hm,he,if_pos (rM (hD _)).symm,if_pos d1,d2]
theorem Lj{D:List UInt8->List UInt8}(hD:∀x,(D x).length=4){c:XG}(h:Zc c=0)(k:Nat)(hk:k<(ZM D c).length):XK D ((ZM D c).take k)=H:=by
 obtain⟨s1,s2⟩:=Vg h;have hl:=PX hD c;have hkl:((ZM D c).take k).length=k:=by simp;omega
 unfold XK;by_cases h6:k<6;·rw[if_pos (by omega)]
 ·(have hz:Zk ((ZM D c).take k)=(Zl c).length:=by(have hz:Zk (ZM D c++[])=(Zl c).length:=by unfold ZM;rw[tB];exact Nl (by omega) _);rw[tV]at hz;rw[<-hz];unfold Zk;simp only[List.getD_eq_getElem?_getD,pU];rw[if_pos (by omega),if_pos (by omega)]);rw[if_neg (by omega),hz,if_pos (by omega)]
def KP(D:List UInt8->List UInt8)(turn:Nat)(r:List UInt8):List XG×List UInt8:=match h:XK D r with|F (c,r2)=>if c.turn=(turn:Int)then(c::(KP D (turn+1) r2).1,(KP D (turn+1) r2).2)else([],r)|none=>([],r)termination_by r.length decreasing_by
 all_goals obtain⟨m,h1,h2,h3,_⟩:=Al h;rw[h3,pY];omega
theorem Ov{D:List UInt8->List UInt8}{turn:Nat}{r r2:List UInt8}{c:XG}(h:XK D r=F (c,r2))(ht:c.turn=(turn:Int)):KP D turn r=(c::(KP D (turn+1) r2).1,(KP D (turn+1) r2).2):=by
 rw[KP];split;·next c' r' h'=>rw[h]at h';simp only[tP,sC]at h';obtain⟨rfl,rfl⟩:=h';rw[if_pos ht]
 ·next h'=>rw[h]at h';cases h'
theorem Iq{D:List UInt8->List UInt8}{turn:Nat}{r r2:List UInt8}{c:XG}(h:XK D r=F (c,r2))(ht:c.turn≠(turn:Int)):KP D turn r=([],r):=by
 rw[KP];split;·next c' r' h'=>rw[h]at h';simp only[tP,sC]at h';obtain⟨rfl,rfl⟩:=h';rw[if_neg ht]
 ·rfl
theorem Ri{D:List UInt8->List UInt8}{turn:Nat}{r:List UInt8}(h:XK D r=H):KP D turn r=([],r):=by
 rw[KP];split;·next c' r' h'=>rw[h]at h';cases h'
 ·rfl
theorem IS(D:List UInt8->List UInt8):XK D []=H:=by
 unfold XK;rw[if_pos (by simp)]
def zD:Nat->List XG->Prop|_,[]=>True|t,c::cs=>c.turn=(t:Int)∧Zc c=0∧zD (t+1) cs
theorem zD.take:∀{t:Nat}{cs:List XG}(_:zD t cs)(j:Nat),zD t (cs.take j)|_,[],_,j=>by rw[oF];trivial|_,c::cs,_,0=>trivial|t,c::cs,h,j+1=>⟨h.1,h.2.1,zD.take h.2.2 j⟩
def Q7(D:List UInt8->List UInt8)(cs:List XG):List UInt8:=cs.flatMap (ZM D)
theorem KX(D:List UInt8->List UInt8)(c:XG)(cs:List XG):Q7 D (c::cs)=ZM D c++Q7 D cs:=rH
theorem VH(D:List UInt8->List UInt8)(a b:List XG):Q7 D (a++b)=Q7 D a++Q7 D b:=List.flatMap_append
theorem PJ(D:List UInt8->List UInt8)(c:XG):Q7 D [c]=ZM D c:=by
 simp[Q7]
def DR(D:List UInt8->List UInt8)(r:List UInt8):Nat:=r.length-(KP D 1 r).2.length
theorem Bk{D:List UInt8->List UInt8}(hD:∀x,(D x).length=4):∀{t:Nat}{cs:List XG}(_:zD t cs)(k:Nat),∃j,j<=cs.length∧KP D t ((Q7 D cs).take k)=(cs.take j,((Q7 D cs).take k).drop (Q7 D (cs.take j)).length)∧(Q7 D (cs.take j)).length<=k∧(Q7 D (cs.take j)).length<=(Q7 D cs).length∧(j<cs.length->k<(Q7 D (cs.take (j+1))).length)|t,[],_,k=>⟨0,by simp,by show KP D t (([]:List UInt8).take k)=_;rw[oF,Ri (IS D)];simp[Q7],by simp[Q7],by simp[Q7],fun h=>by simp at h⟩|t,c::cs,h,k=>by by_cases hk:k<(ZM D c).length;(·refine⟨0,by simp,?_,by simp[Q7],by simp[Q7],fun _=>?_⟩;(·rw[KX,r7 (by omega),Ri (Lj hD h.2.1 k hk)];simp[Q7]);·show k<(Q7 D [c]).length;rw[PJ];exact hk);·obtain⟨j,h1,h2,h3,h4,h5⟩:=Bk hD h.2.2 (k-(ZM D c).length);(have ht:(Q7 D (c::cs)).take k=ZM D c++(Q7 D cs).take (k-(ZM D c).length):=by rw[KX,List.take_append,pG (by omega)]);refine⟨j+1,by simp;omega,?_,?_,?_,fun hj=>?_⟩;(·rw[ht,Ov (Af hD h.2.1 _) h.1,h2,sG,KX];rw[T,<-List.drop_drop,rN rfl]);(·rw[sG,KX,T];omega);(·rw[sG,KX,KX,T,T];omega);·have:=h5 (by simpa using hj);rw[sG,KX,T];omega
theorem U9(D:List UInt8->List UInt8)(cs:List XG)(i j:Nat)(h:i<=j):(Q7 D (cs.take i)).length<=(Q7 D (cs.take j)).length:=by
 have:cs.take i=(cs.take j).take i:=by rw[List.take_take,oD h]
 rw[this];conv=>rhs;rw[<-tE i (cs.take j),VH]
 rw[T];omega
theorem RZ{D:List UInt8->List UInt8}{cs:List XG}{k j i:Nat}(hi:i<=cs.length)(hj:j<cs.length->k<(Q7 D (cs.take (j+1))).length)(hk:(Q7 D (cs.take i)).length<=k):i<=j:=by
 by_cases h:i<=j;·exact h
 ·have:=U9 D cs (j+1) i (by omega);have:=hj (by omega);omega
theorem Ng(t:PL)(p:Pr)(h:∀q∈t,(1<=q.1.length∧q.1.length<=16)∧q.2.length<=32)(hp:(1<=p.1.length∧p.1.length<=16)∧p.2.length<=32):∀q∈Kl t p,(1<=q.1.length∧q.1.length<=16)∧q.2.length<=32:=by
 intro q hq;rcases MF t p q hq with rfl|hq;·exact hp
 ·exact h q hq
theorem L2:∀(t:PL)(p:Pr)(k:Nat),k<=t.length->(∀j,j<k->YN (t.getD j ([],[])).1 p.1=O)->(k<t.length->YN (t.getD k ([],[])).1 p.1=V)->Kl t p=if k<t.length∧(t.getD k ([],[])).1=p.1then t.set k p else t.take k++([p]++t.drop k)|[],p,k,hk,_,_=>by(obtain rfl:k=0:=by simpa using hk);simp[Kl]|q::r,p,0,_,_,h2=>by have h:=h2 (by simp);simp only[tX]at h;rw[Kl,if_neg (by rw[h];simp)];by_cases e:q.1=p.1;(·rw[if_pos e,if_pos ⟨by simp,by simpa using e⟩];simp);·rw[if_neg e,if_neg (fun h=>e (by simpa using h.2))];simp|q::r,p,k+1,hk,h1,h2=>by have h:=h1 0 (by omega);simp only[tX]at h;rw[Kl,if_pos h,L2 r p k (by simpa using hk) (fun j hj=>by simpa using h1 (j+1) (by omega)) (fun hk=>by simpa using h2 (by simpa using hk))];by_cases e:k<r.length∧(r.getD k ([],[])).1=p.1;(·rw[if_pos e,if_pos ⟨by simpa using e.1,by simpa using e.2⟩];simp);·rw[if_neg e,if_neg (fun h=>e ⟨by simpa using h.1,by simpa using h.2⟩)];simp
theorem dQ(t:PL)(p:Pr)(h:ZI t)(hp:(1<=p.1.length∧p.1.length<=16)∧p.2.length<=32)(hl:t.length<60):Ks t p=0∧Vx t p=Kl t p∧ZI (Kl t p):=by
 have h0:V5 t p=0:=by rw[V5,if_pos ((YW t).2 h)];exact(JL p).2 hp
 have hlen:=e9 t p;have h1:Ks t p=0:=by rw[Ks,if_pos h0,if_neg (by omega)]
 exact⟨h1,by rw[Vx,if_pos h1],⟨by omega,Ng t p h.pairs hp,Pu t p h.rises⟩⟩
def aO(m:Nat)(l:FL):Prop:=∀n,(Jn l n).length<=m
theorem WK:aO 0 []:=fun n=>by
 rw[iC];simp
theorem fX{l:FL}{m:Nat}(h:Xr l){w:Zi}(hw:QG w=0)(hs:aO m l)(hm:m<60):qG l w=0:=by
 obtain⟨_,hk,hv⟩:=(XO w).1 hw;have hT:=Uo h w.name;have hl:=hs w.name;unfold qG;by_cases hg:w.gone=O;·rw[if_pos hg];exact Ph hT hk
 ·rw[if_neg hg]at hv⊢;exact(dQ _ _ hT ⟨hk,hv⟩ (by omega)).1
theorem Tu{l:FL}{m:Nat}(h:Xr l){w:Zi}(hw:QG w=0)(hs:aO m l)(hm:m<60):YF l w=if 8<(Zv l w).length then 11 else 0:=by
 rw[YF,if_pos (fX h hw hs hm)]
theorem DG(l:FL)(w:Zi):(Zv l w).length<=l.length+1:=by
 unfold Zv;by_cases hn:(YA l w).length=0;·rw[if_pos hn];have:=N4 l w.name;omega
 ·rw[if_neg hn];exact W9 _ _
theorem vQ:∀(ws:List Zi)(l:FL),Xr l->Xg l ws=0->Xr (JA l ws)|[],l,h,_=>h|w::ws,l,h,he=>by rw[Xg]at he;by_cases hw:QG w=0;(·rw[if_pos hw]at he;by_cases h2:YF l w=0;(·rw[if_pos h2]at he;exact vQ ws _ (yO h hw h2) he);·rw[if_neg h2]at he;exact absurd he h2);·rw[if_neg hw]at he;exact absurd he hw
def qI(l:FL)(n:List UInt8):Int:=if Q9 l=0then Qt n.length else Q9 l
theorem zA{l:FL}{n:List UInt8}(h:qI l n=0):Xr l∧(1<=n.length∧n.length<=8):=by
 unfold qI at h;by_cases h0:Q9 l=0;·rw[if_pos h0]at h;exact⟨(Ya l).1 h0,(ZG _).1 h⟩
 ·rw[if_neg h0]at h;exact absurd h h0
def VN(l:FL)(n k:List UInt8):Int:=if qI l n=0then Xe (Jn l n) k else qI l n
def Vl(l:FL)(n k:List UInt8):Bool:=if qI l n=0then Et (Jn l n) k else V
def Vn(l:FL)(n k:List UInt8):List UInt8:=if qI l n=0then Ew (Jn l n) k else[]
def YJ(l:FL)(n f t:List UInt8):Int:=if qI l n=0then YH (Jn l n) f t else qI l n
def Ku(l:FL)(n f t:List UInt8):PL:=if qI l n=0then KZ (Jn l n) f t else[]
structure Rq where
  kind : Int
  name : List UInt8
  key : List UInt8
  last : List UInt8
  value : List UInt8
def Gd:Rq:=⟨0,[],[],[],[]⟩
def QW(k:Int):Bool:=tI (2<=k∧k<=5)||tI (k=8)
def yX(r:Rq):Int:=if QW r.kind=O then(if Qt r.name.length=0then(if Qq r.key.length=0then(if r.kind=3then Qq r.last.length else 0)else Qq r.key.length)else Qt r.name.length)else 0
def Ek(r:Rq):Int:=if QW r.kind=V∧0<r.name.length+r.key.length then 4 else if(r.kind≠3∧0<r.last.length)∨(r.kind≠4∧0<r.value.length)then 4 else 0
def Yl(r:Rq):Int:=if 1<=r.kind∧r.kind<=8then(if yX r=0then(if 32<r.value.length then 1 else Ek r)else yX r)else 5
structure X0(r:Rq):Prop where kind:1<=r.kind∧r.kind<=8name:QW r.kind=O->1<=r.name.length∧r.name.length<=8key:QW r.kind=O->1<=r.key.length∧r.key.length<=16last:r.kind=3->1<=r.last.length∧r.last.length<=16value:r.value.length<=32noName:QW r.kind=V->r.name=[]noKey:QW r.kind=V->r.key=[]noLast:r.kind≠3->r.last=[]noValue:r.kind≠4->r.value=[]
theorem FO(r:Rq):yX r=0↔(QW r.kind=O->(1<=r.name.length∧r.name.length<=8)∧(1<=r.key.length∧r.key.length<=16)∧(r.kind=3->1<=r.last.length∧r.last.length<=16)):=by
 unfold yX;by_cases h:QW r.kind=O;·rw[if_pos h];by_cases h1:Qt r.name.length=0;(·rw[if_pos h1];by_cases h2:Qq r.key.length=0;(·rw[if_pos h2];by_cases h3:r.kind=3;(·rw[if_pos h3,Zy];exact⟨fun e _=>⟨(ZG _).1 h1,(Zy _).1 h2,fun _=>e⟩,fun e=>(e h).2.2 h3⟩);·rw[if_neg h3];exact⟨fun _ _=>⟨(ZG _).1 h1,(Zy _).1 h2,fun e=>absurd e h3⟩,fun _=>rfl⟩);·rw[if_neg h2];exact⟨fun e=>absurd e h2,fun e=>(Zy _).2 (e h).2.1⟩);·rw[if_neg h1];exact⟨fun e=>absurd e h1,fun e=>(ZG _).2 (e h).1⟩
 ·rw[if_neg h];exact⟨fun _ e=>absurd e h,fun _=>rfl⟩
theorem Ib{l:List UInt8}(h:¬0<l.length):l=[]:=tD (by
 omega)
theorem Sp(r:Rq):Ek r=0↔(QW r.kind=V->r.name=[]∧r.key=[])∧(r.kind≠3->r.last=[])∧(r.kind≠4->r.value=[]):=by
 unfold Ek;by_cases h1:QW r.kind=V∧0<r.name.length+r.key.length;·rw[if_pos h1];refine⟨fun e=>(by cases e),fun e=>?_⟩;have:=e.1 h1.1;rw[this.1,this.2]at h1;simp at h1
 ·rw[if_neg h1];by_cases h2:(r.kind≠3∧0<r.last.length)∨(r.kind≠4∧0<r.value.length);(·rw[if_pos h2];refine⟨fun e=>(by cases e),fun e=>?_⟩;rcases h2 with h2|h2;(·rw[e.2.1 h2.1]at h2;simp at h2);·rw[e.2.2 h2.1]at h2;simp at h2);·rw[if_neg h2];refine⟨fun _=>⟨fun h=>?_,fun h=>Ib fun e=>h2 (.inl ⟨h,e⟩),fun h=>Ib fun e=>h2 (.inr ⟨h,e⟩)⟩,fun _=>rfl⟩;have hz:¬0<r.name.length+r.key.length:=fun e=>h1 ⟨h,e⟩;exact⟨Ib (by omega),Ib (by omega)⟩
theorem Yk(r:Rq):Yl r=0↔X0 r:=by
 unfold Yl;by_cases h0:1<=r.kind∧r.kind<=8;·rw[if_pos h0];by_cases h1:yX r=0;(·rw[if_pos h1];have hp:=(FO r).1 h1;by_cases h2:32<r.value.length;(·rw[if_pos h2];exact⟨fun e=>(by cases e),fun e=>by have:=e.value;omega⟩);·rw[if_neg h2,Sp];refine⟨fun⟨e1,e2,e3⟩=>⟨h0,fun h=>(hp h).1,fun h=>(hp h).2.1,fun h=>(hp (by rw[h];decide)).2.2 h,by omega,fun h=>(e1 h).1,fun h=>(e1 h).2,e2,e3⟩,fun e=>⟨fun h=>⟨e.noName h,e.noKey h⟩,e.noLast,e.noValue⟩⟩);·rw[if_neg h1];refine⟨fun e=>absurd e h1,fun e=>(FO r).2 fun h=>⟨e.name h,e.key h,e.last⟩⟩
 ·rw[if_neg h0];exact⟨fun e=>(by cases e),fun e=>absurd e.kind h0⟩
def Xp(c:Bool)(p:List UInt8):List UInt8:=if c=O then XP p else[]
def Jr(c:Bool)(r:List UInt8):Option (List UInt8×List UInt8):=if c=O then Zx r else F ([],r)
theorem yS(c:Bool)(p r:List UInt8)(h:c=O->p.length<256)(h0:c=V->p=[]):Jr c (Xp c p++r)=F (p,r):=by
 cases c with|true=>exact Vy p r (h rfl)|false=>rw[h0 rfl];rfl
theorem VW{c:Bool}{r p r2:List UInt8}(h:Jr c r=F (p,r2)):r=Xp c p++r2:=by
 cases c with|true=>exact Gt h|false=>(obtain⟨rfl,rfl⟩:[]=p∧r=r2:=by simpa[Jr]using h);rfl
theorem jL{c:Bool}{r p r2:List UInt8}(h:Jr c r=F (p,r2))(x:List UInt8):Jr c (r++x)=F (p,r2++x):=by
 cases c with|true=>exact Au h x|false=>(obtain⟨rfl,rfl⟩:[]=p∧r=r2:=by simpa[Jr]using h);rfl
theorem Io{c:Bool}{r p r2:List UInt8}(h:Jr c r=F (p,r2))(hc:c=V):p=[]:=by
 subst hc;have:[]=p∧r=r2:=by simpa[Jr]using h
 exact this.1.symm
def zV(r:Rq):List UInt8:=Xp (QW r.kind) r.name++(Xp (QW r.kind) r.key++(Xp (tI (r.kind=3)) r.last++Xp (tI (r.kind=4)) r.value))
def Ki(r:Rq):List UInt8:=tC r.kind.toNat::zV r
def Vu(k:Int)(n q l r:List UInt8):Option (Rq×List UInt8):=match Jr (tI (k=4)) r with|F (v,r2)=>F (⟨k,n,q,l,v⟩,r2)|none=>H
def Vv(k:Int)(n q r:List UInt8):Option (Rq×List UInt8):=match Jr (tI (k=3)) r with|F (l,r2)=>Vu k n q l r2|none=>H
def Vt(k:Int)(n r:List UInt8):Option (Rq×List UInt8):=match Jr (QW k) r with|F (q,r2)=>Vv k n q r2|none=>H
def Yf(k:Int)(r:List UInt8):Option (Rq×List UInt8):=match Jr (QW k) r with|F (n,r2)=>Vt k n r2|none=>H
theorem Np{r:Rq}(h:X0 r)(x:List UInt8):Yf r.kind (zV r++x)=F (r,x):=by
 have e1:=yS (QW r.kind) r.name (Xp (QW r.kind) r.key++(Xp (tI (r.kind=3)) r.last++(Xp (tI (r.kind=4)) r.value++x))) (fun e=>by have:=h.name e;omega) h.noName;have e2:=yS (QW r.kind) r.key (Xp (tI (r.kind=3)) r.last++(Xp (tI (r.kind=4)) r.value++x)) (fun e=>by have:=h.key e;omega) h.noKey;have e3:=yS (tI (r.kind=3)) r.last (Xp (tI (r.kind=4)) r.value++x) (fun e=>by have:=h.last (by simpa using e);omega) (fun e=>h.noLast (by simpa using e));have e4:=yS (tI (r.kind=4)) r.value x (fun _=>by have:=h.value;omega) (fun e=>h.noValue (by simpa using e));rw[zV,tB,tB,tB,Yf,e1];show Vt _ _ _=_;rw[Vt,e2];show Vv _ _ _ _=_;rw[Vv,e3];show Vu _ _ _ _ _=_;rw[Vu,e4]
theorem uC{k:Int}{b x:List UInt8}{r:Rq}(h:Yf k b=F (r,x)):r.kind=k∧∃r1 r2 r3,Jr (QW k) b=F (r.name,r1)∧Jr (QW k) r1=F (r.key,r2)∧Jr (tI (k=3)) r2=F (r.last,r3)∧Jr (tI (k=4)) r3=F (r.value,x):=by
 rw[Yf]at h;match h1:Jr (QW k) b with|none=>rw[h1]at h;cases h|F (n,r1)=>rw[h1]at h;replace h:Vt k n r1=F (r,x):=h;rw[Vt]at h;match h2:Jr (QW k) r1 with|none=>rw[h2]at h;cases h|F (q,r2)=>rw[h2]at h;replace h:Vv k n q r2=F (r,x):=h;rw[Vv]at h;match h3:Jr (tI (k=3)) r2 with|none=>rw[h3]at h;cases h|F (l,r3)=>rw[h3]at h;replace h:Vu k n q l r3=F (r,x):=h;rw[Vu]at h;match h4:Jr (tI (k=4)) r3 with|none=>rw[h4]at h;cases h|F (v,r4)=>rw[h4]at h;(obtain⟨rfl,rfl⟩:(⟨k,n,q,l,v⟩:Rq)=r∧r4=x:=by simpa using h);exact⟨rfl,r1,r2,r3,rfl,h2,h3,h4⟩
theorem dU{k:Int}{b r1 r2 r3 x n q l v:List UInt8}(h1:Jr (QW k) b=F (n,r1))(h2:Jr (QW k) r1=F (q,r2))(h3:Jr (tI (k=3)) r2=F (l,r3))(h4:Jr (tI (k=4)) r3=F (v,x)):Yf k b=F (⟨k,n,q,l,v⟩,x):=by
 rw[Yf,h1];show Vt _ _ _=_;rw[Vt,h2];show Vv _ _ _ _=_;rw[Vv,h3];show Vu _ _ _ _ _=_;rw[Vu,h4]
theorem TU{k:Int}{b x:List UInt8}{r:Rq}(h:Yf k b=F (r,x)):b=zV r++x∧r.kind=k:=by
 obtain⟨hk,r1,r2,r3,h1,h2,h3,h4⟩:=uC h;refine⟨?_,hk⟩;rw[zV,hk,VW h1,VW h2,VW h3,VW h4];simp[tB]
theorem Wv{k:Int}{b y:List UInt8}{r:Rq}(h:Yf k b=F (r,y))(x:List UInt8):Yf k (b++x)=F (r,y++x):=by
 obtain⟨hk,r1,r2,r3,h1,h2,h3,h4⟩:=uC h;have:=dU (jL h1 x) (jL h2 x) (jL h3 x) (jL h4 x);rw[this,<-hk]
def UC(b:List UInt8):Int:=((b.getD 0 0).toNat:Int)
def QJ(b:List UInt8):Int:=if 4000<b.length then 1 else if b.length=0then 14 else if 1<=UC b∧UC b<=8then(match Yf (UC b) (b.drop 1)with|none=>14|F (r,x)=>if x.length=0then Yl r else 4)else 5
def Qu(b:List UInt8):Rq:=if QJ b=0then(match Yf (UC b) (b.drop 1)with|F (r,_)=>r|none=>Gd)else Gd
theorem Nz{r:Rq}(h:X0 r)(x:List UInt8):UC (Ki r++x)=r.kind∧(Ki r++x).drop 1=zV r++x:=by
 have h0:=h.kind;refine⟨?_,rfl⟩;show(((tC r.kind.toNat).toNat:Nat):Int)=r.kind;simp;omega
theorem Ua(c:Bool)(p:List UInt8):(Xp c p).length<=p.length+1:=by
 cases c with|true=>exact sA _|false=>exact Nat.zero_le _
theorem uL{r:Rq}(h:X0 r):(Ki r).length<=78∧1<=(Ki r).length:=by
 have l1:=Ua (QW r.kind) r.name;have l2:=Ua (QW r.kind) r.key;have l3:=Ua (tI (r.kind=3)) r.last;have l4:=Ua (tI (r.kind=4)) r.value;have k1:r.name.length<=8:=by by_cases e:QW r.kind=O;(·exact(h.name e).2);·rw[h.noName (by simpa using e)];simp
 have k2:r.key.length<=16:=by by_cases e:QW r.kind=O;(·exact(h.key e).2);·rw[h.noKey (by simpa using e)];simp
 have k3:r.last.length<=16:=by by_cases e:r.kind=3;(·exact(h.last e).2);·rw[h.noLast e];simp
 have k4:=h.value;have e:(Ki r).length=1+(Xp (QW r.kind) r.name).length+(Xp (QW r.kind) r.key).length+(Xp (tI (r.kind=3)) r.last).length+(Xp (tI (r.kind=4)) r.value).length:=by rw[Ki,zV,rX,T,T,T];omega
 omega
theorem RJ{r:Rq}(h:X0 r):QJ (Ki r)=0∧Qu (Ki r)=r:=by
 have hl:=uL h;obtain⟨e1,e2⟩:=Nz h [];rw[tV]at e1 e2;have e3:=Np h [];have e:QJ (Ki r)=0:=by rw[QJ,if_neg (by omega),if_neg (by omega),e1,if_pos h.kind,e2,e3];show(if([]:List UInt8).length=0then Yl r else 4)=0;rw[if_pos (by simp)];exact(Yk r).2 h
 refine⟨e,?_⟩;rw[Qu,if_pos e,e1,e2,e3]
theorem lX{r:Rq}(h:X0 r)(k:Nat)(hk:k<(Ki r).length):QJ ((Ki r).take k)=14:=by
 have hl2:=uL h;have hlen:((Ki r).take k).length=k:=by rw[List.length_take];omega
 rw[QJ,if_neg (by omega)];by_cases h0:k=0;·rw[if_pos (by omega)]
 ·rw[if_neg (by omega)];have hsp:(Ki r).take k++(Ki r).drop k=Ki r:=tE _ _;(have hkd:UC ((Ki r).take k)=r.kind:=by obtain⟨e1,_⟩:=Nz h [];rw[tV]at e1;rw[<-e1];match k,h0 with|k+1,_=>rfl);rw[hkd,if_pos h.kind];match hD:Yf r.kind (((Ki r).take k).drop 1)with|none=>rfl|F (r',y)=>have hm:=Wv hD ((Ki r).drop k);(have hd:((Ki r).take k).drop 1++(Ki r).drop k=zV r:=by match k,h0 with|k+1,_=>show(zV r).take k++(zV r).drop k=zV r;exact tE _ _);rw[hd]at hm;have hb:=Np h [];rw[tV,hm]at hb;(have he:y++(Ki r).drop k=[]:=by have:=congrArg (fun o=>o.map Prod.snd) hb;simpa using this);have:=congrArg List.length he;rw[T,pY]at this;simp at this;omega
theorem Yv{b:List UInt8}(h:QJ b=0):Yl (Qu b)=0∧Ki (Qu b)=b:=by
 have h':=h;rw[QJ]at h;by_cases h1:4000<b.length;·rw[if_pos h1]at h;cases h
 ·rw[if_neg h1]at h;by_cases h2:b.length=0;(·rw[if_pos h2]at h;cases h);·rw[if_neg h2]at h;by_cases h3:1<=UC b∧UC b<=8;(·rw[if_pos h3]at h;match hD:Yf (UC b) (b.drop 1)with|none=>rw[hD]at h;cases h|F (r,x)=>rw[hD]at h;replace h:(if x.length=0then Yl r else 4)=0:=h;by_cases hx:x.length=0;(·rw[if_pos hx]at h;(have hr:Qu b=r:=by rw[Qu,if_pos h',hD]);rw[hr];refine⟨h,?_⟩;obtain⟨f1,f2⟩:=TU hD;rw[tD hx,tV]at f1;rw[Ki,<-f1,f2];match b,h2 with|c::b,_=>show tC ((c.toNat:Nat):Int).toNat::b=c::b;simp);·rw[if_neg hx]at h;cases h);·rw[if_neg h3]at h;cases h
theorem jK{b:List UInt8}(h:QJ b≠0):Qu b=Gd:=by
 rw[Qu,if_neg h]
def Ur(r:Rq):Int:=if Yl r=0then(if r.kind=2∨r.kind=3then 0 else 7)else Yl r
def Zw(r:Rq):Rd:=if Ur r=0then⟨r.name,r.key,tI (r.kind=3),r.last⟩else Zg
def Jg(r:Rq):Int:=if Yl r=0then(if r.kind=4∨r.kind=5then 0 else 7)else Yl r
def Xl(r:Rq):Zi:=if Jg r=0then⟨r.name,r.key,r.value,tI (r.kind=5)⟩else Qs
theorem bH{r:Rq}(h:Ur r=0):XI (Zw r)=0:=by
 have h':=h;unfold Ur at h;by_cases h0:Yl r=0;·rw[if_pos h0]at h;have ho:=(Yk r).1 h0;by_cases h1:r.kind=2∨r.kind=3;(·(have hn:QW r.kind=O:=by rcases h1 with h1|h1<;>rw[h1]<;>decide);rw[Zw,if_pos h',EW];refine⟨ho.name hn,ho.key hn,?_⟩;show if tI (r.kind=3)=O then _ else _;by_cases h3:r.kind=3;(·rw[if_pos (by simpa using h3)];exact ho.last h3);·rw[if_neg (by simpa using h3)];exact ho.noLast h3);·rw[if_neg h1]at h;cases h
 ·rw[if_neg h0]at h;exact absurd h h0
theorem Pt{r:Rq}(h:Jg r=0):QG (Xl r)=0:=by
 have h':=h;unfold Jg at h;by_cases h0:Yl r=0;·rw[if_pos h0]at h;have ho:=(Yk r).1 h0;by_cases h1:r.kind=4∨r.kind=5;(·(have hn:QW r.kind=O:=by rcases h1 with h1|h1<;>rw[h1]<;>decide);rw[Xl,if_pos h',XO];refine⟨ho.name hn,ho.key hn,?_⟩;show if tI (r.kind=5)=O then _ else _;by_cases h3:r.kind=5;(·rw[if_pos (by simpa using h3)];exact ho.noValue (by omega));·rw[if_neg (by simpa using h3)];exact ho.value);·rw[if_neg h1]at h;cases h
 ·rw[if_neg h0]at h;exact absurd h h0
theorem Ni{r:Rq}(h:X0 r):Ur r=(if r.kind=2∨r.kind=3then 0 else 7)∧Jg r=(if r.kind=4∨r.kind=5then 0 else 7):=by
 have:=(Yk r).2 h;exact⟨by rw[Ur,if_pos this],by rw[Jg,if_pos this]⟩
def O4(l:List Ac):List UInt8:=l.flatMap fun a=>mW a++[10]
def Uk:Nat->List Ac->Option (Nat×Int)|_,[]=>H|n,a::l=>if Jb a=0then Uk (n+1) l else F (n,Jb a)
def Gm(l:List Ac):Int:=if 100000<l.length then 1 else match Uk 0 l with|none=>0|F (_,e)=>e
def Fu(l:List Ac):Nat:=if 100000<l.length then 0 else match Uk 0 l with|none=>0|F (i,_)=>i
def Fv(l:List Ac):List UInt8:=if Gm l=0then O4 l else[]
theorem NA:∀(l:List Ac)(n:Nat),Uk n l=H↔∀a∈l,XH a|[],_=>by simp[Uk]|a::l,n=>by rw[Uk];by_cases ha:Jb a=0;(·rw[if_pos ha,NA l (n+1)];simp only[tS,forall_eq_or_imp];exact⟨fun h=>⟨(uK a).1 ha,h⟩,fun h=>h.2⟩);·rw[if_neg ha];exact⟨fun h=>(by cases h),fun h=>absurd ((uK a).2 (h a (by simp))) ha⟩
theorem Wj(l:List Ac)(m:Nat)(hm:m<l.length):Uk m (l.drop m)=if Jb (l.getD m UE)=0then Uk (m+1) (l.drop (m+1))else F (m,Jb (l.getD m UE)):=by
 rw[sD hm,Uk,show l[m]=l.getD m UE by simp[hm]]
theorem m9{l:List Ac}(h:∀a∈l,XH a)(hl:l.length<=100000):Gm l=0∧Fu l=0∧Fv l=O4 l:=by
 have hb:=(NA l 0).2 h;have he:Gm l=0:=by rw[Gm,if_neg (by omega),hb]
 exact⟨he,by rw[Fu,if_neg (by omega),hb],by rw[Fv,if_pos he]⟩
theorem Hr{l:List Ac}(h:100000<l.length):Gm l=1∧Fu l=0∧Fv l=[]:=by
 have e:Gm l=1:=by rw[Gm,if_pos h]
 exact⟨e,by rw[Fu,if_pos h],by rw[Fv,e,if_neg (by decide)]⟩
theorem TP{l:List Ac}(h:l.length<=100000)(hb:Uk 0 l=H):Gm l=0∧Fu l=0∧Fv l=O4 l:=by
 have e:Gm l=0:=by rw[Gm,if_neg (by omega),hb]
 exact⟨e,by rw[Fu,if_neg (by omega),hb],by rw[Fv,if_pos e]⟩
theorem cQ{l:List Ac}(h:l.length<=100000){i:Nat}{e:Int}(hb:Uk 0 l=F (i,e))(he:e≠0):Gm l=e∧Fu l=i∧Fv l=[]:=by
 have h1:Gm l=e:=by rw[Gm,if_neg (by omega),hb]
 exact⟨h1,by rw[Fu,if_neg (by omega),hb],by rw[Fv,h1,if_neg he]⟩
theorem f8{l:List Ac}{m:Nat}(hm:m<l.length)(hb:Uk 0 l=Uk m (l.drop m)):(Jb (l.getD m UE)=0->Uk 0 l=Uk (m+1) (l.drop (m+1)))∧(Jb (l.getD m UE)≠0->Uk 0 l=F (m,Jb (l.getD m UE))):=by
 rw[hb,Wj l m hm];exact⟨fun h=>by rw[if_pos h],fun h=>by rw[if_neg h]⟩
def Xt(w:I)(v:N)(r:Rq):Prop:=∃vn vk vl vv,v=pN #[tK sY r.kind,vn,vk,vl,vv]∧Qe w vn r.name∧Qe w vk r.key∧Qe w vl r.last∧Qe w vv r.value
theorem Xt.grown{w w':I}{v:N}{r:Rq}(h:Xt w v r)(hg:J w w' H):Xt w' v r:=by
 obtain⟨vn,vk,vl,vv,rfl,h1,h2,h3,h4⟩:=h;exact⟨vn,vk,vl,vv,rfl,h1.grown hg,h2.grown hg,h3.grown hg,h4.grown hg⟩
theorem Xt.agg{w:I}{v:N}{r:Rq}(h:Xt w v r):∃n1 n2 k1 k2 l1 l2 v1 v2,v=pN #[tK sY r.kind,tH n1 r.name.length n2,tH k1 r.key.length k2,tH l1 r.last.length l2,tH v1 r.value.length v2]:=by
 obtain⟨vn,vk,vl,vv,rfl,h1,h2,h3,h4⟩:=h;obtain⟨n1,n2,rfl⟩:=h1.shape;obtain⟨k1,k2,rfl⟩:=h2.shape;obtain⟨l1,l2,rfl⟩:=h3.shape;obtain⟨v1,v2,rfl⟩:=h4.shape;exact⟨n1,n2,k1,k2,l1,l2,v1,v2,rfl⟩
theorem Xt.parts{w:I}{r:Rq}{x a b c d:N}(h:Xt w (pN #[x,a,b,c,d]) r):x=tK sY r.kind∧Qe w a r.name∧Qe w b r.key∧Qe w c r.last∧Qe w d r.value:=by
 obtain⟨vn,vk,vl,vv,e,h1,h2,h3,h4⟩:=h;simp only[Value.agg.injEq,Array.mk.injEq,List.cons.injEq,and_true]at e;obtain⟨rfl,rfl,rfl,rfl,rfl⟩:=e;exact⟨rfl,h1,h2,h3,h4⟩
theorem vH(w:I):Xt w (pN #[tK sY 0,tH H 0 0,tH H 0 0,tH H 0 0,tH H 0 0]) Gd:=⟨_,_,_,_,rfl,Qx w,Qx w,Qx w,Qx w⟩
structure yN(r:Rq):Prop where kind:-9223372036854775808<=r.kind∧r.kind<=9223372036854775807name:r.name.length<=140737488355328key:r.key.length<=140737488355328last:r.last.length<=140737488355328value:r.value.length<=140737488355328
theorem qK{r:Rq}(h:X0 r):yN r:=by
 have h0:=h.kind;have h5:=h.value;have k1:r.name.length<=8:=by by_cases e:QW r.kind=O;(·exact(h.name e).2);·rw[h.noName (by simpa using e)];simp
 have k2:r.key.length<=16:=by by_cases e:QW r.kind=O;(·exact(h.key e).2);·rw[h.noKey (by simpa using e)];simp
 have k3:r.last.length<=16:=by by_cases e:r.kind=3;(·exact(h.last e).2);·rw[h.noLast e];simp
 exact⟨by omega,by omega,by omega,by omega,by omega⟩
theorem Qp{W w:I}{b:Nat}{x y z u s:N}{t:sW}(hg:J W w H)(h:W.heap[b]?=F (tJ #[x,y,z,u,s] t)):(w.cell? ⟨b,0,H⟩=F x∧w.cell? ⟨b,1,H⟩=F y∧w.cell? ⟨b,2,H⟩=F z∧w.cell? ⟨b,3,H⟩=F u∧w.cell? ⟨b,4,H⟩=F s)∧(w.frozen? ⟨b,0,H⟩=V∧w.frozen? ⟨b,1,H⟩=V∧w.frozen? ⟨b,2,H⟩=V∧w.frozen? ⟨b,3,H⟩=V∧w.frozen? ⟨b,4,H⟩=V)∧w.heap[b]?=F (tJ #[x,y,z,u,s] t):=by
 have hb:w.heap[b]?=F (tJ #[x,y,z,u,s] t):=by rw[hg.block b (tL.1 h).1 (by simp)];exact h
 refine⟨⟨?_,?_,?_,?_,?_⟩,⟨?_,?_,?_,?_,?_⟩,hb⟩;all_goals simp[tZ,sV,hb]
theorem Yt{w:I}{b i:Nat}{cs:Array N}{t:sW}{fz:Nat×Nat}{u:N}(h:w.heap[b]?=F (tJ cs t fz)):(tG w ⟨b,i,H⟩ u).heap[b]?=F (tJ (cs.setIfInBounds i u) t fz):=by
 simp only[tG,tQ,if_true,h,sO];rfl
theorem qZ{w:I}{b c i:Nat}{o:Obj}{u:N}(h:w.heap[b]?=F o)(hne:b≠c):(tG w ⟨c,i,H⟩ u).heap[b]?=F o:=by
 simp only[tG,tQ];rw[if_neg (fun e=>hne e.symm)];exact h
abbrev Oz(w:I)(b:Nat)(x y z u s:N):I:=((((tG w ⟨b,0,H⟩ x).setCell ⟨b,1,H⟩ y).setCell ⟨b,2,H⟩ z).setCell ⟨b,3,H⟩ u).setCell ⟨b,4,H⟩ s
theorem vI{w:I}{b:Nat}{x y z u s:N}{t:sW}(h:w.heap[b]?=F (tJ #[x,y,z,u,s] t))(x' y' z' u' s':N):(Oz w b x' y' z' u' s').heap[b]?=F (tJ #[x',y',z',u',s'] t):=Yt (Yt (Yt (Yt (Yt h))))
theorem zO{w W:I}{b:Nat}(hg:J w W H)(hb:w.heap.size<=b)(x y z u s:N):J w (Oz W b x y z u s) H:=Qc (Qc (Qc (Qc (Qc hg _ hb _ _) _ hb _ _) _ hb _ _) _ hb _ _) _ hb _ _
theorem Wg(W:I)(b:Nat)(x y z u s:N):J W (Oz W b x y z u s) (F b):=Qh (Qh (Qh (Qh (Qh (Qb W (F b)) _ _) _ _) _ _) _ _) _ _
abbrev Gb(w:I)(b:Nat)(x y z u:N):I:=(((tG w ⟨b,0,H⟩ x).setCell ⟨b,1,H⟩ y).setCell ⟨b,2,H⟩ z).setCell ⟨b,3,H⟩ u
theorem Yc{w:I}{b:Nat}{x y z u:N}{t:sW}(h:w.heap[b]?=F (tJ #[x,y,z,u] t))(x' y' z' u':N):(Gb w b x' y' z' u').heap[b]?=F (tJ #[x',y',z',u'] t):=Yt (Yt (Yt (Yt h)))
theorem Xb{w W:I}{b:Nat}(hg:J w W H)(hb:w.heap.size<=b)(x y z u:N):J w (Gb W b x y z u) H:=Qc (Qc (Qc (Qc hg _ hb _ _) _ hb _ _) _ hb _ _) _ hb _ _
theorem Yq(W:I)(b:Nat)(x y z u:N):J W (Gb W b x y z u) (F b):=Qh (Qh (Qh (Qh (Qb W (F b)) _ _) _ _) _ _) _ _
theorem Zb.later{base:Nat}{w w':I}{v:N}{bs:List UInt8}(h:Zb base w v bs){b:Nat}(hg:J w w' (F b))(hb:b<base):Zb base w' v bs:=by
 refine h.grown hg (.inr fun e=>?_);have:=(h.lt b e).1;omega
def Nv(i:Nat):Nat:=[0,0,3,7,11,3,0,0,3].getD i 0
def UJ(w:I):Prop:=∀i,i<9->w.cell? ⟨0,i,H⟩=F (tK rG ((Nv i:Nat):Int))
theorem UJ.grown{w w':I}(h:UJ w)(hg:J w w' H):UJ w':=fun i hi=>hg.cell (h i hi) (by
 simp)
def QS(k:Int):Nat->Bool|0=>QW k|1=>QW k|2=>tI (k=3)|_=>tI (k=4)
theorem gB(k j:Nat)(hk:k<9)(hj:j<4):(bits BinOp.and rG ((Nv k:Nat):Int) ((2^j:Nat):Int)!=0)=QS (k:Int) j:=(by
 decide+kernel:∀(k:Fin 9)(j:Fin 4),(bits BinOp.and rG ((Nv k.1:Nat):Int) ((2^j.1:Nat):Int)!=0)=QS (k.1:Int) j.1) ⟨k,hk⟩ ⟨j,hj⟩
def Kc(r:Rq):List UInt8:=if Yl r=0then Ki r else[]
def aM:Prop:=∀(w:I)(v:N)(r:Rq),UJ w->Xt w v r->yN r->rW tA 33 #[v] w fun e w'=>∃x,e=sP (pV #[x,tK sY (Yl r)])∧Qi 0 w' x (Kc r)∧J w w' H
def Yy(w:I)(v:N)(r:Rd):Prop:=∃vn vk vl,v=pN #[vn,vk,pO r.wide,vl]∧Qe w vn r.name∧Qe w vk r.key∧Qe w vl r.last
theorem Yy.grown{w w':I}{v:N}{r:Rd}(h:Yy w v r)(hg:J w w' H):Yy w' v r:=by
 obtain⟨vn,vk,vl,rfl,h1,h2,h3⟩:=h;exact⟨vn,vk,vl,rfl,h1.grown hg,h2.grown hg,h3.grown hg⟩
theorem Yy.agg{w:I}{v:N}{r:Rd}(h:Yy w v r):∃na nc ka kc la lc,v=pN #[tH na r.name.length nc,tH ka r.key.length kc,pO r.wide,tH la r.last.length lc]:=by
 obtain⟨vn,vk,vl,rfl,h1,h2,h3⟩:=h;obtain⟨na,nc,rfl⟩:=h1.shape;obtain⟨ka,kc,rfl⟩:=h2.shape;obtain⟨la,lc,rfl⟩:=h3.shape;exact⟨na,nc,ka,kc,la,lc,rfl⟩
theorem Yy.parts{w:I}{r:Rd}{x y g z:N}(h:Yy w (pN #[x,y,g,z]) r):Qe w x r.name∧Qe w y r.key∧g=pO r.wide∧Qe w z r.last:=by
 obtain⟨vn,vk,vl,e,h1,h2,h3⟩:=h;simp only[Value.agg.injEq,Array.mk.injEq,List.cons.injEq,and_true]at e;obtain⟨rfl,rfl,rfl,rfl⟩:=e;exact⟨h1,h2,rfl,h3⟩
structure Fe(r:Rd):Prop where name:r.name.length<=140737488355328key:r.key.length<=140737488355328last:r.last.length<=140737488355328
structure uF where
  bit : Int
  right : Bool
  other : List UInt8
structure Cf where
  empty : Bool
  steps : List uF
  pair : Pr
def Lz:uF:=⟨0,V,[]⟩
def Vk:Cf:=⟨V,[],([],[])⟩
instance:Inhabited uF:=⟨Lz⟩
instance:Inhabited Cf:=⟨Vk⟩
def UD(l:PL):Nat->Int|0=>999|1=>999|m+2=>if JT (l.getD 0 ([],[])).1 (l.getD (m+1) ([],[])).1<UD l (m+1)then JT (l.getD 0 ([],[])).1 (l.getD (m+1) ([],[])).1 else UD l (m+1)
def Qz(l:PL):Int:=UD l l.length
def Jd(l:PL)(b:Nat)(x:Bool):PL:=l.filter fun q=>ZX q.1 b==x
theorem Ct(l:PL)(b:Nat)(x:Bool):(Jd l b x).length<=l.length:=sX _ _
theorem X8{l:PL}(h:ZI l)(b:Nat)(x:Bool):ZI (Jd l b x):=⟨rC (Ct l b x) h.room,fun p hp=>h.pairs p (rY.1 hp).1,sR _ h.rises⟩
theorem Cx{l:PL}(h:ZI l)(i j:Nat)(hij:i<j)(hj:j<l.length):0<=JT (l.getD i ([],[])).1 (l.getD j ([],[])).1:=by
 have hk:=UX l h.rises i j hij hj;have h1:=(h.pairs l[i] (sF (by omega))).1;have h2:=(h.pairs l[j] (sF hj)).1;rw[show l[i]=l.getD i ([],[])by simp[show i<l.length by omega]]at h1;rw[show l[j]=l.getD j ([],[])by simp[hj]]at h2;have:=AL (l.getD i ([],[])).1 (l.getD j ([],[])).1 h1.2 h2.2;have hne:=g8 hk;by_cases hp:JT (l.getD i ([],[])).1 (l.getD j ([],[])).1<0;·exact absurd (this.1 hp) hne
 ·omega
theorem Fk{l:PL}(h:ZI l):∀m,m<=l.length->0<=UD l m∧(2<=m->UD l m<=144)∧UD l m<=999|0,_=>⟨by simp[UD],by omega,by simp[UD]⟩|1,_=>⟨by simp[UD],by omega,by simp[UD]⟩|m+2,hm=>by have ih:=Fk h (m+1) (by omega);have hp:=Cx h 0 (m+1) (by omega) (by omega);have hr:=Fn (l.getD 0 ([],[])).1 (l.getD (m+1) ([],[])).1;rw[UD];by_cases hlt:JT (l.getD 0 ([],[])).1 (l.getD (m+1) ([],[])).1<UD l (m+1);(·rw[if_pos hlt];omega);·rw[if_neg hlt];omega
theorem Yn{l:PL}(h:ZI l)(h2:2<=l.length):0<=Qz l∧Qz l<=144:=by
 have:=Fk h l.length (sA _);exact⟨this.1,this.2.1 h2⟩
theorem Ei{l:PL}(_h:ZI l):∀m,2<=m->m<=l.length->∃j,0<j∧j<m∧UD l m=JT (l.getD 0 ([],[])).1 (l.getD j ([],[])).1|0,h,_=>by omega|1,h,_=>by omega|m+2,_,hm=>by rw[UD];by_cases hlt:JT (l.getD 0 ([],[])).1 (l.getD (m+1) ([],[])).1<UD l (m+1);(·rw[if_pos hlt];exact⟨m+1,by omega,by omega,rfl⟩);·rw[if_neg hlt];by_cases h0:m=0;(·subst h0;have hr:=Fn (l.getD 0 ([],[])).1 (l.getD (0+1) ([],[])).1;simp only[UD]at hlt;omega);·obtain⟨j,h1,h2,h3⟩:=Ei _h (m+1) (by omega) (by omega);exact⟨j,h1,by omega,h3⟩
theorem kN{l:PL}(h:ZI l)(h2:2<=l.length):∀x,(Jd l (Qz l).toNat x).length<l.length:=by
 obtain⟨j,hj1,hj2,hj3⟩:=Ei h l.length h2 (sA _);have hr:=Yn h h2;have hd:ZX (l.getD 0 ([],[])).1 (Qz l).toNat≠ZX (l.getD j ([],[])).1 (Qz l).toNat:=by rcases J0 (l.getD 0 ([],[])).1 (l.getD j ([],[])).1with⟨e,_⟩|⟨m,e,_,_,hd⟩;(·rw[<-hj3]at e;unfold Qz at hr;omega);·(have:(Qz l).toNat=m:=by unfold Qz;omega);rw[this];exact hd
 intro x;by_cases hlt:(Jd l (Qz l).toNat x).length<l.length;·exact hlt
 ·(have he:(Jd l (Qz l).toNat x).length=l.length:=by have:=Ct l (Qz l).toNat x;omega);have hall:=List.length_filter_eq_length_iff.1 he;have h0:=hall l[0] (sF (by omega));have hj:=hall l[j] (sF hj2);rw[show l[0]=l.getD 0 ([],[])by simp[show 0<l.length by omega]]at h0;rw[show l[j]=l.getD j ([],[])by simp[hj2]]at hj;simp only[beq_iff_eq]at h0 hj;exact absurd (h0.trans hj.symm) hd
def JS(l:PL)(b:Nat):Nat:=(l.takeWhile fun q=>!ZX q.1 b).length
theorem xS(l:PL):∀m j,0<j->j<m->m<=l.length->UD l m<=JT (l.getD 0 ([],[])).1 (l.getD j ([],[])).1|0,j,_,h,_=>by omega|1,j,h0,h,_=>by omega|m+2,j,h0,h,hm=>by rw[UD];by_cases hlt:JT (l.getD 0 ([],[])).1 (l.getD (m+1) ([],[])).1<UD l (m+1);(·rw[if_pos hlt];by_cases e:j=m+1;(·subst e;exact oJ _);·have:=xS l (m+1) j h0 (by omega) (by omega);omega);·rw[if_neg hlt];by_cases e:j=m+1;(·subst e;omega);·exact xS l (m+1) j h0 (by omega) (by omega)
theorem PA{l:PL}(h:ZI l)(h2:2<=l.length)(j:Nat)(hj:j<l.length)(b:Nat)(hb:b<(Qz l).toNat):ZX (l.getD 0 ([],[])).1 b=ZX (l.getD j ([],[])).1 b:=by
 by_cases h0:j=0;·subst h0;rfl
 ·have hm:=xS l l.length j (by omega) hj (sA _);have hr:=Yn h h2;rcases J0 (l.getD 0 ([],[])).1 (l.getD j ([],[])).1with⟨e,hs⟩|⟨m,e,hm1,hs,_⟩;(·exact hs b (by omega));·exact hs b (by unfold Qz at hb;omega)
theorem N7{l:PL}(h:ZI l)(h2:2<=l.length)(i j:Nat)(hij:i<j)(hj:j<l.length)(hi:ZX (l.getD i ([],[])).1 (Qz l).toNat=O):ZX (l.getD j ([],[])).1 (Qz l).toNat=O:=by
 have hk:=UX l h.rises i j hij hj;have hp:=Cx h i j hij hj;rcases J0 (l.getD i ([],[])).1 (l.getD j ([],[])).1with⟨e,_⟩|⟨m,e,hm,hs,hd⟩;·omega
 ·(have hge:(Qz l).toNat<=m:=by by_cases hlt:m<(Qz l).toNat;(·exact absurd ((PA h h2 i (by omega) m hlt).symm.trans (PA h h2 j hj m hlt)) hd);·omega);by_cases he:(Qz l).toNat=m;(·rw[he];have:=Ej _ _ m hs hd;rw[this];exact hk);·rw[<-hs _ (by omega)];exact hi
theorem Mc{l:PL}(h:ZI l)(h2:2<=l.length):ZX (l.getD 0 ([],[])).1 (Qz l).toNat=V∧ZX (l.getD (l.length-1) ([],[])).1 (Qz l).toNat=O:=by
 obtain⟨j,hj1,hj2,hj3⟩:=Ei h l.length h2 (sA _);have hr:=Yn h h2;have hk:=UX l h.rises 0 j hj1 hj2;rcases J0 (l.getD 0 ([],[])).1 (l.getD j ([],[])).1with⟨e,_⟩|⟨m,e,hm,hs,hd⟩;·rw[<-hj3]at e;unfold Qz at hr;omega
 ·(have em:(Qz l).toNat=m:=by unfold Qz;omega);have ho:=Ej _ _ m hs hd;(have hjt:ZX (l.getD j ([],[])).1 m=O:=by rw[ho];exact hk);refine⟨?_,?_⟩;(·rw[em];cases hx:ZX (l.getD 0 ([],[])).1 m with|false=>rfl|true=>exact absurd (hx.trans hjt.symm) hd);·by_cases hl:j=l.length-1;(·rw[<-hl,em];exact hjt);·exact N7 h h2 j (l.length-1) (by omega) (by omega) (by rw[em];exact hjt)
theorem NY{l:PL}(h:ZI l)(h2:2<=l.length):JT (l.getD 0 ([],[])).1 (l.getD (l.length-1) ([],[])).1=Qz l:=by
 have hr:=Yn h h2;obtain⟨e1,e2⟩:=Mc h h2;rw[DZ _ _ (Qz l).toNat (by omega) (fun b hb=>PA h h2 _ (by omega) b hb) (by rw[e1,e2];simp)];omega
theorem LD:∀(l:PL)(b j:Nat),j<JS l b->ZX (l.getD j ([],[])).1 b=V|[],b,j,h=>by simp[JS]at h|p::r,b,j,h=>by cases hk:ZX p.1 b with|true=>simp[JS,hk]at h|false=>cases j with|zero=>simpa using hk|succ j=>have:=LD r b j (by unfold JS at h⊢;rw[tM (p:=fun q:Pr=>!ZX q.1 b) (by simp[hk])]at h;simpa using h);simpa using this
theorem Br:∀(l:PL)(b:Nat),JS l b<l.length->ZX (l.getD (JS l b) ([],[])).1 b=O|[],b,h=>by simp at h|p::r,b,h=>by cases hk:ZX p.1 b with|true=>simp[JS,hk]|false=>(have e:JS (p::r) b=JS r b+1:=by unfold JS;rw[tM (p:=fun q:Pr=>!ZX q.1 b) (by simp[hk])];simp);rw[e]at h⊢;have:=Br r b (by simpa using h);simpa using this
theorem GN{l:PL}(h:ZI l)(h2:2<=l.length)(j:Nat)(hj:j<l.length):ZX (l.getD j ([],[])).1 (Qz l).toNat=tI (JS l (Qz l).toNat<=j):=by
 by_cases hlt:j<JS l (Qz l).toNat;·rw[decide_eq_false (by omega)];exact LD l _ j hlt
 ·rw[decide_eq_true (by omega)];have h0:=Br l (Qz l).toNat (by omega);by_cases e:j=JS l (Qz l).toNat;(·rw[e];exact h0);·exact N7 h h2 _ j (by omega) hj h0
theorem UO{l:PL}(h:ZI l)(h2:2<=l.length):0<JS l (Qz l).toNat∧JS l (Qz l).toNat<l.length:=by
 obtain⟨e1,e2⟩:=Mc h h2;rw[GN h h2 0 (by omega)]at e1;rw[GN h h2 _ (by omega)]at e2;simp at e1 e2;omega
theorem kY{l:PL}(h:ZI l)(h2:2<=l.length):Jd l (Qz l).toNat V=l.take (JS l (Qz l).toNat):=by
 have hs:=UO h h2;have hb:=fun j hj=>GN h h2 j hj;generalize(Qz l).toNat=b at*;generalize JS l b=n at*;have e:l=l.take n++l.drop n:=(tE n l).symm;rw[Jd];conv=>lhs;rw[e]
 rw[sI,tN.2,sJ.2,tV];·intro q hq;obtain⟨j,hj,rfl⟩:=L.1 hq;(have hjn:n+j<l.length:=by simp at hj;omega);rw[sM,show l[n+j]=l.getD (n+j) ([],[])by simp[hjn],hb _ hjn];simp
 ·intro q hq;obtain⟨j,hj,rfl⟩:=L.1 hq;(have hjn:j<n:=by simp at hj;omega);rw[sE,show l[j]'(by omega)=l.getD j ([],[])by simp[show j<l.length by omega],hb _ (by omega)];simp[hjn]
theorem P9{l:PL}(h:ZI l)(h2:2<=l.length):Jd l (Qz l).toNat O=l.drop (JS l (Qz l).toNat):=by
 have hs:=UO h h2;have hb:=fun j hj=>GN h h2 j hj;generalize(Qz l).toNat=b at*;generalize JS l b=n at*;have e:l=l.take n++l.drop n:=(tE n l).symm;rw[Jd];conv=>lhs;rw[e]
 rw[sI,sJ.2,tN.2,pA];·intro q hq;obtain⟨j,hj,rfl⟩:=L.1 hq;(have hjn:n+j<l.length:=by simp at hj;omega);rw[sM,show l[n+j]=l.getD (n+j) ([],[])by simp[hjn],hb _ hjn];simp
 ·intro q hq;obtain⟨j,hj,rfl⟩:=L.1 hq;(have hjn:j<n:=by simp at hj;omega);rw[sE,show l[j]'(by omega)=l.getD j ([],[])by simp[show j<l.length by omega],hb _ (by omega)];simp[hjn]
def U(x:BitVec 64):Int:=(x.toNat:Int)
theorem jC(x:BitVec 64):sB 64 (U x)=x:=by
 unfold U;rw[pL];simp
theorem kQ(x:BitVec 64):rD.wrap (x.toNat:Int)=U x:=by
 rw[rU];unfold U;have:=x.isLt;omega
theorem Zr(x y:BitVec 64):bits .xor .u64 (U x) (U y)=U (x^^^y):=by
 show rD.wrap ((sB 64 (U x)^^^sB 64 (U y)).toNat:Int)=_;rw[jC,jC,kQ]
theorem Nq(x y:BitVec 64):bits .or .u64 (U x) (U y)=U (x|||y):=by
 show rD.wrap ((sB 64 (U x)|||sB 64 (U y)).toNat:Int)=_;rw[jC,jC,kQ]
theorem KN(x y:BitVec 64):bits .andNot .u64 (U x) (U y)=U (x&&&~~~y):=by
 show rD.wrap ((sB 64 (U x)&&&~~~sB 64 (U y)).toNat:Int)=_;rw[jC,jC,kQ]
theorem J4(x:BitVec 64)(k:Nat):rD.wrap (U x*2^k)=U (x<<<k):=by
 rw[rU];unfold U;rw[BitVec.toNat_shiftLeft,Nat.shiftLeft_eq];have e:((x.toNat:Int)*2^k)=((x.toNat*2^k:Nat):Int):=by simp
 rw[e];omega
theorem N6(x:BitVec 64)(k:Nat):U x/2^k=U (x>>>k):=by
 unfold U;rw[BitVec.toNat_ushiftRight,Nat.shiftRight_eq_div_pow];simp
theorem lS(k:Int)(h0:0<=k)(h:k<64):bits .and .u64 k 63=k:=by
 obtain⟨n,rfl⟩:=Int.eq_ofNat_of_zero_le h0;show rD.wrap ((sB 64 (n:Int)&&&sB 64 63).toNat:Int)=_;rw[pL,BitVec.toNat_and];have h1:(BitVec.ofNat 64 n).toNat=n:=by rw[BitVec.toNat_ofNat];omega
 have h2:(sB 64 63).toNat=2^6-1:=by decide
 rw[h1,h2,Nat.and_two_pow_sub_one_eq_mod,rU];omega
def xN(x:BitVec 64)(k:Nat):BitVec 64:=(x<<<k)|||(x>>>(64-k))
section
theorem L9(x:BitVec 64)(k:Int)(h0:0<=k)(h:k<64)(w:I):rW tA 167 #[tK .u64 (U x),tK sY k] w fun e w'=>e=sP (tK .u64 (U (xN x k.toNat)))∧w'=w:=by
 have h63:=lS k h0 h;go_enter Tryz.func167,Tryz.ntmps167;go_wp2;go_ret;refine⟨?_,rfl⟩;rw[show(64-k).toNat=64-k.toNat by omega,J4,N6,Nq];rfl
def Km(st:List (BitVec 64)):Array N:=(st.map fun x=>tK .u64 (U x)).toArray
structure X5 (n : Nat) (w : I) (b : Nat) (st : List (BitVec 64)) : Prop where
  len : st.length = n
  blk : ∃ t, w.heap[b]? = F (tJ (Km st) t (0, 0))
section
variable{n:Nat}{w:I}{b:Nat}{st:List (BitVec 64)}
theorem X5.cell(h:X5 n w b st)(i:Nat)(hi:i<n):w.cell? ⟨b,i,H⟩=F (tK .u64 (U (st.getD i 0))):=by
 obtain⟨t,hb⟩:=h.blk;simp[tZ,hb,Km,sS,rK (show i<st.length by have:=h.len;omega)]
theorem X5.frozen(h:X5 n w b st)(i:Nat):w.frozen? ⟨b,i,H⟩=V:=by
 obtain⟨t,hb⟩:=h.blk;simp[sV,hb]
theorem X5.lt(h:X5 n w b st):b<w.heap.size:=by
 obtain⟨t,hb⟩:=h.blk;exact(tL.1 hb).1
theorem DD(st:List (BitVec 64))(i:Nat)(x:BitVec 64):(Km st).setIfInBounds i (tK .u64 (U x))=Km (st.set i x):=by
 simp[Km]
theorem X5.set(h:X5 n w b st)(i:Nat)(x:BitVec 64):X5 n (tG w ⟨b,i,H⟩ (tK .u64 (U x))) b (st.set i x):=by
 obtain⟨t,hb⟩:=h.blk;refine⟨by simp[h.len],t,?_⟩;simp only[tG,tQ,if_true,hb,sO];simp[DD]
theorem X5.setOther(h:X5 n w b st)(c:Nat)(hc:b≠c)(i:Nat)(v:N):X5 n (tG w ⟨c,i,H⟩ v) b st:=by
 obtain⟨t,hb⟩:=h.blk;exact⟨h.len,t,by rw[Below.heap_setCell _ _ _ _ hc];exact hb⟩
theorem X5.drewN(h:X5 n w b st)(k:Nat):X5 n (w.drewN k) b st:=⟨h.len,h.blk⟩
theorem X5.drew(h:X5 n w b st):X5 n w.drew b st:=⟨h.len,h.blk⟩
theorem X5.alloc(h:X5 n w b st)(o:Obj):X5 n (w.alloc o) b st:=by
 obtain⟨t,hb⟩:=h.blk;exact⟨h.len,t,by rw[Below.heap_alloc _ _ _ h.lt];exact hb⟩
theorem X5.grown(h:X5 n w b st){w':I}{r:Option Nat}(hg:J w w' r)(hr:F b≠r):X5 n w' b st:=by
 obtain⟨t,hb⟩:=h.blk;exact⟨h.len,t,by rw[hg.block b h.lt hr];exact hb⟩
theorem X5.new(w:I)(t:sW)(st:List (BitVec 64))(hl:st.length=n):X5 n (w.alloc (tJ (Km st) t)) w.heap.size st:=⟨hl,t,rJ w _⟩
end
abbrev St:=X5 25
def LG(st:List (BitVec 64))(n:Nat):List (BitVec 64):=let a:=st.getD n 0;let b:=st.getD (n+1) 0;let c:=st.getD (n+2) 0;let d:=st.getD (n+3) 0;let e:=st.getD (n+4) 0;((((st.set n (a^^^(c&&&~~~b))).set (n+1) (b^^^(d&&&~~~c))).set (n+2) (c^^^(e&&&~~~d))).set (n+3) (d^^^(a&&&~~~e))).set (n+4) (e^^^(b&&&~~~a))
def VQ(st:List (BitVec 64)):Nat->List (BitVec 64)|0=>st|k+1=>LG (VQ st k) (5*k)
theorem Oj(w:I)(b:Nat)(st:List (BitVec 64))(h:St w b st):rW tA 165 #[.pointer (F ⟨b,0,H⟩)] w fun e w'=>e=sP (pV #[])∧St w' b (VQ st 5)∧J w w' (F b):=by
 go_enter Tryz.func165,Tryz.ntmps165;go_wp2;go_loopw[2](fun y wr=>∃k:Nat,k<=5∧y=tK sY ((5*k:Nat):Int)∧St wr b (VQ st k)∧J w wr (F b))(fun y _=>25-(intOf y).toNat);case atStart=>exact⟨0,by omega,rfl,h,Qb _ _⟩
 case round=>obtain⟨k,hk,rfl,hst,hg⟩:=hrel;by_cases hlt:k<5;(·generalize hn:5*k=n;have HN:Hid (5*k=n):=hn;clear hn;(have h25:n+4<25:=by have:=HN.out;omega);have hc:=hst.cell;have hf:=hst.frozen;have c0:=hc n (by omega);have c1:=hc (n+1) (by omega);have c2:=hc (n+2) (by omega);have c3:=hc (n+3) (by omega);have c4:=hc (n+4) (by omega);clear hc;generalize hS:VQ st k=S at*;have HS:Hid (VQ st k=S):=hS;clear hS;generalize hA:S.getD n 0=A at*;generalize hB:S.getD (n+1) 0=B at*;generalize hC:S.getD (n+2) 0=C at*;generalize hD:S.getD (n+3) 0=D at*;generalize hE:S.getD (n+4) 0=E at*;have HA:Hid (S.getD n 0=A):=hA;have HB:Hid (S.getD (n+1) 0=B):=hB;have HC:Hid (S.getD (n+2) 0=C):=hC;have HD:Hid (S.getD (n+3) 0=D):=hD;have HE:Hid (S.getD (n+4) 0=E):=hE;clear hA hB hC hD hE;(have i1:(n:Int)+4<25:=by omega);go_wp2;go_quiet(fail);go_wp2;go_roundw;(case rel=>refine⟨k+1,by omega,by have:=HN.out;congr 1;omega,?_,?_⟩;(·rw[KN,KN,KN,KN,KN,Zr,Zr,Zr,Zr,Zr];(have e:VQ st (k+1)=((((S.set n (A^^^(C&&&~~~B))).set (n+1) (B^^^(D&&&~~~C))).set (n+2) (C^^^(E&&&~~~D))).set (n+3) (D^^^(A&&&~~~E))).set (n+4) (E^^^(B&&&~~~A)):=by simp only[VQ,LG,HS.out,HN.out,HA.out,HB.out,HC.out,HD.out,HE.out]);rw[e];exact(((((hst.drewN nq).set n _).set (n+1) _).set (n+2) _).set (n+3) _).set (n+4) _);·exact Qh (Qh (Qh (Qh (Qh (Qn hg nq) n _) (n+1) _) (n+2) _) (n+3) _) (n+4) _);case measure=>simp[intOf];omega);·(obtain rfl:k=5:=by omega);go_wp2;go_end0;exact⟨rfl,hst,hg⟩
end
def Ll(st:List (BitVec 64))(x:Nat):BitVec 64:=st.getD x 0^^^st.getD (x+5) 0^^^st.getD (x+10) 0^^^st.getD (x+15) 0^^^st.getD (x+20) 0
def Vr(st:List (BitVec 64)):Nat->List (BitVec 64)|0=>[0,0,0,0,0]|k+1=>(Vr st k).set k (Ll st k)
def cW(c:List (BitVec 64)):List (BitVec 64):=[c.getD 4 0^^^xN (c.getD 1 0) 1,c.getD 0 0^^^xN (c.getD 2 0) 1,c.getD 1 0^^^xN (c.getD 3 0) 1,c.getD 2 0^^^xN (c.getD 4 0) 1,c.getD 3 0^^^xN (c.getD 0 0) 1]
def Tc(d st:List (BitVec 64))(k:Nat):List (BitVec 64):=let y:=d.getD k 0;((((st.set k (st.getD k 0^^^y)).set (k+5) (st.getD (k+5) 0^^^y)).set (k+10) (st.getD (k+10) 0^^^y)).set (k+15) (st.getD (k+15) 0^^^y)).set (k+20) (st.getD (k+20) 0^^^y)
def j8(d st:List (BitVec 64)):Nat->List (BitVec 64)|0=>st|k+1=>Tc d (j8 d st k) k
theorem cO(w:I)(b:Nat)(st:List (BitVec 64))(h:St w b st):rW tA 163 #[.pointer (F ⟨b,0,H⟩)] w fun e w'=>e=sP (pV #[])∧St w' b (j8 (cW (Vr st 5)) st 5)∧J w w' (F b):=by
 have hbn:b≠w.heap.size:=Nat.ne_of_lt h.lt;have h0:=h;go_enter Tryz.func163,Tryz.ntmps163;go_wp2_with fail;go_loopw[6](fun i wr=>∃k:Nat,k<=5∧i=tK sY (k:Int)∧St wr b st∧X5 5 wr w.heap.size (Vr st k)∧J w wr (F b))(fun i _=>5-(intOf i).toNat);case atStart=>exact⟨0,by omega,rfl,h.alloc _,X5.new w 252 [0,0,0,0,0] rfl,Qw (Qb _ _) _⟩
 case round=>obtain⟨k,hk,rfl,hst,hcl,hg⟩:=hrel;by_cases hlt:k<5;(·have c0:=hst.cell k (by omega);have c1:=hst.cell (k+5) (by omega);have c2:=hst.cell (k+10) (by omega);have c3:=hst.cell (k+15) (by omega);have c4:=hst.cell (k+20) (by omega);have d0:=hcl.cell k hlt;have hf:=hcl.frozen k;generalize hx0:st.getD k 0=x0 at*;generalize hx1:st.getD (k+5) 0=x1 at*;generalize hx2:st.getD (k+10) 0=x2 at*;generalize hx3:st.getD (k+15) 0=x3 at*;generalize hx4:st.getD (k+20) 0=x4 at*;(have HX:Hid (Ll st k=x0^^^x1^^^x2^^^x3^^^x4):=by show Ll st k=_;simp only[Ll,hx0,hx1,hx2,hx3,hx4]);generalize hcc:Vr st k=cc at*;have HC:Hid (Vr st k=cc):=hcc;generalize hy:cc.getD k 0=y at*;clear hx0 hx1 hx2 hx3 hx4 hcc hy h;(have i1:(k:Int)+20<25:=by omega);(have i2:(k:Int)<5:=by omega);go_wp2_with fail;go_region;(all_goals go_wp2);go_roundw;(case rel=>rw[Zr,Zr,Zr,Zr];have hlt':=hst.lt;have hlt2:=hcl.lt;refine⟨k+1,by omega,by go_num,(hst.setOther _ hbn _ _).drew,?_,Ql (Qc hg _ (sA _) _ _)⟩;simp only[Vr,HC.out,HX.out];exact(hcl.set k _).drew);case measure=>simp[intOf];omega);·(obtain rfl:k=5:=by omega);have e0:=hcl.cell 0 (by omega);have e1:=hcl.cell 1 (by omega);have e2:=hcl.cell 2 (by omega);have e3:=hcl.cell 3 (by omega);have e4:=hcl.cell 4 (by omega);generalize hcc:Vr st 5=cc at*;have HC:Hid (Vr st 5=cc):=hcc;generalize hx0:cc.getD 0 0=x0 at*;generalize hx1:cc.getD 1 0=x1 at*;generalize hx2:cc.getD 2 0=x2 at*;generalize hx3:cc.getD 3 0=x3 at*;generalize hx4:cc.getD 4 0=x4 at*;(have HD:Hid (cW cc=[x4^^^xN x1 1,x0^^^xN x2 1,x1^^^xN x3 1,x2^^^xN x4 1,x3^^^xN x0 1]):=by show cW cc=_;simp only[cW,hx0,hx1,hx2,hx3,hx4]);clear hcc hx0 hx1 hx2 hx3 hx4 h;have hwr:=hcl.lt;go_upto_region 6with fail;go_cut[4](fun s4 wx=>s4=.pointer (F ⟨wr.heap.size,0,H⟩)∧St wx b st∧X5 5 wx wr.heap.size (cW cc)∧J w wx (F b));(case first=>go_region_held3(fun w'=>w'.cell? ⟨w.heap.size,0,H⟩=F (tK .u64 (U x0))∧w'.cell? ⟨w.heap.size,1,H⟩=F (tK .u64 (U x1))∧w'.cell? ⟨w.heap.size,2,H⟩=F (tK .u64 (U x2))∧w'.cell? ⟨w.heap.size,3,H⟩=F (tK .u64 (U x3))∧w'.cell? ⟨w.heap.size,4,H⟩=F (tK .u64 (U x4)))(go_keep)(first|(go_at_call 167;refine(L9 _ (1:Int) (by omega) (by omega) _).mono ?_;rintro e w'⟨rfl,rfl⟩));all_goals(go_wp2_with fail;go_meet;case rel=>(rw[HD.out,Zr,Zr,Zr,Zr,Zr];exact⟨rfl,(hst.alloc _).drew,(X5.new wr 252 [x4^^^xN x1 1,x0^^^xN x2 1,x1^^^xN x3 1,x2^^^xN x4 1,x3^^^xN x0 1] rfl).drew,Ql (Qw hg _)⟩)));case rest=>obtain⟨rfl,hst2,hd2,hg2⟩:=hcut;clear e0 e1 e2 e3 e4 hst hcl hg;(have hbw:b≠wr.heap.size:=by have:=h0.lt;omega);generalize hD:cW cc=dd at*;have HDD:Hid (cW cc=dd):=hD;clear hD HD;generalize hdn:wr.heap.size=db at*;clear hdn hwr;go_wp2_with fail;go_loopw[76](fun i wr=>∃k:Nat,k<=5∧i=tK sY (k:Int)∧St wr b (j8 dd st k)∧X5 5 wr db dd∧J w wr (F b))(fun i _=>5-(intOf i).toNat);(case atStart=>exact⟨0,by omega,rfl,hst2,hd2,hg2⟩);case round=>clear hst2 hd2 hg2;obtain⟨k,hk,rfl,hst,hd,hg⟩:=hrel;by_cases hlt:k<5;(·have c0:=hst.cell k (by omega);have c1:=hst.cell (k+5) (by omega);have c2:=hst.cell (k+10) (by omega);have c3:=hst.cell (k+15) (by omega);have c4:=hst.cell (k+20) (by omega);have d0:=hd.cell k hlt;have hf:=hst.frozen;generalize hS:j8 dd st k=S at*;have HS:Hid (j8 dd st k=S):=hS;generalize hy:dd.getD k 0=y at*;generalize hx0:S.getD k 0=x0 at*;generalize hx1:S.getD (k+5) 0=x1 at*;generalize hx2:S.getD (k+10) 0=x2 at*;generalize hx3:S.getD (k+15) 0=x3 at*;generalize hx4:S.getD (k+20) 0=x4 at*;(have HX:Hid (Tc dd S k=((((S.set k (x0^^^y)).set (k+5) (x1^^^y)).set (k+10) (x2^^^y)).set (k+15) (x3^^^y)).set (k+20) (x4^^^y)):=by show Tc dd S k=_;simp only[Tc,hy,hx0,hx1,hx2,hx3,hx4]);clear hS hy hx0 hx1 hx2 hx3 hx4;(have i1:(k:Int)+20<25:=by omega);(have i2:(k:Int)<5:=by omega);go_wp2_with fail;go_region;go_wp2_with fail;go_region;go_wp2_with fail;go_region;go_wp2_with fail;go_region;go_wp2_with fail;go_region;go_wp2_with fail;go_roundw;(case rel=>rw[Zr,Zr,Zr,Zr,Zr];refine⟨k+1,by omega,by go_num,?_,?_,?_⟩;(·simp only[j8,HS.out,HX.out];exact(((((hst.set k _).set (k+5) _).set (k+10) _).set (k+15) _).set (k+20) _).drew.drew.drew.drew.drew);(·exact(((((hd.setOther b hbw.symm k _).setOther b hbw.symm (k+5) _).setOther b hbw.symm (k+10) _).setOther b hbw.symm (k+15) _).setOther b hbw.symm (k+20) _).drew.drew.drew.drew.drew);·exact Ql (Ql (Ql (Ql (Ql (Qh (Qh (Qh (Qh (Qh hg k _) (k+5) _) (k+10) _) (k+15) _) (k+20) _))))));case measure=>simp[intOf];omega);·(obtain rfl:k=5:=by omega);go_wp2;go_end0;refine⟨rfl,?_,hg⟩;rw[HC.out,HDD.out];exact hst
def JH:List Nat:=[10,7,11,17,18,3,5,16,8,21,24,4,15,23,19,13,12,2,20,14,22,9,6,1]
def Ke:List Nat:=[1,3,6,10,15,21,28,36,45,55,2,14,27,41,56,8,25,43,62,18,39,61,20,44]
def JK:List (BitVec 64):=[0x0000000000000001,0x0000000000008082,0x800000000000808a,0x8000000080008000,0x000000000000808b,0x0000000080000001,0x8000000080008081,0x8000000000008009,0x000000000000008a,0x0000000000000088,0x0000000080008009,0x000000008000000a,0x000000008000808b,0x800000000000008b,0x8000000000008089,0x8000000000008003,0x8000000000008002,0x8000000000000080,0x000000000000800a,0x800000008000000a,0x8000000080008081,0x8000000000008080,0x0000000080000001,0x8000000080008008]
theorem eZ(k:Nat)(h:k<24):JH.getD k 0<25:=(by
 decide:∀k:Fin 24,JH.getD k.1 0<25) ⟨k,h⟩
theorem OG(k:Nat)(h:k<24):Ke.getD k 0<64:=(by
 decide:∀k:Fin 24,Ke.getD k.1 0<64) ⟨k,h⟩
structure YK(w:I):Prop where nums:∀i,i<24->w.cell? ⟨2,i,H⟩=F (tK .u64 (U (JK.getD i 0)))walk:∀i,i<24->w.cell? ⟨3,i,H⟩=F (tK sY ((JH.getD i 0:Nat):Int))turns:∀i,i<24->w.cell? ⟨4,i,H⟩=F (tK sY ((Ke.getD i 0:Nat):Int))
theorem YK.grown{w w':I}{b:Nat}(h:YK w)(hg:J w w' (F b))(hb:5<=b):YK w':=⟨fun i hi=>hg.cell (h.nums i hi) (by
 simp;omega),fun i hi=>hg.cell (h.walk i hi) (by
 simp;omega),fun i hi=>hg.cell (h.turns i hi) (by
 simp;omega)⟩
def J8(st:List (BitVec 64)):Nat->List (BitVec 64)×BitVec 64|0=>(st,st.getD 1 0)|k+1=>((J8 st k).1.set (JH.getD k 0) (xN (J8 st k).2 (Ke.getD k 0)),(J8 st k).1.getD (JH.getD k 0) 0)
theorem bB(w:I)(b:Nat)(hb:5<=b)(st:List (BitVec 64))(h:St w b st)(ht:YK w):rW tA 164 #[.pointer (F ⟨b,0,H⟩)] w fun e w'=>e=sP (pV #[])∧St w' b (J8 st 24).1∧J w w' (F b):=by
 have c1:=h.cell 1 (by omega);go_enter Tryz.func164,Tryz.ntmps164;go_wp2;go_loopw[2,10](fun m i wr=>∃k:Nat,k<=24∧i=tK sY (k:Int)∧m=tK .u64 (U (J8 st k).2)∧St wr b (J8 st k).1∧J w wr (F b))(fun _ i _=>24-(intOf i).toNat);case atStart=>exact⟨0,by omega,rfl,by simp[J8],h,Qb _ _⟩
 case round=>obtain⟨k,hk,rfl,rfl,hst,hg⟩:=hrel;clear c1;by_cases hlt:k<24;(·have hT:=ht.grown hg hb;have hw:=eZ k hlt;have hr:=OG k hlt;have t1:=hT.walk k hlt;have t2:=hT.turns k hlt;have c:=hst.cell (JH.getD k 0) hw;have hf:=hst.frozen;generalize hS:(J8 st k).1=S at*;have HS:Hid ((J8 st k).1=S):=hS;generalize hM:(J8 st k).2=M at*;have HM:Hid ((J8 st k).2=M):=hM;generalize hW:JH.getD k 0=W at*;have HW:Hid (JH.getD k 0=W):=hW;generalize hR:Ke.getD k 0=R at*;have HR:Hid (Ke.getD k 0=R):=hR;clear hS hM hW hR;generalize hX:S.getD W 0=X at*;have HX:Hid (S.getD W 0=X):=hX;clear hX hT ht h;(have i1:(W:Int)<25:=by omega);go_wp2_with fail;go_region_with(go_at_call 167;refine(L9 M (R:Int) (by omega) (by omega) _).mono ?_;rintro e w'⟨rfl,rfl⟩);(all_goals go_wp2);go_roundw;(case rel=>refine⟨k+1,by omega,by go_num,?_,?_,Ql (Qh hg _ _)⟩;(·simp only[J8,HS.out,HW.out,HX.out]);·simp only[J8,HS.out,HM.out,HW.out,HR.out];exact(hst.set W _).drew);case measure=>simp[intOf];omega);·(obtain rfl:k=24:=by omega);go_wp2;go_end0;exact⟨rfl,hst,hg⟩
def Ag(st:List (BitVec 64))(n:BitVec 64):List (BitVec 64):=let r:=VQ (J8 (j8 (cW (Vr st 5)) st 5) 24).1 5;r.set 0 (r.getD 0 0^^^n)
theorem Ob(w:I)(b:Nat)(hb:5<=b)(st:List (BitVec 64))(n:BitVec 64)(h:St w b st)(ht:YK w):rW tA 160 #[.pointer (F ⟨b,0,H⟩),tK .u64 (U n)] w fun e w'=>e=sP (pV #[])∧St w' b (Ag st n)∧J w w' (F b):=by
 go_enter Tryz.func160,Tryz.ntmps160;go_wp2_with fail;refine(cO _ b st h).mono ?_;rintro e w1⟨rfl,h1,g1⟩;go_wp2_with fail;refine(bB _ b hb _ h1 (ht.grown g1 hb)).mono ?_;rintro e w2⟨rfl,h2,g2⟩;go_wp2_with fail;refine(Oj _ b _ h2).mono ?_;rintro e w3⟨rfl,h3,g3⟩;have g:=Qa g1 (Qa g2 g3);clear g1 g2 g3 h1 h2 h ht;have HR:Hid (Ag st n=(VQ (J8 (j8 (cW (Vr st 5)) st 5) 24).1 5).set 0 ((VQ (J8 (j8 (cW (Vr st 5)) st 5) 24).1 5).getD 0 0^^^n)):=rfl;generalize VQ (J8 (j8 (cW (Vr st 5)) st 5) 24).1 5=S at*;have c0:=h3.cell 0 (by omega);have hf:=h3.frozen 0;generalize hx:S.getD 0 0=x at*;clear hx;go_wp2_with fail;go_region;go_wp2_with fail;go_end0;refine⟨rfl,?_,Ql (Qh g 0 _)⟩;rw[HR.out,Zr];exact(h3.set 0 _).drew
def kL{α:Type}(p:α->Bool):List α->Option Nat|[]=>H|a::l=>if p a=O then F 0 else(kL p l).map (·+1)
def ZS{α:Type}(p:α->Bool)(l:List α):Int:=match kL p l with|F i=>(i:Int)|none=>-1
theorem Tr{α:Type}(p:α->Bool)(d:α):∀(l:List α)(m:Nat),m<l.length->(l.take m).any p=V->p (l.getD m d)=O->kL p l=F m|[],_,h,_,_=>by simp at h|a::l,0,_,_,h=>by have h':p a=O:=h;rw[kL,if_pos h']|a::l,m+1,h0,h1,h2=>by rw[sG,rS,rO]at h1;rw[kL,if_neg (by rw[h1.1];decide),Tr p d l m (by simpa using h0) h1.2 (by simpa using h2)];rfl
theorem Fp{α:Type}(p:α->Bool):∀(l:List α),l.any p=V->kL p l=H|[],_=>rfl|a::l,h=>by rw[rS,rO]at h;rw[kL,if_neg (by rw[h.1];decide),Fp p l h.2];rfl
theorem qV{α:Type}(p:α->Bool)(d:α)(l:List α)(m:Nat)(h:m<l.length)(h1:(l.take m).any p=V)(h2:p (l.getD m d)=O):ZS p l=(m:Int):=by
 rw[ZS,Tr p d l m h h1 h2]
theorem K9{α:Type}(p:α->Bool)(l:List α)(h:l.any p=V):ZS p l=-1:=by
 rw[ZS,Fp p l h]
theorem Vj{α:Type}(p:α->Bool)(d:α):∀(l:List α),l.any p=O->∃m,m<l.length∧(l.take m).any p=V∧p (l.getD m d)=O∧ZS p l=(m:Int)|[],h=>by simp at h|a::l,h=>by by_cases ha:p a=O;(·exact⟨0,by simp,by simp,ha,qV p d (a::l) 0 (by simp) (by simp) ha⟩);·(have hf:p a=V:=by simpa using ha);rw[rS,hf,Bool.false_or]at h;obtain⟨m,h1,h2,h3,_⟩:=Vj p d l h;(have e1:m+1<(a::l).length:=by simp;omega);(have e2:((a::l).take (m+1)).any p=V:=by rw[sG,rS,hf,h2];rfl);(have e3:p ((a::l).getD (m+1) d)=O:=by simpa using h3);exact⟨m+1,e1,e2,e3,qV p d _ _ e1 e2 e3⟩
theorem kZ{α:Type}(p:α->Bool)(l:List α):(ZS p l==-1)=!(l.any p):=by
 cases h:l.any p with|false=>rw[K9 p l h];rfl|true=>cases l with|nil=>simp at h|cons a l=>obtain⟨m,_,_,_,e⟩:=Vj p a (a::l) h;rw[e];(have:((m:Int)==-1)=V:=by simp);rw[this];rfl
theorem T0{α:Type}(p:α->Bool)(l:List α):tI (0<=ZS p l)=l.any p:=by
 cases h:l.any p with|false=>rw[K9 p l h];rfl|true=>cases l with|nil=>simp at h|cons a l=>obtain⟨m,_,_,_,e⟩:=Vj p a (a::l) h;rw[e];simp
theorem Ue(w:I)(v1 v2:N)(b1 b2:List UInt8)(h1:Qe w v1 b1)(h2:Qe w v2 b2):rW tA 60 #[v1,v2] w fun e w'=>e=sP (pO (tI (b1=b2)))∧w'=w:=by
 have c1:=qN w v1 b1 h1;have c2:=qN w v2 b2 h2;go_enter Tryz.func60,Tryz.ntmps60;go_wp2;go_ret;refine⟨?_,rfl⟩;have e:((qU b1).toList==(qU b2).toList)=tI (b1=b2):=by rw[Gf,Gf];by_cases h:b1=b2<;>simp[h]
 rw[<-e];rfl
theorem Pg(p:Zi):Q5 [] [p]=QG p:=by
 have h0:Q9 []=0:=(Ya []).2 VR;rw[Q5,if_pos h0,if_neg (by simp),Xg];by_cases h:QG p=0;·have h2:=Tu VR h WK (by omega);have h3:(Zv [] p).length<=1:=DG [] p;rw[if_neg (by omega)]at h2;rw[if_pos h,if_pos h2,Xg,h]
 ·rw[if_neg h]
def Th:Prop:=∀(w:I)(a:Option pD)(n cap:Nat),rW tA 44 #[tH a n cap] w fun e w'=>e=sP (tK sY (Qq n))∧J w w' H
theorem YS:Th:=by
 intro w a n cap;by_cases h1:1<=n;·by_cases h2:n<=16;(·rw[Qq,if_pos ⟨h1,h2⟩];(have t1:¬(n:Int)<1:=by omega);(have t2:¬(n:Int)>16:=by omega);go_enter pP,pE;go_wp2;go_ret;exact⟨rfl,Qb _ _⟩);·rw[Qq,if_neg (by omega)];(have t1:¬(n:Int)<1:=by omega);(have t2:(n:Int)>16:=by omega);go_enter pP,pE;go_wp2;go_ret;exact⟨rfl,Qb _ _⟩
 ·rw[Qq,if_neg (by omega)];(have t1:(n:Int)<1:=by omega);go_enter pP,pE;go_wp2;go_ret;exact⟨rfl,Qb _ _⟩
def Zu(l:PL)(k:List UInt8):Nat:=(l.takeWhile fun p=>YN p.1 k).length
def GQ(l:PL)(k:List UInt8):Bool:=tI (Zu l k<l.length∧(l.getD (Zu l k) ([],[])).1=k)
def XT(l:PL)(k:List UInt8):Nat:=if GQ l k=O then Zu l k+1 else Zu l k
theorem yE(l:PL)(k:List UInt8):Zu l k<=l.length:=by
 induction l with|nil=>simp[Zu]|cons p r ih=>unfold Zu at ih⊢;rw[pT];cases h:YN p.1 k with|true=>simpa using ih|false=>simp
theorem O8:∀(l:PL)(k:List UInt8)(i:Nat),i<=l.length->(∀j,j<i->YN (l.getD j ([],[])).1 k=O)->(i<l.length->YN (l.getD i ([],[])).1 k=V)->Zu l k=i|[],k,i,h,_,_=>by(obtain rfl:i=0:=by simpa using h);rfl|p::r,k,0,_,_,h2=>by have:=h2 (by simp);simp only[tX]at this;simp[Zu,this]|p::r,k,i+1,h,h1,h2=>by have h0:=h1 0 (by omega);simp only[tX]at h0;have:=O8 r k i (by simpa using h) (fun j hj=>by simpa using h1 (j+1) (by omega)) (fun hi=>by simpa using h2 (by simpa using hi));unfold Zu at this⊢;rw[tM (p:=fun p:Pr=>YN p.1 k) h0];simpa using this
theorem Mo:∀(l:PL)(k:List UInt8)(j:Nat),j<Zu l k->YN (l.getD j ([],[])).1 k=O|[],k,j,h=>by simp[Zu]at h|p::r,k,j,h=>by cases hk:YN p.1 k with|false=>simp[Zu,hk]at h|true=>cases j with|zero=>simpa using hk|succ j=>unfold Zu at h;rw[tM (p:=fun p:Pr=>YN p.1 k) hk]at h;have:=Mo r k j (by unfold Zu;simpa using h);simpa using this
theorem MK:∀(l:PL)(k:List UInt8),Zu l k<l.length->YN (l.getD (Zu l k) ([],[])).1 k=V|[],k,h=>by simp at h|p::r,k,h=>by cases hk:YN p.1 k with|false=>simp[Zu,hk]|true=>(have e:Zu (p::r) k=Zu r k+1:=by unfold Zu;rw[tM (p:=fun p:Pr=>YN p.1 k) hk];simp);rw[e]at h⊢;have:=MK r k (by simpa using h);simpa using this
theorem uP(l:PL)(k:List UInt8)(hr:UB l)(j:Nat)(hj:j<l.length):YN (l.getD j ([],[])).1 k=tI (j<Zu l k):=by
 by_cases h:j<Zu l k;·rw[decide_eq_true h];exact Mo l k j h
 ·rw[decide_eq_false h];have h0:=MK l k (by omega);by_cases e:j=Zu l k;(·rw[e];exact h0);·cases hk:YN (l.getD j ([],[])).1 k with|false=>rfl|true=>have:=Kn _ _ _ (UX l hr (Zu l k) j (by omega) hj) hk;rw[this]at h0;cases h0
theorem vY{l:PL}{k:List UInt8}(h:GQ l k=O):Zu l k<l.length∧(l.getD (Zu l k) ([],[])).1=k:=by
 simpa only[GQ,decide_eq_true_eq]using h
theorem yV(l:PL)(k:List UInt8):Zu l k<=XT l k∧XT l k<=l.length∧XT l k<=Zu l k+1:=by
 have:=yE l k;unfold XT;by_cases h:GQ l k=O;·rw[if_pos h];have:=(vY h).1;omega
 ·rw[if_neg h];omega
theorem Tj(l:PL)(k:List UInt8)(hr:UB l)(j:Nat)(hj:j<l.length)(he:(l.getD j ([],[])).1=k):GQ l k=O∧j=Zu l k:=by
 have hp:Zu l k=j:=by refine O8 l k j (by omega) (fun i hi=>?_) (fun _=>?_);(·rw[<-he];exact UX l hr i j hi hj);·rw[he];exact Yb k
 refine⟨?_,hp.symm⟩;rw[GQ,hp];exact decide_eq_true ⟨hj,he⟩
theorem dO(l:PL)(k:List UInt8)(hr:UB l):Ev l k=if GQ l k=O then F (l.getD (Zu l k) ([],[])).2 else H:=by
 by_cases h:GQ l k=O;·rw[if_pos h];obtain⟨h1,h2⟩:=vY h;refine OW l k _ h1 (fun j hj e=>?_) h2;have:=Mo l k j hj;rw[e,Yb]at this;cases this
 ·rw[if_neg h];exact D0 l k fun j hj e=>h (Tj l k hr j hj e).1
theorem Cg(l:PL)(p:Pr):Kl l p=l.take (Zu l p.1)++([p]++l.drop (XT l p.1)):=by
 rw[L2 l p (Zu l p.1) (yE l p.1) (fun j hj=>Mo l p.1 j hj) (MK l p.1)];by_cases h:Zu l p.1<l.length∧(l.getD (Zu l p.1) ([],[])).1=p.1;·rw[if_pos h,XT,if_pos (by rw[GQ];exact decide_eq_true h),rV,if_pos h.1];rfl
 ·rw[if_neg h,XT,if_neg (by rw[GQ];simpa using h)]
theorem Ot(l:PL)(p:Pr):(Kl l p).length=Zu l p.1+1+(l.length-XT l p.1):=by
 rw[Cg];have h1:=yE l p.1;simp;omega
theorem Of(l:PL)(p:Pr)(hl:l.length<=60):(60<(Kl l p).length)↔(Zu l p.1=XT l p.1∧l.length=60):=by
 rw[Ot];have:=yV l p.1;omega
theorem CI(l:PL)(f:Pr->Bool)(n:Nat)(hn:n<=l.length)(h1:∀j,j<n->f (l.getD j ([],[]))=V)(h2:∀j,n<=j->j<l.length->f (l.getD j ([],[]))=O):l.filter f=l.drop n:=by
 have e:l=l.take n++l.drop n:=(tE n l).symm;have ha:(l.take n).filter f=[]:=by rw[sJ];intro q hq;obtain⟨j,hj,rfl⟩:=L.1 hq;(have hjn:j<n:=by simp at hj;omega);have:=h1 j hjn;rw[sE];rw[show l[j]'(by omega)=l.getD j ([],[])by simp[show j<l.length by omega],this];simp
 have hb:(l.drop n).filter f=l.drop n:=by rw[tN];intro q hq;obtain⟨j,hj,rfl⟩:=L.1 hq;(have hjn:n+j<l.length:=by simp at hj;omega);rw[sM,show l[n+j]=l.getD (n+j) ([],[])by simp[hjn]];exact h2 _ (by omega) hjn
 conv=>lhs;rw[e]
 rw[sI,ha,hb,pA]
theorem C4(l:PL)(f:Pr->Bool)(n:Nat)(hn:n<=l.length)(h1:∀j,j<n->f (l.getD j ([],[]))=O)(h2:∀j,n<=j->j<l.length->f (l.getD j ([],[]))=V):l.filter f=l.take n:=by
 have e:l=l.take n++l.drop n:=(tE n l).symm;have hb:(l.drop n).filter f=[]:=by rw[sJ];intro q hq;obtain⟨j,hj,rfl⟩:=L.1 hq;(have hjn:n+j<l.length:=by simp at hj;omega);rw[sM,show l[n+j]=l.getD (n+j) ([],[])by simp[hjn],h2 _ (by omega) hjn];simp
 have ha:(l.take n).filter f=l.take n:=by rw[tN];intro q hq;obtain⟨j,hj,rfl⟩:=L.1 hq;(have hjn:j<n:=by simp at hj;omega);rw[sE,show l[j]'(by omega)=l.getD j ([],[])by simp[show j<l.length by omega]];exact h1 j hjn
 conv=>lhs;rw[e]
 rw[sI,ha,hb,tV]
theorem aC(l:PL)(k:List UInt8)(hr:UB l):kM l k=l.take (Zu l k)++l.drop (XT l k):=by
 by_cases h:GQ l k=O;·obtain⟨h1,h2⟩:=vY h;(have e:l=l.take (Zu l k)++(l.getD (Zu l k) ([],[])::l.drop (Zu l k+1)):=by(conv=>lhs;rw[<-tE (Zu l k) l,sD h1]);simp[h1]);have hne:∀j,j<l.length->j≠Zu l k->(l.getD j ([],[])).1≠k:=fun j hj hn e=>hn (Tj l k hr j hj e).2;(have ha:(l.take (Zu l k)).filter (fun q=>!(q.1==k))=l.take (Zu l k):=by rw[tN];intro q hq;obtain⟨j,hj,rfl⟩:=L.1 hq;(have hjn:j<Zu l k:=by simp at hj;omega);rw[sE,show l[j]'(by omega)=l.getD j ([],[])by simp[show j<l.length by omega]];simpa using hne j (by omega) (by omega));(have hb:(l.drop (Zu l k+1)).filter (fun q=>!(q.1==k))=l.drop (Zu l k+1):=by rw[tN];intro q hq;obtain⟨j,hj,rfl⟩:=L.1 hq;(have hjn:Zu l k+1+j<l.length:=by simp at hj;omega);rw[sM,show l[Zu l k+1+j]=l.getD (Zu l k+1+j) ([],[])by simp[hjn]];simpa using hne _ hjn (by omega));rw[XT,if_pos h,kM];(conv=>lhs;rw[e]);rw[sI,pF (by simpa using h2),ha,hb]
 ·rw[XT,if_neg h,tE,kM,tN];intro q hq;obtain⟨j,hj,rfl⟩:=L.1 hq;have:=fun e=>h (Tj l k hr j hj e).1;rw[show l.getD j ([],[])=l[j]by simp[hj]]at this;simpa using this
theorem Fx(l:PL)(k:List UInt8)(hr:UB l)(j:Nat)(hj:j<l.length):YN k (l.getD j ([],[])).1=tI (XT l k<=j):=by
 have hp:=uP l k hr j hj;have hn:=yV l k;by_cases h1:j<Zu l k;·rw[decide_eq_true h1]at hp;rw[Hw _ _ hp,decide_eq_false (by omega)]
 ·rw[decide_eq_false h1]at hp;by_cases e:(l.getD j ([],[])).1=k;(·obtain⟨h2,h3⟩:=Tj l k hr j hj e;rw[e,Yb,XT,if_pos h2,decide_eq_false (by omega)]);·rw[UR _ _ hp e];by_cases h:GQ l k=O;(·rw[XT,if_pos h,decide_eq_true (by by_cases hjp:j=Zu l k;(·exact absurd (by rw[hjp];exact(vY h).2) e);·omega)]);·rw[XT,if_neg h,decide_eq_true (by omega)]
theorem Ai(l:PL)(f t:List UInt8)(hr:UB l):Vq l f t=(l.take (max (Zu l f) (XT l t))).drop (Zu l f):=by
 have h1:=yE l f;have h2:=yV l t;have e:Vq l f t=(l.filter fun q=>!YN t q.1).filter fun q=>!YN q.1 f:=by rw[Vq,List.filter_filter]
 rw[e,C4 l _ (XT l t) h2.2.1 (fun j hj=>by rw[Fx l t hr j (by omega),decide_eq_false (by omega)];rfl) (fun j hj hjl=>by rw[Fx l t hr j hjl,decide_eq_true hj];rfl)];have hd:∀(n:Nat),n<=l.length->(l.take n).filter (fun q=>!YN q.1 f)=(l.take n).drop (Zu l f):=by intro n hn;by_cases hc:Zu l f<=n;(·refine CI _ _ _ (by simp;omega) (fun j hj=>?_) (fun j hj hjl=>?_);(·(have:(l.take n).getD j ([],[])=l.getD j ([],[]):=by simp[show j<n by omega]);rw[this,uP l f hr j (by omega),decide_eq_true hj];rfl);·(have hjn:j<n:=by simp at hjl;omega);(have:(l.take n).getD j ([],[])=l.getD j ([],[]):=by simp[hjn]);rw[this,uP l f hr j (by omega),decide_eq_false (by omega)];rfl);·rw[tW (by simp;omega),sJ];intro q hq;obtain⟨j,hj,rfl⟩:=L.1 hq;(have hjn:j<n:=by simp at hj;omega);rw[sE,show l[j]'(by omega)=l.getD j ([],[])by simp[show j<l.length by omega],uP l f hr j (by omega),decide_eq_true (by omega)];simp
 rw[hd _ h2.2.1];by_cases hc:Zu l f<=XT l t;·rw[Nat.max_eq_right hc]
 ·rw[Nat.max_eq_left (by omega),tW (by simp;omega),tW (by simp;omega)]
theorem Ma:∀(t:FL)(p:Tn)(k:Nat),k<=t.length->(∀j,j<k->YN (t.getD j ([],[])).1 p.1=O)->(k<t.length->YN (t.getD k ([],[])).1 p.1=V)->Jz t p=if k<t.length∧(t.getD k ([],[])).1=p.1then t.set k p else t.take k++([p]++t.drop k)|[],p,k,hk,_,_=>by(obtain rfl:k=0:=by simpa using hk);simp[Jz]|q::r,p,0,_,_,h2=>by have h:=h2 (by simp);simp only[tX]at h;rw[Jz,if_neg (by rw[h];simp)];by_cases e:q.1=p.1;(·rw[if_pos e,if_pos ⟨by simp,by simpa using e⟩];simp);·rw[if_neg e,if_neg (fun h=>e (by simpa using h.2))];simp|q::r,p,k+1,hk,h1,h2=>by have h:=h1 0 (by omega);simp only[tX]at h;rw[Jz,if_pos h,Ma r p k (by simpa using hk) (fun j hj=>by simpa using h1 (j+1) (by omega)) (fun hk=>by simpa using h2 (by simpa using hk))];by_cases e:k<r.length∧(r.getD k ([],[])).1=p.1;(·rw[if_pos e,if_pos ⟨by simpa using e.1,by simpa using e.2⟩];simp);·rw[if_neg e,if_neg (fun h=>e ⟨by simpa using h.1,by simpa using h.2⟩)];simp
def QA(l:FL)(k:List UInt8):Nat:=(l.takeWhile fun p=>YN p.1 k).length
def Kd(l:FL)(k:List UInt8):Bool:=tI (QA l k<l.length∧(l.getD (QA l k) ([],[])).1=k)
def QO(l:FL)(k:List UInt8):Nat:=if Kd l k=O then QA l k+1 else QA l k
theorem vE(l:FL)(k:List UInt8):QA l k<=l.length:=by
 induction l with|nil=>simp[QA]|cons p r ih=>unfold QA at ih⊢;rw[pT];cases h:YN p.1 k with|true=>simpa using ih|false=>simp
theorem Dz:∀(l:FL)(k:List UInt8)(i:Nat),i<=l.length->(∀j,j<i->YN (l.getD j ([],[])).1 k=O)->(i<l.length->YN (l.getD i ([],[])).1 k=V)->QA l k=i|[],k,i,h,_,_=>by(obtain rfl:i=0:=by simpa using h);rfl|p::r,k,0,_,_,h2=>by have:=h2 (by simp);simp only[tX]at this;simp[QA,this]|p::r,k,i+1,h,h1,h2=>by have h0:=h1 0 (by omega);simp only[tX]at h0;have:=Dz r k i (by simpa using h) (fun j hj=>by simpa using h1 (j+1) (by omega)) (fun hi=>by simpa using h2 (by simpa using hi));unfold QA at this⊢;rw[tM (p:=fun p:Tn=>YN p.1 k) h0];simpa using this
theorem vC:∀(l:FL)(k:List UInt8)(j:Nat),j<QA l k->YN (l.getD j ([],[])).1 k=O|[],k,j,h=>by simp[QA]at h|p::r,k,j,h=>by cases hk:YN p.1 k with|false=>simp[QA,hk]at h|true=>cases j with|zero=>simpa using hk|succ j=>unfold QA at h;rw[tM (p:=fun p:Tn=>YN p.1 k) hk]at h;have:=vC r k j (by unfold QA;simpa using h);simpa using this
theorem PZ:∀(l:FL)(k:List UInt8),QA l k<l.length->YN (l.getD (QA l k) ([],[])).1 k=V|[],k,h=>by simp at h|p::r,k,h=>by cases hk:YN p.1 k with|false=>simp[QA,hk]|true=>(have e:QA (p::r) k=QA r k+1:=by unfold QA;rw[tM (p:=fun p:Tn=>YN p.1 k) hk];simp);rw[e]at h⊢;have:=PZ r k (by simpa using h);simpa using this
theorem Wz(l:FL)(k:List UInt8)(hr:YI l)(j:Nat)(hj:j<l.length):YN (l.getD j ([],[])).1 k=tI (j<QA l k):=by
 by_cases h:j<QA l k;·rw[decide_eq_true h];exact vC l k j h
 ·rw[decide_eq_false h];have h0:=PZ l k (by omega);by_cases e:j=QA l k;(·rw[e];exact h0);·cases hk:YN (l.getD j ([],[])).1 k with|false=>rfl|true=>have:=Kn _ _ _ (zB l hr (QA l k) j (by omega) hj) hk;rw[this]at h0;cases h0
theorem jB{l:FL}{k:List UInt8}(h:Kd l k=O):QA l k<l.length∧(l.getD (QA l k) ([],[])).1=k:=by
 simpa only[Kd,decide_eq_true_eq]using h
theorem PG(l:FL)(k:List UInt8):QA l k<=QO l k∧QO l k<=l.length∧QO l k<=QA l k+1:=by
 have:=vE l k;unfold QO;by_cases h:Kd l k=O;·rw[if_pos h];have:=(jB h).1;omega
 ·rw[if_neg h];omega
theorem Fg(l:FL)(k:List UInt8)(hr:YI l)(j:Nat)(hj:j<l.length)(he:(l.getD j ([],[])).1=k):Kd l k=O∧j=QA l k:=by
 have hp:QA l k=j:=by refine Dz l k j (by omega) (fun i hi=>?_) (fun _=>?_);(·rw[<-he];exact zB l hr i j hi hj);·rw[he];exact Yb k
 refine⟨?_,hp.symm⟩;rw[Kd,hp];exact decide_eq_true ⟨hj,he⟩
theorem WC(l:FL)(k:List UInt8)(hr:YI l):xL l k=if Kd l k=O then F (l.getD (QA l k) ([],[])).2 else H:=by
 by_cases h:Kd l k=O;·rw[if_pos h];obtain⟨h1,h2⟩:=jB h;refine Bc l k _ h1 (fun j hj e=>?_) h2;have:=vC l k j hj;rw[e,Yb]at this;cases this
 ·rw[if_neg h];exact Rj l k fun j hj e=>h (Fg l k hr j hj e).1
theorem R7(l:FL)(p:Tn):Jz l p=l.take (QA l p.1)++([p]++l.drop (QO l p.1)):=by
 rw[Ma l p (QA l p.1) (vE l p.1) (fun j hj=>vC l p.1 j hj) (PZ l p.1)];by_cases h:QA l p.1<l.length∧(l.getD (QA l p.1) ([],[])).1=p.1;·rw[if_pos h,QO,if_pos (by rw[Kd];exact decide_eq_true h),rV,if_pos h.1];rfl
 ·rw[if_neg h,QO,if_neg (by rw[Kd];simpa using h)]
theorem S9(l:FL)(p:Tn):(Jz l p).length=QA l p.1+1+(l.length-QO l p.1):=by
 rw[R7];have h1:=vE l p.1;simp;omega
theorem T9(l:FL)(p:Tn)(hl:l.length<=8):(8<(Jz l p).length)↔(QA l p.1=QO l p.1∧l.length=8):=by
 rw[S9];have:=PG l p.1;omega
theorem Ax(l:FL)(k:List UInt8)(hr:YI l):kU l k=l.take (QA l k)++l.drop (QO l k):=by
 by_cases h:Kd l k=O;·obtain⟨h1,h2⟩:=jB h;(have e:l=l.take (QA l k)++(l.getD (QA l k) ([],[])::l.drop (QA l k+1)):=by(conv=>lhs;rw[<-tE (QA l k) l,sD h1]);simp[h1]);have hne:∀j,j<l.length->j≠QA l k->(l.getD j ([],[])).1≠k:=fun j hj hn e=>hn (Fg l k hr j hj e).2;(have ha:(l.take (QA l k)).filter (fun q=>!(q.1==k))=l.take (QA l k):=by rw[tN];intro q hq;obtain⟨j,hj,rfl⟩:=L.1 hq;(have hjn:j<QA l k:=by simp at hj;omega);rw[sE,show l[j]'(by omega)=l.getD j ([],[])by simp[show j<l.length by omega]];simpa using hne j (by omega) (by omega));(have hb:(l.drop (QA l k+1)).filter (fun q=>!(q.1==k))=l.drop (QA l k+1):=by rw[tN];intro q hq;obtain⟨j,hj,rfl⟩:=L.1 hq;(have hjn:QA l k+1+j<l.length:=by simp at hj;omega);rw[sM,show l[QA l k+1+j]=l.getD (QA l k+1+j) ([],[])by simp[hjn]];simpa using hne _ hjn (by omega));rw[QO,if_pos h,kU];(conv=>lhs;rw[e]);rw[sI,pF (by simpa using h2),ha,hb]
 ·rw[QO,if_neg h,tE,kU,tN];intro q hq;obtain⟨j,hj,rfl⟩:=L.1 hq;have:=fun e=>h (Fg l k hr j hj e).1;rw[show l.getD j ([],[])=l[j]by simp[hj]]at this;simpa using this
theorem iO(l:FL)(k:List UInt8)(hr:YI l):Jn l k=if Kd l k=O then(l.getD (QA l k) ([],[])).2 else[]:=by
 unfold Jn;rw[WC l k hr];by_cases h:Kd l k=O;·rw[if_pos h,if_pos h];rfl
 ·rw[if_neg h,if_neg h];rfl
theorem D5(l:FL)(k:List UInt8)(hr:YI l):((l.take (QO l k)).drop (QA l k)=[]∧Jn l k=[]∧QO l k=QA l k)∨(∃t,(l.take (QO l k)).drop (QA l k)=[t]∧Jn l k=t.2∧QO l k=QA l k+1):=by
 rw[iO l k hr];by_cases h:Kd l k=O;·right;obtain⟨h1,h2⟩:=jB h;refine⟨l.getD (QA l k) ([],[]),?_,by rw[if_pos h],by rw[QO,if_pos h]⟩;rw[QO,if_pos h,List.take_succ_eq_append_getElem h1,r8 (by simp;omega),tW (by simp;omega),pA];simp[h1]
 ·left;refine⟨?_,by rw[if_neg h],by rw[QO,if_neg h]⟩;rw[QO,if_neg h,tW (by simp;omega)]
def dZ:Prop:=∀(w:I)(a:Option pD)(n cap:Nat),rW tA 43 #[tH a n cap] w fun e w'=>e=sP (tK sY (Qt n))∧J w w' H
def Hd:Prop:=∀(w:I)(v:N)(r:Rq),UJ w->Xt w v r->yN r->rW tA 30 #[v] w fun e w'=>e=sP (tK sY (Yl r))∧J w w' H
end Go.Proofs.YtgnknpcnpjnohaaGreatDoor
