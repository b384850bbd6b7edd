/-
  Texts of this proof, joined, with few blanks: Base, LineF, SlM, PartM, Keys, PlaceM, Trees, TreeF, FitsF, ForestF, RdF, WrM0, TapeF, TapeG, KTree, KPure, ForestK, ForestE, WireF, WireG, LineG, RqMem, RqBox, RqEn, RdM0, ProofM, Sides, ForkF, Bits, Lanes, Cols, Move, Round, IdxF, EqB, ApplyOne, CheckC, CheckP, PosF, FPosF, FCName, RqCk.
-/
import Derived.WalkKit
import Derived.WalkSpells
import Derived.WalkLawsBesides
import Derived.BigRegion
import Derived.Deep.QuietTactic
import Derived.BigQuiet
import Derived.Deep.RegionHeld3
import Derived.Deep.DeepCutAuto
import Derived.Lib.Strings
import Derived.Test.YtghhckgnmfgjeaaGreatDoorChecked
set_option maxRecDepth 100000
set_option maxHeartbeats 8000000
open Array renaming getElem?_eq_some_iff->tL,getElem?_modify->tQ,ext->oI
open BitVec renaming ofInt->sB,ofInt_natCast->pL
open Bool renaming true->O,false->V,or_eq_false_iff->rO,and_eq_true->pX,or_eq_true->oC
open Classical renaming byContradiction->sN
open Decidable renaming decide->tI
open Go renaming World->I,Value->N,TypeId->sW,heap_alloc_new->rJ,Calls->rW,Addr->pD,maxLen->oK,info_parts->oL
open Go.Ending renaming returned->sP
open Go.IntKind renaming i64->sY,u64->rD,u8->rG,wrap_u64->rU
open Go.Obj renaming cells->tJ
open Go.Op renaming bytesLess->sH
open Go.Proofs.Tryz renaming prog->tA,underlying25->sL,ntmps46->pE,func46->pP
open Go.Value renaming slice->tH,int->tK,agg->pN,bool->pO,tuple->pV,ownBlock->pZ
open Go.Value.slice renaming injEq->rB
open Go.World renaming grownBy->J,setCell->tG,cell?->tZ,frozen?->sV,grownBy_alloc->rP
open Int renaming toNat_natCast->rI,le_refl->oJ
open List renaming mem_iff_getElem->L,length_append->T,append_assoc->tB,eq_nil_of_length_eq_zero->tD,take_append_drop->tE,takeWhile_cons_of_pos->tM,filter_eq_self->tN,mem_cons->tS,append_nil->tV,drop_eq_nil_of_le->tW,getD_cons_zero->tX,mem_cons_of_mem->tY,drop_eq_getElem_cons->sD,getElem_take->sE,getElem_mem->sF,take_succ_cons->sG,filter_append->sI,filter_eq_nil_iff->sJ,getElem_drop->sM,pairwise_singleton->sQ,getElem?_map->sS,length_filter_le->sX,pairwise_cons->rF,flatMap_cons->rH,getElem?_eq_getElem->rK,take_left'->rM,drop_left'->rN,any_cons->rS,mem_cons_self->rT,set_eq_take_append_cons_drop->rV,length_cons->rX,mem_filter->rY,take_append_of_le_length->r7,drop_append_of_le_length->r8,nil_append->pA,getElem?_eq_some_iff->pB,pairwise_iff_getElem->pC,filter_cons_of_neg->pF,take_of_length_le->pG,find?_cons_of_pos->pI,find?_cons_of_neg->pJ,drop_succ_cons->pR,takeWhile_cons->pT,getElem?_take->pU,length_drop->pY,map_cons->oE,take_nil->oF
open List.Pairwise renaming cons->tU,filter->sR,nil->sZ
open Nat renaming lt_of_lt_of_le->tR,le_refl->sA,testBit_lt_two_pow->sU,pow_le_pow_right->rA,le_trans->rC,testBit_div_two_pow->pH,div_div_eq_div_mul->pM,eq_of_testBit_eq->pQ,min_eq_left->oD,sub_self->oG,mul_one->oH
open Option renaming some->F,none->H,map_some->sO
open Option.some renaming injEq->tP,inj->pK
open Prod.mk renaming injEq->sC
open UInt8 renaming ofNat->tC,lt_iff_toNat_lt->sK,toNat_ofNat'->pS,toNat_inj->pW
namespace Go.Proofs.YtghhckgnmfgjeaaGreatDoor
open Go.RowKit
section
theorem Qb(w:I)(r:Option Nat):J w w r:=⟨rfl,rfl,rfl,sA _,fun _ _ _=>rfl⟩
theorem Qa{w w1 w2:I}{r:Option Nat}(h:J w w1 r)(k:J w1 w2 r):J w w2 r:=⟨k.os.trans h.os,k.tape.trans h.tape,k.output.trans h.output,rC h.size k.size,fun i hi hn=>(k.block i (tR hi h.size) hn).trans (h.block i hi hn)⟩
theorem Qj{w w1:I}{r:Option Nat}(h:J w w1 r):J w w1.drew r:=⟨h.os,h.tape,h.output,h.size,h.block⟩
theorem Qn{w w1:I}{r:Option Nat}(h:J w w1 r)(n:Nat):J w (w1.drewN n) r:=⟨h.os,h.tape,h.output,h.size,h.block⟩
theorem Qf{w w1:I}{b:Nat}(h:J w w1 (F b))(i:Nat)(v:N):J w (tG w1 ⟨b,i,H⟩ v) (F b):=Qa h ⟨rfl,rfl,rfl,by
 simp[tG],fun k _ hn=>Below.heap_setCell _ _ _ _ (by
 intro e;exact hn (by rw[e]))⟩
theorem Qz{w w1:I}{r:Option Nat}(h:J w w1 r)(o:Obj):J w (w1.alloc o) r:=Qa h (rP _ _ _)
theorem Ju{w w1 w2:I}{r:Option Nat}{c:Nat}(h:J w w1 r)(hc:w.heap.size<=c)(k:J w1 w2 (F c)):J w w2 r:=⟨k.os.trans h.os,k.tape.trans h.tape,k.output.trans h.output,rC h.size k.size,fun i hi hn=>(k.block i (tR hi h.size) (by
 simp;omega)).trans (h.block i hi hn)⟩
theorem Qd{w w1:I}{r:Option Nat}(h:J w w1 r)(c:Nat)(hc:w.heap.size<=c)(i:Nat)(v:N):J w (tG w1 ⟨c,i,H⟩ v) r:=Ju h hc (Qf (Qb _ _) i v)
theorem ZQ(b o n:Nat):(⟨b,o,H⟩:pD).add n=⟨b,o+n,H⟩:=by
 unfold Addr.add;split;·simp_all
 ·rfl
theorem Oo(w:I):(sizeOf (tA.elem 25)).run tA w=.ok 1 w:=by
 kernel_rfl
theorem OF(W:I)(pb o len cap:Nat)(l:Int)(n:Nat)(hn:l=(n:Int))(h1:n<=len)(hc:n<cap):(Instr.slice 25 (tH (F ⟨pb,o,H⟩) len cap) (F (tK sY l)) H H).run tA W=.ok (tH (F ⟨pb,o+n,H⟩) (len-n) (cap-n)) W:=by
 subst hn;rw[run_slice_l _ _ _ _ _ (by kernel_rfl) _ _ (by omega) (by omega),Oo];simp only[Result.andThen,sliced,rI,sO,oH,ZQ];rw[if_neg (by omega)]
theorem AQ(W:I)(pb o len cap:Nat)(l:Int)(n:Nat)(hn:l=(n:Int))(hc:n<=cap)(h0:0<cap):(Instr.slice 25 (tH (F ⟨pb,o,H⟩) len cap) H (F (tK sY l)) H).run tA W=.ok (tH (F ⟨pb,o,H⟩) n cap) W:=by
 subst hn;rw[run_slice_h _ _ _ _ _ (by kernel_rfl) _ _ (by omega) (by omega),Oo];simp only[Result.andThen,sliced,rI,sO,oH,ZQ];rw[if_neg (by omega)];simp
def Kx(w:I)(pb o:Nat)(bs:List UInt8):Prop:=∀i,i<bs.length->w.cell? ⟨pb,o+i,H⟩=F (tK rG ((bs.getD i 0).toNat:Int))
theorem Kx.drew{w:I}{pb o:Nat}{bs:List UInt8}(h:Kx w pb o bs):Kx w.drew pb o bs:=h
theorem Kx.grown{w w':I}{pb o:Nat}{bs:List UInt8}{r:Option Nat}(h:Kx w pb o bs)(hg:J w w' r)(hr:F pb≠r):Kx w' pb o bs:=fun i hi=>hg.cell (h i hi) hr
def ZW(bs:List UInt8):Array N:=(bs.map fun c=>tK rG (c.toNat:Int)).toArray
def ZH(w:I)(b:Nat)(bs:List UInt8):Prop:=∃t,w.heap[b]?=F (tJ (ZW bs) t (0,0))
section
variable{w:I}{b:Nat}{bs:List UInt8}
theorem ZH.cell(h:ZH w b bs)(i:Nat)(hi:i<bs.length):w.cell? ⟨b,i,H⟩=F (tK rG ((bs.getD i 0).toNat:Int)):=by
 obtain⟨t,hb⟩:=h;simp[tZ,hb,ZW,sS,rK hi]
theorem ZH.frozen(h:ZH w b bs)(i:Nat):w.frozen? ⟨b,i,H⟩=V:=by
 obtain⟨t,hb⟩:=h;simp[sV,hb]
theorem ZH.lt(h:ZH w b bs):b<w.heap.size:=by
 obtain⟨t,hb⟩:=h;exact(tL.1 hb).1
theorem Ck(bs:List UInt8)(i:Nat)(x:UInt8):(ZW bs).setIfInBounds i (tK rG (x.toNat:Int))=ZW (bs.set i x):=by
 simp[ZW]
theorem ZH.set(h:ZH w b bs)(i:Nat)(x:UInt8):ZH (tG w ⟨b,i,H⟩ (tK rG (x.toNat:Int))) b (bs.set i x):=by
 obtain⟨t,hb⟩:=h;refine⟨t,?_⟩;simp only[tG,tQ,if_true,hb,sO];simp[Ck]
theorem ZH.drewN(h:ZH w b bs)(k:Nat):ZH (w.drewN k) b bs:=h
theorem ZH.drew(h:ZH w b bs):ZH w.drew b bs:=h
theorem ZH.alloc(h:ZH w b bs)(o:Obj):ZH (w.alloc o) b bs:=by
 have hl:=h.lt;obtain⟨t,hb⟩:=h;exact⟨t,by rw[Below.heap_alloc _ _ _ hl];exact hb⟩
theorem ZH.grown(h:ZH w b bs){w':I}{r:Option Nat}(hg:J w w' r)(hr:F b≠r):ZH w' b bs:=by
 have hl:=h.lt;obtain⟨t,hb⟩:=h;exact⟨t,by rw[hg.block b hl hr];exact hb⟩
theorem ZH.new(w:I)(t:sW)(bs:List UInt8):ZH (w.alloc (tJ (ZW bs) t)) w.heap.size bs:=⟨t,rJ w _⟩
theorem ZH.at(h:ZH w b bs)(o:Nat)(cs:List UInt8)(hc:∀i,i<cs.length->o+i<bs.length∧bs.getD (o+i) 0=cs.getD i 0):Kx w b o cs:=by
 intro i hi;rw[h.cell (o+i) (hc i hi).1,(hc i hi).2]
end
def Qe(w:I)(v:N)(bs:List UInt8):Prop:=∃a cap,v=tH a bs.length cap∧bs.length<=cap∧((bs=[]∧(a=H->cap=0))∨∃b o,a=F ⟨b,o,H⟩∧Kx w b o bs)
theorem Qe.grown{w w':I}{v:N}{bs:List UInt8}(h:Qe w v bs)(hg:J w w' H):Qe w' v bs:=by
 obtain⟨a,cap,rfl,hc,h⟩:=h;refine⟨a,cap,rfl,hc,?_⟩;rcases h with h|⟨b,o,rfl,h⟩;·exact .inl h
 ·exact .inr ⟨b,o,rfl,h.grown hg (by simp)⟩
theorem Qe.alloc{w:I}{v:N}{bs:List UInt8}(h:Qe w v bs)(o:Obj):Qe (w.alloc o) v bs:=h.grown (rP _ _ _)
theorem Qe.drew{w:I}{v:N}{bs:List UInt8}(h:Qe w v bs):Qe w.drew v bs:=h
theorem Qe.drewN{w:I}{v:N}{bs:List UInt8}(h:Qe w v bs)(n:Nat):Qe (w.drewN n) v bs:=h
theorem ZH.slice{w:I}{b:Nat}{bs:List UInt8}(h:ZH w b bs)(cap:Nat)(hc:bs.length<=cap):Qe w (tH (F ⟨b,0,H⟩) bs.length cap) bs:=⟨_,cap,rfl,hc,.inr ⟨b,0,rfl,h.at 0 bs fun i hi=>by
 simpa using hi⟩⟩
theorem QK(w:I):Qe w (tH H 0 0) []:=⟨H,0,rfl,sA _,.inl ⟨rfl,fun _=>rfl⟩⟩
def K7(n:Nat):List UInt8:=List.replicate n 0
theorem Ep(n:Nat):(K7 n).length=n:=by
 simp[K7]
theorem Aa(n:Nat):madeCells (tK rG 0).cells (n*1)=ZW (K7 n):=by
 apply oI;·simp[size_madeCells,ZW,K7]
 ·intro i h1 h2;simp[madeCells,ZW,K7,Value.cells,Nat.mod_one]
theorem cU:(tA.info? 5).map (fun i=>(i.zero,i.size,i.bytes))=F (F (tK rG 0),1,1):=by
 kernel_rfl
theorem cP:(tA.info? 5).map (·.size)=F 1:=by
 kernel_rfl
theorem BJ(W:I)(c:Int)(n:Nat)(hc:c=(n:Int))(hn:n<=1000000):(Instr.makeSlice 25 (tK sY c) (tK sY c)).run tA W=.ok (tH (F ⟨W.heap.size,0,H⟩) n n) (W.alloc (tJ (ZW (K7 n)) 5)):=by
 subst hc;obtain⟨i0,hi,hz0,hz1,hz2⟩:=oL cU;have h:=run_make (P:=tA) W 25 5 i0 (tK rG 0) sL hi hz0 sY sY (n:Int) (n:Int) (by omega) (oJ _) (by rw[hz2];omega) (by omega);rw[h,hz1,rI,Aa]
theorem yW(bs:List UInt8):∀v∈(bs.map fun c=>tK rG (c.toNat:Int)),v.oneCell'=O:=by
 intro v hv;obtain⟨c,_,rfl⟩:=List.mem_map.1 hv;rfl
theorem Nc(w:I)(X Y:Array N)(t:sW):(w.alloc (tJ X t)).setRow w.heap.size Y=w.alloc (tJ Y t):=by
 simp only[World.setRow,World.alloc];congr 1;apply oI;·simp
 ·intro i h1 h2;simp only[Array.getElem_modify,Array.getElem_push];(have hi:i<w.heap.size+1:=by simpa using h2);split<;>split<;>first|rfl|omega|(exfalso;omega)|simp_all
theorem Av(w:I)(a:Option pD)(bs:List UInt8)(cap n m ty:Nat)(hn:bs.length<=n)(hs:Qe w (tH a bs.length cap) bs):(Builtin.copy_ #[25,25] ty #[tH (F ⟨w.heap.size,0,H⟩) n m,tH a bs.length cap]).run tA (w.alloc (tJ (ZW (K7 n)) 5))=.ok (tK sY (bs.length:Int)) (w.alloc (tJ (ZW (bs++K7 (n-bs.length))) 5)):=by
 obtain⟨a',cap',e,hc,h⟩:=hs.alloc (tJ (ZW (K7 n)) 5);simp only[rB,true_and]at e;obtain⟨rfl,rfl⟩:=e;by_cases h0:bs=[];·subst h0;have:=run_copy_none (P:=tA) (w.alloc (tJ (ZW (K7 n)) 5)) 25 25 ty 5 (F ⟨w.heap.size,0,H⟩) a n m 0 cap sL cP (by simp);simpa[goInt]using this
 ·rcases h with h|⟨b,o,rfl,h⟩;(·exact absurd h.1 h0);·have:=run_copy_row (P:=tA) (w.alloc (tJ (ZW (K7 n)) 5)) 25 25 ty 5 w.heap.size 0 n m ⟨b,o,H⟩ bs.length cap (ZW (K7 n)) 5 (bs.map fun c=>tK rG (c.toNat:Int)) sL cP (rJ w _) (by simp only[List.length_map];exact(oD hn).symm) (by intro j v hj;rw[sS]at hj;cases hb:bs[j]?with|none=>rw[hb]at hj;simp at hj|some c=>rw[hb]at hj;simp at hj;subst hj;rw[ZQ];have hlt:j<bs.length:=(pB.1 hb).1;rw[h j hlt];simp[hb]) (by simp[ZW,K7];exact hn) (yW bs);rw[this,Nc];simp[goInt,ZW,K7]
def Vs(bs:List UInt8):List N:=bs.map fun c=>tK rG (c.toNat:Int)
theorem IZ(bs:List UInt8):(Vs bs).length=bs.length:=by
 simp[Vs]
theorem Ms(a b:List UInt8):Vs (a++b)=Vs a++Vs b:=by
 simp[Vs]
theorem Ca(bs:List UInt8)(j:Nat)(u:N)(h:(Vs bs)[j]?=F u):j<bs.length∧u=tK rG ((bs.getD j 0).toNat:Int):=by
 rw[Vs,sS]at h;cases hb:bs[j]?with|none=>rw[hb]at h;simp at h|some c=>rw[hb]at h;simp at h;exact⟨(pB.1 hb).1,by simp[hb,<-h]⟩
def Q8(base:Nat)(w:I)(v:N)(bs:List UInt8):Prop:=w.ownsRow base 5 1 v bs.length (Vs bs)
theorem QT(base:Nat)(w:I):Q8 base w (tH H 0 0) []:=World.ownsRow_nil _ _ _ _
theorem Q8.grown{base:Nat}{w w':I}{v:N}{bs:List UInt8}(h:Q8 base w v bs){row:Option Nat}(hg:J w w' row)(hne:v.ownBlock=H∨v.ownBlock≠row):Q8 base w' v bs:=World.ownsRow.kept h hg hne
theorem Q8.grownNone{base:Nat}{w w':I}{v:N}{bs:List UInt8}(h:Q8 base w v bs)(hg:J w w' H):Q8 base w' v bs:=by
 refine h.grown hg ?_;cases hv:v.ownBlock with|none=>exact .inl rfl|some k=>exact .inr (by simp)
theorem Q8.alloc{base:Nat}{w:I}{v:N}{bs:List UInt8}(h:Q8 base w v bs)(o:Obj):Q8 base (w.alloc o) v bs:=World.ownsRow.alloc h o
theorem Q8.slice{base:Nat}{w:I}{v:N}{bs:List UInt8}(h:Q8 base w v bs):Qe w v bs:=by
 obtain⟨h1,h2⟩:=h;rcases h2 with⟨rfl,h0⟩|⟨g,cap,cur,rfl,hb,hg,hn,hm,hs,ht⟩;·obtain rfl:=tD h0;exact QK w
 ·refine⟨_,cap,rfl,hn,.inr ⟨g,0,rfl,?_⟩⟩;intro i hi;(have hc:cur.toList[i]?=F (tK rG ((bs.getD i 0).toNat:Int)):=by(have e:(cur.toList.take (bs.length*1))[i]?=(Vs bs)[i]?:=by rw[ht]);rw[pU,if_pos (by omega)]at e;rw[e,Vs,sS,rK hi];simp[hi]);simp[tZ,hg];simpa using hc
theorem Q8.lt{base:Nat}{w:I}{v:N}{bs:List UInt8}(h:Q8 base w v bs):∀k,v.ownBlock=F k->base<=k∧k<w.heap.size:=World.ownsRow.lt h
theorem Q8.shape{base:Nat}{w:I}{v:N}{bs:List UInt8}(h:Q8 base w v bs):∃a cap,v=tH a bs.length cap:=by
 obtain⟨a,cap,e,_⟩:=h.slice;exact⟨a,cap,e⟩
theorem Ft(base:Nat)(w:I)(bs:List UInt8)(hb:base<=w.heap.size)(hm:bs.length<=oK):Q8 base (w.alloc (tJ (ZW bs) 5)) (tH (F ⟨w.heap.size,0,H⟩) bs.length bs.length) bs:=⟨by
 simp[Vs],.inr ⟨w.heap.size,bs.length,ZW bs,rfl,hb,rJ w _,sA _,hm,by
 simp[ZW],by
 simp[ZW,Vs,pG]⟩⟩
theorem Xk{w W w1:I}{v:N}{bs:List UInt8}(h:J w W H)(ho:Q8 w.heap.size W v bs)(hg:J W w1 v.ownBlock):J w w1 H:=⟨hg.os.trans h.os,hg.tape.trans h.tape,hg.output.trans h.output,rC h.size hg.size,fun i hi hn=>(hg.block i (tR hi h.size) (fun e=>by
 have:=(ho.lt i e.symm).1;omega)).trans (h.block i hi hn)⟩
theorem Nl(w:I)(base ty:Nat)(v:N)(bs:List UInt8)(hown:Q8 base w v bs)(a:Option pD)(m cap:Nat)(cs:List UInt8)(hs:Qe w (tH a m cap) cs)(hbytes:bs.length+m<=140737488355328)(hbase:base<=w.heap.size):∃v' w',(Builtin.append_ #[25,25] ty #[v,tH a m cap]).run tA w=.ok v' w'∧Q8 base w' v' (bs++cs)∧J w w' v.ownBlock:=by
 obtain⟨i0,hi,hz0,hz1,hz2⟩:=oL cU;obtain⟨a',cap',e,hc,h⟩:=hs;simp only[rB]at e;obtain⟨rfl,rfl,rfl⟩:=e;have h63:bs.length+cs.length<=oK:=by unfold oK;omega
 have key:∀ad:pD,(∀j u,(Vs cs)[j]?=F u->w.cell? (ad.add j)=F u)->∃v' w',(Builtin.append_ #[25,25] ty #[v,tH (F ad) cs.length cap]).run tA w=.ok v' w'∧Q8 base w' v' (bs++cs)∧J w w' v.ownBlock:=by intro ad hnews;obtain⟨v',w',hr,ho,hg,_⟩:=run_append_own (P:=tA) w base 25 ty 5 i0 (tK rG 0) 1 1 sL hi hz0 hz1 hz2 rfl (by decide) v bs.length (Vs bs) hown ad cs.length cap (Vs cs) (by simp[Vs]) hnews (yW cs) h63 (by omega) hbase;refine⟨v',w',hr,?_,hg⟩;unfold Q8;rw[Ms,T];exact ho
 rcases h with⟨rfl,hz⟩|⟨b,o,rfl,h⟩;·cases a with|none=>obtain rfl:=hz rfl;refine⟨v,w,run_append_owned_none (P:=tA) (w:=w) base 25 ty 5 i0 1 sL hi v bs.length (Vs bs) hown,?_,Qb _ _⟩;rw[tV];exact hown|some ad=>exact key ad (by simp[Vs])
 ·refine key ⟨b,o,H⟩ fun j u hj=>?_;obtain⟨hlt,rfl⟩:=Ca cs j u hj;rw[ZQ];exact h j hlt
theorem QL{w:I}{ops:Array Oper}{rest:List Oper}{o:Oper}{a:Act}{Q:Exit->Act->I->Prop}(hgd:o.guard=H)(s x:Operand)(ho:o.op=.call {callee:=.builtin .append,args:=#[s,x],argTypes:=#[25,25]})(base:Nat)(v:N)(bs:List UInt8)(hs:a.eval s=v)(hown:Q8 base w v bs)(xa:Option pD)(m cap:Nat)(cs:List UInt8)(hx:a.eval x=tH xa m cap)(hsl:Qe w (tH xa m cap) cs)(hbytes:bs.length+m<=140737488355328)(hbase:base<=w.heap.size)(h:∀v' w',Q8 base w' v' (bs++cs)->J w w' v.ownBlock->wpList tA ops Q rest (a.put o.dst v') w'):wpList tA ops Q (o::rest) a w:=by
 refine wpList_plain hgd fun K hK=>?_;obtain⟨v',w',hrun,ho',hg⟩:=Nl w base o.type v bs hown xa m cap cs hsl hbytes hbase;unfold Oper.wp;simp[execOp,ho,resolve,invoke,builtin,hs,hx,hrun,Result.andThen];exact hK _ _ (h v' w' ho' hg)
theorem Qe.take{w:I}{a:Option pD}{m cap:Nat}{bs:List UInt8}(h:Qe w (tH a m cap) bs)(k:Nat)(hk:k<=m):Qe w (tH a k cap) (bs.take k):=by
 obtain⟨a',cap',e,hc,h⟩:=h;simp only[rB]at e;obtain⟨rfl,rfl,rfl⟩:=e;have hl:(bs.take k).length=k:=by simp;omega
 refine⟨a,cap,by rw[hl],by omega,?_⟩;rcases h with⟨rfl,hz⟩|⟨b,o,rfl,h⟩;·exact .inl ⟨by simp,hz⟩
 ·refine .inr ⟨b,o,rfl,fun i hi=>?_⟩;rw[h i (by omega)];rw[hl]at hi;simp[hi]
theorem Lz(bs:List UInt8)(s:ByteArray):((bs.map fun c=>((c.toNat:Nat):Int)).foldl (fun r n=>r.push (tC n.toNat)) s)=⟨s.data++bs.toArray⟩:=by
 induction bs generalizing s with|nil=>simp|cons c bs ih=>simp only[oE,List.foldl_cons];rw[ih];congr 1;simp[ByteArray.push]
def jQ(bs:List UInt8):ByteArray:=⟨bs.toArray⟩
theorem Pq(bs:List UInt8):(jQ bs).toList=bs:=by
 rw[Lib.toList_data];rfl
theorem FW(W:I)(v:N)(bs:List UInt8)(hs:Qe W v bs):(convert 25 9 v).run tA W=.ok (.string (jQ bs)) W:=by
 obtain⟨a,cap,rfl,hc,h⟩:=hs;rw[run_convert_bytes_string W 25 9 5 a bs.length cap sL Tryz.underlying5 Tryz.underlying9];have key:∀ad:pD,(∀j u,(Vs bs)[j]?=F u->W.cell? (ad.add j)=F u)->(Conv.bytesToString (tH (F ad) bs.length cap)).run tA W=.ok (.string (jQ bs)) W:=by intro ad hcells;have hl:=run_loadCells_list (P:=tA) W ad (Vs bs) hcells;rw[IZ]at hl;have:=run_bytesToString (P:=tA) W ad bs.length cap (bs.map fun c=>((c.toNat:Nat):Int)) (by rw[hl];simp[Vs]);rw[this,Lz];simp[jQ]
 rcases h with⟨rfl,hz⟩|⟨b,o,rfl,h⟩;·cases a with|none=>simp[Conv.bytesToString,jQ];rfl|some ad=>exact key ad (by simp[Vs])
 ·refine key ⟨b,o,H⟩ fun j u hj=>?_;obtain⟨hlt,rfl⟩:=Ca bs j u hj;rw[ZQ];exact h j hlt
theorem ZH.slice32{w:I}{b:Nat}{bs:List UInt8}(h:ZH w b bs)(hl:bs.length=32):Qe w (tH (F ⟨b,0,H⟩) 32 32) bs:=by
 have:=h.slice 32 (by omega);rw[hl]at this;exact this
theorem UB(w:I)(x:UInt8)(t:sW):Qe (w.alloc (tJ #[tK rG (x.toNat:Int)] t)) (tH (F ⟨w.heap.size,0,H⟩) 1 1) [x]:=(ZH.new w t [x]).slice 1 (by
 simp)
theorem ED(w:I)(x y:UInt8)(t:sW):Qe (w.alloc (tJ #[tK rG (x.toNat:Int),tK rG (y.toNat:Int)] t)) (tH (F ⟨w.heap.size,0,H⟩) 2 2) [x,y]:=(ZH.new w t [x,y]).slice 2 (by
 simp)
theorem Ki{base base':Nat}{w:I}{v:N}{bs:List UInt8}(h:Q8 base w v bs)(hb:base'<=base):Q8 base' w v bs:=by
 refine⟨h.1,?_⟩;rcases h.2with h2|⟨g,cap,cur,h1,h2,h3⟩;·exact .inl h2
 ·exact .inr ⟨g,cap,cur,h1,rC hb h2,h3⟩
end
structure Ac where
  kind : Int
  sess : Int
  keep : Int
  data : List UInt8
def Uk:Ac:=⟨0,0,0,[]⟩
def YS(a:Ac):Int:=if 1<=a.kind∧a.kind<=4then(if(a.kind=1∧¬(0<=a.sess∧a.sess<=7))∨(a.kind=3∧¬(0<=a.keep∧a.keep<=200000))then 2 else if 4000<a.data.length then 1 else if(a.kind≠1∧a.sess≠0)∨(a.kind≠3∧a.keep≠0)∨(a.kind≠1∧0<a.data.length)then 4 else 0)else 5
structure Y1(a:Ac):Prop where kind:1<=a.kind∧a.kind<=4sess:a.kind=1->0<=a.sess∧a.sess<=7keep:a.kind=3->0<=a.keep∧a.keep<=200000data:a.data.length<=4000noSess:a.kind≠1->a.sess=0noKeep:a.kind≠3->a.keep=0noData:a.kind≠1->a.data=[]
theorem kE(a:Ac):YS a=0↔Y1 a:=by
 unfold YS;by_cases h0:1<=a.kind∧a.kind<=4;·rw[if_pos h0];by_cases h1:(a.kind=1∧¬(0<=a.sess∧a.sess<=7))∨(a.kind=3∧¬(0<=a.keep∧a.keep<=200000));(·rw[if_pos h1];refine⟨fun e=>(by cases e),fun h=>?_⟩;rcases h1 with⟨h1,h2⟩|⟨h1,h2⟩;(·exact absurd (h.sess h1) h2);·exact absurd (h.keep h1) h2);·rw[if_neg h1];by_cases h2:4000<a.data.length;(·rw[if_pos h2];exact⟨fun e=>(by cases e),fun h=>by have:=h.data;omega⟩);·rw[if_neg h2];by_cases h3:(a.kind≠1∧a.sess≠0)∨(a.kind≠3∧a.keep≠0)∨(a.kind≠1∧0<a.data.length);(·rw[if_pos h3];refine⟨fun e=>(by cases e),fun h=>?_⟩;rcases h3 with⟨h3,h4⟩|⟨h3,h4⟩|⟨h3,h4⟩;(·exact absurd (h.noSess h3) h4);(·exact absurd (h.noKeep h3) h4);·rw[h.noData h3]at h4;simp at h4);·rw[if_neg h3];refine⟨fun _=>⟨h0,fun h=>?_,fun h=>?_,by omega,fun h=>?_,fun h=>?_,fun h=>?_⟩,fun _=>rfl⟩;(·exact sN fun e=>h1 (.inl ⟨h,e⟩));(·exact sN fun e=>h1 (.inr ⟨h,e⟩));(·exact sN fun e=>h3 (.inl ⟨h,e⟩));(·exact sN fun e=>h3 (.inr (.inl ⟨h,e⟩)));·refine tD ?_;have:¬0<a.data.length:=fun e=>h3 (.inr (.inr ⟨h,e⟩));omega
 ·rw[if_neg h0];exact⟨fun e=>(by cases e),fun h=>absurd h.kind h0⟩
def gE(n:Nat):UInt8:=tC (48+n)
def dN(n:Nat):List UInt8:=if n<10then[gE n]else dN (n/10)++[gE (n%10)]termination_by n decreasing_by
 omega
def fT(n:Nat):UInt8:=if n<10then tC (48+n)else tC (87+n)
def gZ(bs:List UInt8):List UInt8:=bs.flatMap fun c=>[fT (c.toNat/16),fT (c.toNat%16)]
def iA:List UInt8:=[97,115,107]
def fH:List UInt8:=[115,121,110,99]
def dY:List UInt8:=[99,114,97,115,104]
def dC:List UInt8:=[115,116,97,114,116]
def gL(a:Ac):List UInt8:=if a.kind=1then iA++32::(dN a.sess.toNat++32::gZ a.data)else if a.kind=2then fH else if a.kind=3then dY++32::dN a.keep.toNat else if a.kind=4then dC else[]
theorem Zu(w:I)(o:Obj):∃W:I,Hid (W=w.alloc o)∧J w W H∧Hid (W.heap[w.heap.size]?=F o):=⟨w.alloc o,rfl,rP _ _ _,rJ w o⟩
theorem Qe.shape{w:I}{v:N}{bs:List UInt8}(h:Qe w v bs):∃a cap,v=tH a bs.length cap:=by
 obtain⟨a,cap,rfl,_⟩:=h;exact⟨a,cap,rfl⟩
theorem QR{W w:I}{b:Nat}{x y:N}{t:sW}(hg:J W w H)(h:W.heap[b]?=F (tJ #[x,y] t)):w.cell? ⟨b,0,H⟩=F x∧w.cell? ⟨b,1,H⟩=F y∧w.frozen? ⟨b,0,H⟩=V∧w.frozen? ⟨b,1,H⟩=V:=by
 have hb:w.heap[b]?=F (tJ #[x,y] t):=by rw[hg.block b (tL.1 h).1 (by simp)];exact h
 refine⟨by simp[tZ,hb],by simp[tZ,hb],by simp[sV,hb],by simp[sV,hb]⟩
theorem zB{W w:I}{b:Nat}{x y:N}{t:sW}(hg:J W w H)(h:W.heap[b]?=F (tJ #[x,y] t)){G:Prop}(k:w.heap[b]?=F (tJ #[x,y] t)->w.cell? ⟨b,0,H⟩=F x->w.cell? ⟨b,1,H⟩=F y->w.frozen? ⟨b,0,H⟩=V->w.frozen? ⟨b,1,H⟩=V->G):G:=by
 obtain⟨h1,h2,h3,h4⟩:=QR hg h;exact k (by rw[hg.block b (tL.1 h).1 (by simp)];exact h) h1 h2 h3 h4
theorem Qc{W w:I}{b:Nat}{o:Obj}(hg:J W w H)(h:W.heap[b]?=F o):w.heap[b]?=F o:=by
 rw[hg.block b (tL.1 h).1 (by simp)];exact h
def Qi(base:Nat)(w:I)(v:N)(bs:List UInt8):Prop:=Qe w v bs∧(bs=[]∨∃b,v.ownBlock=F b∧b<w.heap.size∧(b<base∨∃cur fz,w.heap[b]?=F (tJ cur 5 fz)))
theorem Qi.slice{base:Nat}{w:I}{v:N}{bs:List UInt8}(h:Qi base w v bs):Qe w v bs:=h.1
theorem Q8.part{base base':Nat}{w:I}{v:N}{bs:List UInt8}(h:Q8 base' w v bs):Qi base w v bs:=by
 refine⟨h.slice,?_⟩;rcases h.2with⟨rfl,h0⟩|⟨g,cap,cur,rfl,hb,hg,_⟩;·exact .inl (tD h0)
 ·exact .inr ⟨g,rfl,(tL.1 hg).1,.inr ⟨cur,_,hg⟩⟩
theorem Vn{w:I}{b o:Nat}{v:N}(h:w.cell? ⟨b,o,H⟩=F v):b<w.heap.size:=by
 by_cases hb:b<w.heap.size;·exact hb
 ·simp[tZ,Array.getElem?_eq_none (Nat.le_of_not_lt hb)]at h
theorem Qe.part{w w':I}{v:N}{bs:List UInt8}(h:Qe w v bs)(hg:J w w' H)(base:Nat)(hb:w.heap.size<=base):Qi base w' v bs:=by
 refine⟨h.grown hg,?_⟩;obtain⟨a,cap,rfl,hc,h⟩:=h;rcases h with⟨rfl,_⟩|⟨b,o,rfl,h⟩;·exact .inl rfl
 ·by_cases h0:bs=[];(·exact .inl h0);·have hl:0<bs.length:=List.length_pos_iff.2 h0;have:=Vn (h 0 hl);exact .inr ⟨b,rfl,tR this hg.size,.inl (by omega)⟩
theorem Qi.mono{base base':Nat}{w:I}{v:N}{bs:List UInt8}(h:Qi base w v bs)(hb:base<=base'):Qi base' w v bs:=by
 refine⟨h.1,?_⟩;rcases h.2with h|⟨b,h1,h2,h3⟩;·exact .inl h
 ·refine .inr ⟨b,h1,h2,?_⟩;rcases h3 with h3|h3;(·exact .inl (by omega));·exact .inr h3
theorem ZD{base:Nat}{w:I}{v:N}{bs:List UInt8}(h:Qi base w v bs):v.oneCell'=O:=by
 obtain⟨⟨a,cap,rfl,_⟩,_⟩:=h;rfl
theorem Qi.keptT{base:Nat}{w w':I}{v:N}{bs:List UInt8}(h:Qi base w v bs){row:Option Nat}(hg:J w w' row)(hrow:row=H∨∃g cur t fz,row=F g∧base<=g∧w.heap[g]?=F (tJ cur t fz)∧t≠5):Qi base w' v bs:=by
 obtain⟨hs,ho⟩:=h;rcases ho with rfl|⟨b,hb,hlt,hc⟩;·obtain⟨a,cap,rfl,hc,h⟩:=hs;refine⟨⟨a,cap,rfl,hc,?_⟩,.inl rfl⟩;rcases h with h|⟨b,o,rfl,h⟩;(·exact .inl h);·exact .inr ⟨b,o,rfl,fun i hi=>by simp at hi⟩
 ·(have hne:F b≠row:=by intro e;rcases hrow with rfl|⟨g,cur,t,fz,rfl,hbg,hgc,ht⟩;(·cases e);·cases e;rcases hc with hc|⟨cur2,fz2,hc⟩;(·omega);·rw[hc]at hgc;simp only[tP,Obj.cells.injEq]at hgc;exact ht hgc.2.1.symm);have hblk:=hg.block b hlt hne;refine⟨?_,.inr ⟨b,hb,tR hlt hg.size,?_⟩⟩;(·obtain⟨a,cap,rfl,hcp,h⟩:=hs;refine⟨a,cap,rfl,hcp,?_⟩;rcases h with h|⟨b',o,rfl,h⟩;(·exact .inl h);·refine .inr ⟨b',o,rfl,fun i hi=>?_⟩;simp[pZ]at hb;subst hb;exact hg.cell (h i hi) (by simpa using hne));·rcases hc with hc|⟨cur,fz,hc⟩;(·exact .inl hc);·exact .inr ⟨cur,fz,by rw[hblk];exact hc⟩
def ZS(k:List UInt8)(i:Nat):Bool:=if i/9<k.length then(if i%9=0then O else(k.getD (i/9) 0).toNat.testBit (8-i%9))else V
theorem KX(k:List UInt8)(p:Nat):ZS k (9*p)=tI (p<k.length):=by
 unfold ZS;rw[show 9*p/9=p by omega,show 9*p%9=0 by omega];by_cases h:p<k.length<;>simp[h]
theorem KY(k:List UInt8)(p r:Nat)(hp:p<k.length)(hr:1<=r)(hr8:r<=8):ZS k (9*p+r)=(k.getD p 0).toNat.testBit (8-r):=by
 unfold ZS;rw[show(9*p+r)/9=p by omega,show(9*p+r)%9=r by omega,if_pos hp,if_neg (by omega)]
theorem Ev(k:List UInt8)(i:Nat)(h:k.length<=i/9):ZS k i=V:=by
 unfold ZS;rw[if_neg (by omega)]
theorem DR(x y:UInt8)(h:∀j,j<8->x.toNat.testBit j=y.toNat.testBit j):x=y:=by
 apply pW.1;apply pQ;intro j;by_cases hj:j<8;·exact h j hj
 ·rw[sU (tR x.toNat_lt (rA (by decide) (by omega:8<=j))),sU (tR y.toNat_lt (rA (by decide) (by omega:8<=j)))]
theorem Hj(a b:List UInt8)(ha:a.length<=16)(hb:b.length<=16)(h:∀i,i<145->ZS a i=ZS b i):a=b:=by
 have hl:a.length=b.length:=by have h1:=h (9*a.length) (by omega);have h2:=h (9*b.length) (by omega);rw[KX,KX]at h1 h2;simp at h1 h2;omega
 apply List.ext_getElem hl;intro p h1 h2;have e:a.getD p 0=b.getD p 0:=by apply DR;intro j hj;have:=h (9*p+(8-j)) (by omega);rw[KY a p _ h1 (by omega) (by omega),KY b p _ h2 (by omega) (by omega),show 8-(8-j)=j by omega]at this;exact this
 simpa[h1,h2]using e
def xB(a b:List UInt8):Nat->Nat->Int|0,_=>-1|n+1,i=>if ZS a i=ZS b i then xB a b n (i+1)else(i:Int)
def JE(a b:List UInt8):Int:=xB a b 145 0
theorem Ri(a b:List UInt8)(n i:Nat):(xB a b n i=-1∧∀j,i<=j->j<i+n->ZS a j=ZS b j)∨∃m:Nat,xB a b n i=(m:Int)∧i<=m∧m<i+n∧(∀j,i<=j->j<m->ZS a j=ZS b j)∧ZS a m≠ZS b m:=by
 induction n generalizing i with|zero=>exact .inl ⟨rfl,fun j _ h=>by omega⟩|succ n ih=>unfold xB;by_cases he:ZS a i=ZS b i;(·rw[if_pos he];rcases ih (i+1)with⟨h1,h2⟩|⟨m,h1,h2,h3,h4,h5⟩;(·refine .inl ⟨h1,fun j hj hj2=>?_⟩;by_cases hji:j=i;(·subst hji;exact he);·exact h2 j (by omega) (by omega));·refine .inr ⟨m,h1,by omega,by omega,fun j hj hj2=>?_,h5⟩;by_cases hji:j=i;(·subst hji;exact he);·exact h4 j (by omega) hj2);·rw[if_neg he];exact .inr ⟨i,rfl,sA _,by omega,fun j h1 h2=>by omega,he⟩
theorem JK(a b:List UInt8):(JE a b=-1∧∀j,j<145->ZS a j=ZS b j)∨∃m:Nat,JE a b=(m:Int)∧m<145∧(∀j,j<m->ZS a j=ZS b j)∧ZS a m≠ZS b m:=by
 rcases Ri a b 145 0with⟨h1,h2⟩|⟨m,h1,_,h3,h4,h5⟩;·exact .inl ⟨h1,fun j hj=>h2 j (by omega) (by omega)⟩
 ·exact .inr ⟨m,h1,by omega,fun j hj=>h4 j (by omega) hj,h5⟩
theorem MV(a b:List UInt8)(m:Nat)(hm:m<145)(h:∀j,j<m->ZS a j=ZS b j)(hd:ZS a m≠ZS b m):JE a b=(m:Int):=by
 rcases JK a b with⟨_,h2⟩|⟨m',h1,h2,h3,h4⟩;·exact absurd (h2 m hm) hd
 ·by_cases hlt:m'<m;(·exact absurd (h m' hlt) h4);·by_cases hgt:m<m';(·exact absurd (h3 m hgt) hd);·rw[h1];omega
theorem Tc(a b:List UInt8)(h:∀j,j<145->ZS a j=ZS b j):JE a b=-1:=by
 rcases JK a b with⟨h1,_⟩|⟨m',_,h2,_,h4⟩;·exact h1
 ·exact absurd (h m' h2) h4
theorem Pw(a b:List UInt8):-1<=JE a b∧JE a b<=144:=by
 rcases JK a b with⟨h,_⟩|⟨m,h,hm,_⟩<;>omega
theorem Bh(a b:List UInt8)(ha:a.length<=16)(hb:b.length<=16):JE a b<0↔a=b:=by
 constructor;·intro h;rcases JK a b with⟨_,h2⟩|⟨m,h1,_⟩;(·exact Hj a b ha hb h2);·omega
 ·rintro rfl;rw[Tc a a fun _ _=>rfl];decide
theorem vV(x y:UInt8)(a b:List UInt8):sH (x::a) (y::b)=(tI (x<y)||(x==y&&sH a b)):=by
 simp[sH]
theorem EH:∀(p:Nat)(a b:List UInt8),(∀i,i<p->i<a.length∧i<b.length∧a.getD i 0=b.getD i 0)->sH a b=sH (a.drop p) (b.drop p)|0,a,b,_=>by simp|p+1,[],b,h=>by have:=(h 0 (by omega)).1;simp at this|p+1,x::a,[],h=>by have:=(h 0 (by omega)).2.1;simp at this|p+1,x::a,y::b,h=>by have h0:=(h 0 (by omega)).2.2;simp at h0;subst h0;rw[vV,pR,pR,<-EH p a b fun i hi=>by have:=h (i+1) (by omega);simp at this;simpa using this];simp
theorem Do(a:List UInt8):sH a []=V:=by
 cases a<;>rfl
theorem Po(a:List UInt8)(p:Nat)(h:p<a.length):a.drop p=a.getD p 0::a.drop (p+1):=by
 rw[sD h];simp[h]
theorem Ed(x y j:Nat)(hx:x.testBit j=V)(hy:y.testBit j=O)(h:∀i,j<i->x.testBit i=y.testBit i):x<y:=by
 have hq:x/2^(j+1)=y/2^(j+1):=by apply pQ;intro i;rw[pH,pH];exact h _ (by omega)
 rw[Nat.testBit_eq_decide_div_mod_eq]at hx hy;simp at hx hy;rw[Nat.pow_succ,<-pM,<-pM]at hq;exact Nat.lt_of_div_lt_div (c:=2^j) (by omega)
theorem Wh(x y:UInt8)(j:Nat)(hd:x.toNat.testBit j≠y.toNat.testBit j)(h:∀i,j<i->x.toNat.testBit i=y.toNat.testBit i):(tI (x<y)||(x==y&&V))=y.toNat.testBit j:=by
 cases hy:y.toNat.testBit j with|true=>(have hx:x.toNat.testBit j=V:=by cases hx:x.toNat.testBit j with|true=>exact absurd (hx.trans hy.symm) hd|false=>rfl);have:=Ed _ _ j hx hy h;simp[sK,this]|false=>(have hx:x.toNat.testBit j=O:=by cases hx:x.toNat.testBit j with|true=>rfl|false=>exact absurd (hx.trans hy.symm) hd);have:=Ed _ _ j hy hx (fun i hi=>(h i hi).symm);simp[sK];omega
theorem FJ(a b:List UInt8)(m:Nat)(h:∀j,j<m->ZS a j=ZS b j)(hd:ZS a m≠ZS b m):ZS b m=sH a b:=by
 have hone:m/9<a.length∨m/9<b.length:=by by_cases h1:m/9<a.length;(·exact .inl h1);·by_cases h2:m/9<b.length;(·exact .inr h2);·rw[Ev a m (by omega),Ev b m (by omega)]at hd;exact absurd rfl hd
 have hpre:∀i,i<m/9->i<a.length∧i<b.length∧a.getD i 0=b.getD i 0:=by intro i hi;have hh:=h (9*i) (by omega);rw[KX,KX]at hh;(have hl:i<a.length∧i<b.length:=by simp at hh;omega);refine⟨hl.1,hl.2,DR _ _ fun j hj=>?_⟩;have:=h (9*i+(8-j)) (by omega);rw[KY a i _ hl.1 (by omega) (by omega),KY b i _ hl.2 (by omega) (by omega),show 8-(8-j)=j by omega]at this;exact this
 rw[EH (m/9) a b hpre];by_cases hr:m%9=0;·(have em:m=9*(m/9):=by omega);have ha:=KX a (m/9);have hb:=KX b (m/9);rw[<-em]at ha hb;by_cases hlb:m/9<b.length;(·have hla:¬m/9<a.length:=fun hla=>hd (by rw[ha,hb];simp[hla,hlb]);rw[hb,tW (by omega),Po b _ hlb];simp[hlb,sH]);·rw[hb,tW (show b.length<=m/9by omega),Do];simp[hlb]
 ·have hh:=h (9*(m/9)) (by omega);rw[KX,KX]at hh;(have hl:m/9<a.length∧m/9<b.length:=by simp at hh;omega);(have em:m=9*(m/9)+m%9:=by omega);have ha:=KY a (m/9) (m%9) hl.1 (by omega) (by omega);have hb:=KY b (m/9) (m%9) hl.2 (by omega) (by omega);rw[<-em]at ha hb;rw[Po a _ hl.1,Po b _ hl.2,vV,hb];rw[ha,hb]at hd;(have hne:(a.getD (m/9) 0==b.getD (m/9) 0)=V:=by rw[beq_eq_false_iff_ne];intro e;rw[e]at hd;exact hd rfl);rw[hne,Bool.false_and];have:=Wh (a.getD (m/9) 0) (b.getD (m/9) 0) (8-m%9) hd (fun i hi=>by by_cases hi8:i<8;(·have:=h (9*(m/9)+(8-i)) (by omega);rw[KY a _ _ hl.1 (by omega) (by omega),KY b _ _ hl.2 (by omega) (by omega),show 8-(8-i)=i by omega]at this;exact this);·rw[sU (tR (a.getD (m/9) 0).toNat_lt (rA (by decide) (by omega:8<=i))),sU (tR (b.getD (m/9) 0).toNat_lt (rA (by decide) (by omega:8<=i)))]);rw[Bool.and_false]at this;exact this.symm
def Qp(n:Nat):Int:=if 1<=n∧n<=16then 0 else 1
def Bg(k:List UInt8)(i:Int):Bool×Int:=if 1<=k.length∧k.length<=16then(if 0<=i∧i<=144then(ZS k i.toNat,0)else(V,2))else(V,1)
def Fw(a b:List UInt8):Int×Int:=if 1<=a.length∧a.length<=16then(if 1<=b.length∧b.length<=16then(JE a b,0)else(0,1))else(0,1)
theorem aF(k:List UInt8)(i:Nat)(hk:1<=k.length∧k.length<=16)(hi:i<145):Bg k (i:Int)=(ZS k i,0):=by
 rw[Bg,if_pos hk,if_pos (by omega)];rfl
theorem IG(a b:List UInt8)(ha:1<=a.length∧a.length<=16)(hb:1<=b.length∧b.length<=16):Fw a b=(JE a b,0):=by
 rw[Fw,if_pos ha,if_pos hb]
structure Zf where
  name : List UInt8
  key : List UInt8
  value : List UInt8
  gone : Bool
def YL(p:Zf):Prop:=p.name.length<=140737488355328∧p.key.length<=140737488355328∧p.value.length<=140737488355328
def Qq:Zf:=⟨[],[],[],V⟩
theorem Qh{W w:I}{b:Nat}{x y z u:N}{t:sW}(hg:J W w H)(h:W.heap[b]?=F (tJ #[x,y,z,u] t)):(w.cell? ⟨b,0,H⟩=F x∧w.cell? ⟨b,1,H⟩=F y∧w.cell? ⟨b,2,H⟩=F z∧w.cell? ⟨b,3,H⟩=F u)∧w.frozen? ⟨b,0,H⟩=V∧w.frozen? ⟨b,1,H⟩=V∧w.frozen? ⟨b,2,H⟩=V∧w.frozen? ⟨b,3,H⟩=V∧w.heap[b]?=F (tJ #[x,y,z,u] t):=by
 have hb:w.heap[b]?=F (tJ #[x,y,z,u] t):=by rw[hg.block b (tL.1 h).1 (by simp)];exact h
 refine⟨⟨?_,?_,?_,?_⟩,?_,?_,?_,?_,hb⟩;all_goals simp[tZ,sV,hb]
theorem Jp{w:I}{b:Nat}{x y z u:N}{t:sW}(h:w.heap[b]?=F (tJ #[x,y,z,u] t))(x' y' z' u':N):((((tG w ⟨b,0,H⟩ x').setCell ⟨b,1,H⟩ y').setCell ⟨b,2,H⟩ z').setCell ⟨b,3,H⟩ u').heap[b]?=F (tJ #[x',y',z',u'] t)∧(tG w ⟨b,0,H⟩ x').cell? ⟨b,0,H⟩=F x'∧((tG w ⟨b,0,H⟩ x').setCell ⟨b,1,H⟩ y').cell? ⟨b,1,H⟩=F y'∧(((tG w ⟨b,0,H⟩ x').setCell ⟨b,1,H⟩ y').setCell ⟨b,2,H⟩ z').cell? ⟨b,2,H⟩=F z'∧((((tG w ⟨b,0,H⟩ x').setCell ⟨b,1,H⟩ y').setCell ⟨b,2,H⟩ z').setCell ⟨b,3,H⟩ u').cell? ⟨b,3,H⟩=F u':=by
 have h0:(tG w ⟨b,0,H⟩ x').heap[b]?=F (tJ #[x',y,z,u] t):=by simp only[tG,tQ,if_true,h,sO];first|rfl|simp
 have h1:((tG w ⟨b,0,H⟩ x').setCell ⟨b,1,H⟩ y').heap[b]?=F (tJ #[x',y',z,u] t):=by rw[tG,tQ,if_pos rfl,h0];first|rfl|simp
 have h2:(((tG w ⟨b,0,H⟩ x').setCell ⟨b,1,H⟩ y').setCell ⟨b,2,H⟩ z').heap[b]?=F (tJ #[x',y',z',u] t):=by rw[tG,tQ,if_pos rfl,h1];first|rfl|simp
 have h3:((((tG w ⟨b,0,H⟩ x').setCell ⟨b,1,H⟩ y').setCell ⟨b,2,H⟩ z').setCell ⟨b,3,H⟩ u').heap[b]?=F (tJ #[x',y',z',u'] t):=by rw[tG,tQ,if_pos rfl,h2];first|rfl|simp
 exact⟨h3,by simp[tZ,h0],by simp[tZ,h1],by simp[tZ,h2],by simp[tZ,h3]⟩
theorem Q8.setBlk{base:Nat}{w:I}{v:N}{bs:List UInt8}(h:Q8 base w v bs){b:Nat}{cur:Array N}{t:sW}{fz:Nat×Nat}(hb:w.heap[b]?=F (tJ cur t fz))(ht:t≠5)(i:Nat)(u:N):Q8 base (tG w ⟨b,i,H⟩ u) v bs:=by
 refine h.grown (row:=F b) (Qf (Qb _ _) i u) ?_;rcases h.2with⟨rfl,_⟩|⟨g,cap,cur2,rfl,_,hg,_⟩;·exact .inl rfl
 ·right;intro e;simp[pZ]at e;subst e;rw[hg]at hb;simp at hb;exact ht hb.2.1.symm
theorem Jk{w w1:I}(h:J w w1 H)(b:Nat)(hb:w.heap.size<=b)(x y z u:N):J w ((((tG w1 ⟨b,0,H⟩ x).setCell ⟨b,1,H⟩ y).setCell ⟨b,2,H⟩ z).setCell ⟨b,3,H⟩ u) H:=Qd (Qd (Qd (Qd h _ hb _ _) _ hb _ _) _ hb _ _) _ hb _ _
abbrev Pr:=List UInt8×List UInt8
abbrev PL:=List Pr
abbrev YF(a b:List UInt8):Bool:=sH a b
theorem Fo(a:List UInt8):YF a []=V:=Do a
theorem uW(x y:UInt8)(a b:List UInt8):YF (x::a) (y::b)=(tI (x<y)||(x==y&&YF a b)):=vV x y a b
theorem XZ:∀a:List UInt8,YF a a=V|[]=>rfl|x::a=>by rw[uW,XZ a];simp
theorem J7:∀a b c:List UInt8,YF a b=O->YF b c=O->YF a c=O|_,[],_,h,_=>by rw[Fo]at h;cases h|_,_::_,[],_,h=>by rw[Fo]at h;cases h|[],_::_,_::_,_,_=>rfl|x::a,y::b,z::c,h1,h2=>by rw[uW]at h1 h2⊢;simp only[oC,decide_eq_true_eq,pX,beq_iff_eq,sK]at h1 h2⊢;rcases h1 with h1|⟨rfl,h1⟩;(·rcases h2 with h2|⟨rfl,h2⟩;(·left;omega);·left;exact h1);·rcases h2 with h2|⟨rfl,h2⟩;(·left;exact h2);·right;exact⟨rfl,J7 a b c h1 h2⟩
theorem Uu:∀a b:List UInt8,YF a b=V->a≠b->YF b a=O|[],[],_,h=>absurd rfl h|[],_::_,h,_=>by cases h|_::_,[],_,_=>rfl|x::a,y::b,h1,h2=>by rw[uW]at h1⊢;simp only[rO,decide_eq_false_iff_not,Bool.and_eq_false_iff,beq_eq_false_iff_ne,sK]at h1;simp only[oC,decide_eq_true_eq,pX,beq_iff_eq,sK];by_cases e:y=x;(·subst e;right;refine⟨rfl,Uu a b ?_ (fun e=>h2 (by rw[e]))⟩;rcases h1.2with h|h;(·exact absurd rfl h);·exact h);·left;have:x.toNat≠y.toNat:=fun h=>e (pW.1 h.symm);omega
theorem S9(a b:List UInt8)(h:YF a b=O):YF b a=V:=by
 cases hb:YF b a with|false=>rfl|true=>have:=J7 a b a h hb;rw[XZ]at this;cases this
theorem cW{a b:List UInt8}(h:YF a b=O):a≠b:=by
 rintro rfl;rw[XZ]at h;cases h
def QU(p:Pr):Int:=if 32<p.2.length then 1 else Qp p.1.length
def XG(l:PL)(i:Nat):Int:=if QU (l.getD i ([],[]))=0then(if 0<i∧YF (l.getD (i-1) ([],[])).1 (l.getD i ([],[])).1=V then 3 else 0)else QU (l.getD i ([],[]))
def J0(l:PL):Nat->Nat->Int|0,_=>0|n+1,i=>if XG l i=0then J0 l n (i+1)else XG l i
def Qy(l:PL):Int:=if 60<l.length then 1 else J0 l l.length 0
theorem qQ(l:PL)(n i:Nat)(hi:i<=n)(h:∀j,j<i->XG l j=0):J0 l n 0=J0 l (n-i) i:=by
 induction i with|zero=>rfl|succ i ih=>rw[ih (by omega) (fun j hj=>h j (by omega)),show n-i=(n-(i+1))+1by omega,J0,if_pos (h i (by omega))]
theorem yU(l:PL)(i:Nat)(hi:i<l.length)(hl:l.length<=60)(h:∀j,j<i->XG l j=0)(hf:XG l i≠0):Qy l=XG l i:=by
 rw[Qy,if_neg (by omega),qQ l _ i (by omega) h,show l.length-i=(l.length-(i+1))+1by omega,J0,if_neg hf]
theorem qP(l:PL)(hl:l.length<=60)(h:∀j,j<l.length->XG l j=0):Qy l=0:=by
 rw[Qy,if_neg (by omega),qQ l _ l.length (sA _) h,oG,J0]
theorem qM(l:PL)(hl:60<l.length):Qy l=1:=by
 rw[Qy,if_pos hl]
theorem zR(l:PL):∀(n i:Nat),J0 l n i=0->∀j,i<=j->j<i+n->XG l j=0|0,i,_,j,h1,h2=>by omega|n+1,i,h,j,h1,h2=>by rw[J0]at h;by_cases e:XG l i=0;(·rw[if_pos e]at h;by_cases hj:j=i;(·subst hj;exact e);·exact zR l n (i+1) h j (by omega) (by omega));·rw[if_neg e]at h;exact absurd h e
def Uh(l:PL):Prop:=l.Pairwise fun p q=>YF p.1 q.1=O
structure Zy(l:PL):Prop where room:l.length<=60pairs:∀p∈l,(1<=p.1.length∧p.1.length<=16)∧p.2.length<=32rises:Uh l
theorem Jw(p:Pr):QU p=0↔(1<=p.1.length∧p.1.length<=16)∧p.2.length<=32:=by
 unfold QU Qp;by_cases h:32<p.2.length;·rw[if_pos h];constructor;(·intro h;cases h);·intro h;omega
 ·rw[if_neg h];by_cases h2:1<=p.1.length∧p.1.length<=16;(·rw[if_pos h2];exact⟨fun _=>⟨h2,by omega⟩,fun _=>rfl⟩);·rw[if_neg h2];constructor;(·intro h;cases h);·intro h;exact absurd h.1 h2
theorem PC(l:PL)(i:Nat):XG l i=0↔QU (l.getD i ([],[]))=0∧(0<i->YF (l.getD (i-1) ([],[])).1 (l.getD i ([],[])).1=O):=by
 unfold XG;by_cases h:QU (l.getD i ([],[]))=0;·rw[if_pos h];by_cases h2:0<i∧YF (l.getD (i-1) ([],[])).1 (l.getD i ([],[])).1=V;(·rw[if_pos h2];constructor;(·intro h;cases h);·intro h3;have:=h3.2 h2.1;rw[h2.2]at this;cases this);·rw[if_neg h2];refine⟨fun _=>⟨h,fun hi=>?_⟩,fun _=>rfl⟩;cases hk:YF (l.getD (i-1) ([],[])).1 (l.getD i ([],[])).1with|true=>rfl|false=>exact absurd ⟨hi,hk⟩ h2
 ·rw[if_neg h];constructor;(·intro h2;exact absurd h2 h);·intro h2;exact absurd h2.1 h
theorem zL:∀l:PL,(∀i,0<i->i<l.length->YF (l.getD (i-1) ([],[])).1 (l.getD i ([],[])).1=O)->Uh l|[],_=>sZ|[_],_=>sQ _ _|p::q::r,h=>by(have ih:Uh (q::r):=zL (q::r) fun i h0 hi=>by have:=h (i+1) (by omega) (by simp at hi⊢;omega);rw[show i+1-1=(i-1)+1by omega]at this;simpa using this);(have h01:YF p.1 q.1=O:=by have:=h 1 (by omega) (by simp);simpa using this);refine tU (fun x hx=>?_) ih;rcases tS.1 hx with rfl|hx;(·exact h01);·exact J7 _ _ _ h01 ((rF.1 ih).1 x hx)
theorem UA(l:PL)(h:Uh l)(i j:Nat)(hij:i<j)(hj:j<l.length):YF (l.getD i ([],[])).1 (l.getD j ([],[])).1=O:=by
 have:=pC.1 h i j (by omega) hj hij;simpa[hj,show i<l.length by omega]using this
theorem YK(l:PL):Qy l=0↔Zy l:=by
 constructor;·intro h;(have hl:l.length<=60:=by by_cases hl:60<l.length;(·rw[qM l hl]at h;cases h);·omega);rw[Qy,if_neg (by omega)]at h;have ha:=fun j(hj:j<l.length)=>(PC l j).1 (zR l l.length 0 h j (by omega) (by omega));refine⟨hl,fun p hp=>?_,zL l fun i h0 hi=>(ha i hi).2 h0⟩;obtain⟨i,hi,rfl⟩:=L.1 hp;have:=(Jw _).1 (ha i hi).1;simpa[hi]using this
 ·intro h;refine qP l h.room fun j hj=>(PC l j).2 ⟨(Jw _).2 ?_,fun h0=>UA l h.rises _ _ (by omega) hj⟩;have:=h.pairs l[j] (sF hj);simpa[hj]using this
theorem IU:Zy []:=⟨by
 simp,by
 simp,sZ⟩
def Rm(l:PL)(k:List UInt8):Option (List UInt8):=(l.find? fun p=>p.1==k).map (·.2)
theorem T4(p:Pr)(l:PL)(k:List UInt8):Rm (p::l) k=if p.1=k then F p.2 else Rm l k:=by
 unfold Rm;by_cases h:p.1=k;·rw[pI (by simpa using h),if_pos h];rfl
 ·rw[pJ (by simpa using h),if_neg h]
theorem Ie:∀(l:PL)(k:List UInt8)(i:Nat),i<l.length->(∀j,j<i->(l.getD j ([],[])).1≠k)->(l.getD i ([],[])).1=k->Rm l k=F (l.getD i ([],[])).2|[],_,_,h,_,_=>by simp at h|p::l,k,0,_,_,h2=>by rw[T4,if_pos (by simpa using h2)];simp|p::l,k,i+1,h,h1,h2=>by rw[T4,if_neg (by simpa using h1 0 (by omega))];have:=Ie l k i (by simpa using h) (fun j hj=>by simpa using h1 (j+1) (by omega)) (by simpa using h2);simpa using this
theorem MW:∀(l:PL)(k:List UInt8),(∀j,j<l.length->(l.getD j ([],[])).1≠k)->Rm l k=H|[],_,_=>rfl|p::l,k,h=>by rw[T4,if_neg (by simpa using h 0 (by simp))];exact MW l k fun j hj=>by simpa using h (j+1) (by simpa using hj)
def J5:PL->Pr->PL|[],p=>[p]|q::r,p=>if YF q.1 p.1=O then q::J5 r p else if q.1=p.1then p::r else p::q::r
def jJ(l:PL)(k:List UInt8):PL:=l.filter fun q=>!(q.1==k)
def UZ(l:PL)(a b:List UInt8):PL:=l.filter fun q=>!YF q.1 a&&!YF b q.1
theorem Ns(l:PL)(p x:Pr):x∈J5 l p->x=p∨x∈l:=by
 induction l with|nil=>intro h;simp[J5]at h;exact .inl h|cons q r ih=>intro h;rw[J5]at h;by_cases h1:YF q.1 p.1=O;(·rw[if_pos h1]at h;rcases tS.1 h with rfl|h;(·exact .inr (by simp));·rcases ih h with h|h;(·exact .inl h);·exact .inr (tY _ h));·rw[if_neg h1]at h;by_cases h2:q.1=p.1;(·rw[if_pos h2]at h;rcases tS.1 h with h|h;(·exact .inl h);·exact .inr (tY _ h));·rw[if_neg h2]at h;rcases tS.1 h with h|h;(·exact .inl h);·exact .inr h
theorem vK(l:PL)(p:Pr)(h:Uh l):Uh (J5 l p):=by
 induction l with|nil=>exact sQ _ _|cons q r ih=>have hr:=rF.1 h;rw[J5];by_cases h1:YF q.1 p.1=O;(·rw[if_pos h1];refine tU (fun x hx=>?_) (ih hr.2);rcases Ns r p x hx with rfl|hx;(·exact h1);·exact hr.1 x hx);·rw[if_neg h1];by_cases h2:q.1=p.1;(·rw[if_pos h2];exact tU (fun x hx=>by rw[<-h2];exact hr.1 x hx) hr.2);·rw[if_neg h2];have hpq:=Uu _ _ (by simpa using h1) h2;refine tU (fun x hx=>?_) h;rcases tS.1 hx with rfl|hx;(·exact hpq);·exact J7 _ _ _ hpq (hr.1 x hx)
theorem EA(l:PL)(k:List UInt8)(h:Uh l):Uh (jJ l k):=sR _ h
theorem D8(l:PL)(a b:List UInt8)(h:Uh l):Uh (UZ l a b):=sR _ h
def Xa(l:PL)(k:List UInt8):Int:=if Qy l=0then Qp k.length else Qy l
theorem yE{l:PL}{k:List UInt8}(h:Xa l k=0):Zy l:=by
 unfold Xa at h;by_cases h0:Qy l=0;·exact(YK l).1 h0
 ·rw[if_neg h0]at h;exact absurd h h0
theorem Zt(n:Nat):Qp n=0↔1<=n∧n<=16:=by
 unfold Qp;by_cases h:1<=n∧n<=16;·rw[if_pos h];exact⟨fun _=>h,fun _=>rfl⟩
 ·rw[if_neg h];constructor;(·intro h2;cases h2);·intro h2;exact absurd h2 h
theorem Im{l:PL}{k:List UInt8}(h:Xa l k=0):1<=k.length∧k.length<=16:=by
 have ht:=(YK l).2 (yE h);unfold Xa at h;rw[if_pos ht]at h;exact(Zt _).1 h
theorem vA{l:PL}{k:List UInt8}(h:Zy l)(hk:1<=k.length∧k.length<=16):Xa l k=0:=by
 unfold Xa;rw[if_pos ((YK l).2 h)];exact(Zt _).2 hk
def Rl(l:PL)(k:List UInt8):Bool:=Xa l k==0&&(Rm l k).isSome
def Rn(l:PL)(k:List UInt8):List UInt8:=if Xa l k=0then(Rm l k).getD []else[]
def qY(l:PL)(k:List UInt8):PL:=if Xa l k=0then jJ l k else[]
theorem AT(l:PL)(k:List UInt8):(jJ l k).length<=l.length:=sX _ _
def Yx(l:PL)(f t:List UInt8):Int:=if Xa l f=0then Qp t.length else Xa l f
theorem CD{l:PL}{f t:List UInt8}(h:Yx l f t=0):Xa l f=0:=by
 unfold Yx at h;by_cases h0:Xa l f=0;·exact h0
 ·rw[if_neg h0]at h;exact absurd h h0
def KA(l:PL)(f t:List UInt8):PL:=if Yx l f t=0then UZ l f t else[]
theorem L0(l:PL)(f t:List UInt8):(UZ l f t).length<=l.length:=sX _ _
def VI(l:PL)(p:Pr):Int:=if Qy l=0then QU p else Qy l
def Ka(l:PL)(p:Pr):Int:=if VI l p=0then(if 60<(J5 l p).length then 11 else 0)else VI l p
def Va(l:PL)(p:Pr):PL:=if Ka l p=0then J5 l p else[]
theorem aO(l:PL)(p:Pr):(J5 l p).length<=l.length+1:=by
 induction l with|nil=>simp[J5]|cons q r ih=>rw[J5];by_cases h1:YF q.1 p.1=O;(·rw[if_pos h1];simp;omega);·rw[if_neg h1];by_cases h2:q.1=p.1;(·rw[if_pos h2];simp);·rw[if_neg h2];simp
structure kD (l : PL) : Prop where
  many : l.length * 48 <= 140737488355328
  each : ∀ i, i < l.length -> (l.getD i ([], [])).1.length <= 140737488355328 ∧ (l.getD i ([], [])).2.length <= 140737488355328
theorem kD.len{l:PL}(h:kD l):l.length<=140737488355328:=by
 have:=h.many;omega
theorem Zy.fits{l:PL}(h:Zy l):kD l:=by
 refine⟨by have:=h.room;omega,fun i hi=>?_⟩;have:=h.pairs l[i] (sF hi);rw[show l[i]=l.getD i ([],[])by simp[hi]]at this;omega
abbrev Tn:=List UInt8×PL
abbrev FL:=List Tn
def Yy(l:FL):Prop:=l.Pairwise fun p q=>YF p.1 q.1=O
def zM(l:FL)(k:List UInt8):Option PL:=(l.find? fun p=>p.1==k).map (·.2)
theorem jL(p:Tn)(l:FL)(k:List UInt8):zM (p::l) k=if p.1=k then F p.2 else zM l k:=by
 unfold zM;by_cases h:p.1=k;·rw[pI (by simpa using h),if_pos h];rfl
 ·rw[pJ (by simpa using h),if_neg h]
theorem DX:∀(l:FL)(k:List UInt8)(i:Nat),i<l.length->(∀j,j<i->(l.getD j ([],[])).1≠k)->(l.getD i ([],[])).1=k->zM l k=F (l.getD i ([],[])).2|[],_,_,h,_,_=>by simp at h|p::l,k,0,_,_,h2=>by rw[jL,if_pos (by simpa using h2)];simp|p::l,k,i+1,h,h1,h2=>by rw[jL,if_neg (by simpa using h1 0 (by omega))];have:=DX l k i (by simpa using h) (fun j hj=>by simpa using h1 (j+1) (by omega)) (by simpa using h2);simpa using this
theorem To:∀(l:FL)(k:List UInt8),(∀j,j<l.length->(l.getD j ([],[])).1≠k)->zM l k=H|[],_,_=>rfl|p::l,k,h=>by rw[jL,if_neg (by simpa using h 0 (by simp))];exact To l k fun j hj=>by simpa using h (j+1) (by simpa using hj)
def Jl:FL->Tn->FL|[],p=>[p]|q::r,p=>if YF q.1 p.1=O then q::Jl r p else if q.1=p.1then p::r else p::q::r
def jS(l:FL)(k:List UInt8):FL:=l.filter fun q=>!(q.1==k)
theorem R7(l:FL)(p x:Tn):x∈Jl l p->x=p∨x∈l:=by
 induction l with|nil=>intro h;simp[Jl]at h;exact .inl h|cons q r ih=>intro h;rw[Jl]at h;by_cases h1:YF q.1 p.1=O;(·rw[if_pos h1]at h;rcases tS.1 h with rfl|h;(·exact .inr (by simp));·rcases ih h with h|h;(·exact .inl h);·exact .inr (tY _ h));·rw[if_neg h1]at h;by_cases h2:q.1=p.1;(·rw[if_pos h2]at h;rcases tS.1 h with h|h;(·exact .inl h);·exact .inr (tY _ h));·rw[if_neg h2]at h;rcases tS.1 h with h|h;(·exact .inl h);·exact .inr h
theorem Mq(l:FL)(p:Tn)(h:Yy l):Yy (Jl l p):=by
 induction l with|nil=>exact sQ _ _|cons q r ih=>have hr:=rF.1 h;rw[Jl];by_cases h1:YF q.1 p.1=O;(·rw[if_pos h1];refine tU (fun x hx=>?_) (ih hr.2);rcases R7 r p x hx with rfl|hx;(·exact h1);·exact hr.1 x hx);·rw[if_neg h1];by_cases h2:q.1=p.1;(·rw[if_pos h2];exact tU (fun x hx=>by rw[<-h2];exact hr.1 x hx) hr.2);·rw[if_neg h2];have hpq:=Uu _ _ (by simpa using h1) h2;refine tU (fun x hx=>?_) h;rcases tS.1 hx with rfl|hx;(·exact hpq);·exact J7 _ _ _ hpq (hr.1 x hx)
theorem DY(l:FL)(k:List UInt8)(h:Yy l):Yy (jS l k):=sR _ h
theorem LS(l:FL)(p:Tn):(Jl l p).length<=l.length+1:=by
 induction l with|nil=>simp[Jl]|cons q r ih=>rw[Jl];by_cases h1:YF q.1 p.1=O;(·rw[if_pos h1];simp;omega);·rw[if_neg h1];by_cases h2:q.1=p.1;(·rw[if_pos h2];simp);·rw[if_neg h2];simp
theorem EJ(l:FL)(k:List UInt8):(jS l k).length<=l.length:=sX _ _
def Qt(n:Nat):Int:=if 1<=n∧n<=8then 0 else 1
theorem Zw(n:Nat):Qt n=0↔1<=n∧n<=8:=by
 unfold Qt;by_cases h:1<=n∧n<=8;·rw[if_pos h];exact⟨fun _=>h,fun _=>rfl⟩
 ·rw[if_neg h];constructor;(·intro h2;cases h2);·intro h2;exact absurd h2 h
def Xy(t:Tn):Int:=if Qt t.1.length=0then(if t.2.length=0then 4 else Qy t.2)else Qt t.1.length
theorem uZ(t:Tn):Xy t=0↔(1<=t.1.length∧t.1.length<=8)∧t.2≠[]∧Zy t.2:=by
 unfold Xy;by_cases h:Qt t.1.length=0;·rw[if_pos h];by_cases h2:t.2.length=0;(·rw[if_pos h2];constructor;(·intro h3;cases h3);·intro h3;exact absurd (tD h2) h3.2.1);·rw[if_neg h2,YK];exact⟨fun h3=>⟨(Zw _).1 h,fun e=>h2 (by rw[e];rfl),h3⟩,fun h3=>h3.2.2⟩
 ·rw[if_neg h];constructor;(·intro h2;exact absurd h2 h);·intro h2;exact absurd ((Zw _).2 h2.1) h
def Kd(l:FL)(i:Nat):Int:=if Xy (l.getD i ([],[]))=0then(if 0<i∧YF (l.getD (i-1) ([],[])).1 (l.getD i ([],[])).1=V then 3 else 0)else Xy (l.getD i ([],[]))
def Vk(l:FL):Nat->Nat->Int|0,_=>0|n+1,i=>if Kd l i=0then Vk l n (i+1)else Kd l i
def Q7(l:FL):Int:=if 8<l.length then 1 else Vk l l.length 0
theorem yP(l:FL)(n i:Nat)(hi:i<=n)(h:∀j,j<i->Kd l j=0):Vk l n 0=Vk l (n-i) i:=by
 induction i with|zero=>rfl|succ i ih=>rw[ih (by omega) (fun j hj=>h j (by omega)),show n-i=(n-(i+1))+1by omega,Vk,if_pos (h i (by omega))]
theorem T6(l:FL)(i:Nat)(hi:i<l.length)(hl:l.length<=8)(h:∀j,j<i->Kd l j=0)(hf:Kd l i≠0):Q7 l=Kd l i:=by
 rw[Q7,if_neg (by omega),yP l _ i (by omega) h,show l.length-i=(l.length-(i+1))+1by omega,Vk,if_neg hf]
theorem kQ(l:FL)(hl:l.length<=8)(h:∀j,j<l.length->Kd l j=0):Q7 l=0:=by
 rw[Q7,if_neg (by omega),yP l _ l.length (sA _) h,oG,Vk]
theorem uU(l:FL)(hl:8<l.length):Q7 l=1:=by
 rw[Q7,if_pos hl]
theorem uQ(l:FL):∀(n i:Nat),Vk l n i=0->∀j,i<=j->j<i+n->Kd l j=0|0,i,_,j,h1,h2=>by omega|n+1,i,h,j,h1,h2=>by rw[Vk]at h;by_cases e:Kd l i=0;(·rw[if_pos e]at h;by_cases hj:j=i;(·subst hj;exact e);·exact uQ l n (i+1) h j (by omega) (by omega));·rw[if_neg e]at h;exact absurd h e
theorem RQ(l:FL)(i:Nat):Kd l i=0↔Xy (l.getD i ([],[]))=0∧(0<i->YF (l.getD (i-1) ([],[])).1 (l.getD i ([],[])).1=O):=by
 unfold Kd;by_cases h:Xy (l.getD i ([],[]))=0;·rw[if_pos h];by_cases h2:0<i∧YF (l.getD (i-1) ([],[])).1 (l.getD i ([],[])).1=V;(·rw[if_pos h2];constructor;(·intro h;cases h);·intro h3;have:=h3.2 h2.1;rw[h2.2]at this;cases this);·rw[if_neg h2];refine⟨fun _=>⟨h,fun hi=>?_⟩,fun _=>rfl⟩;cases hk:YF (l.getD (i-1) ([],[])).1 (l.getD i ([],[])).1with|true=>rfl|false=>exact absurd ⟨hi,hk⟩ h2
 ·rw[if_neg h];constructor;(·intro h2;exact absurd h2 h);·intro h2;exact absurd h2.1 h
theorem GG:∀l:FL,(∀i,0<i->i<l.length->YF (l.getD (i-1) ([],[])).1 (l.getD i ([],[])).1=O)->Yy l|[],_=>sZ|[_],_=>sQ _ _|p::q::r,h=>by(have ih:Yy (q::r):=GG (q::r) fun i h0 hi=>by have:=h (i+1) (by omega) (by simp at hi⊢;omega);rw[show i+1-1=(i-1)+1by omega]at this;simpa using this);(have h01:YF p.1 q.1=O:=by have:=h 1 (by omega) (by simp);simpa using this);refine tU (fun x hx=>?_) ih;rcases tS.1 hx with rfl|hx;(·exact h01);·exact J7 _ _ _ h01 ((rF.1 ih).1 x hx)
theorem G7(l:FL)(h:Yy l)(i j:Nat)(hij:i<j)(hj:j<l.length):YF (l.getD i ([],[])).1 (l.getD j ([],[])).1=O:=by
 have:=pC.1 h i j (by omega) hj hij;simpa[hj,show i<l.length by omega]using this
structure Xn(l:FL):Prop where room:l.length<=8tens:∀t∈l,(1<=t.1.length∧t.1.length<=8)∧t.2≠[]∧Zy t.2rises:Yy l
theorem XY(l:FL):Q7 l=0↔Xn l:=by
 constructor;·intro h;(have hl:l.length<=8:=by by_cases hl:8<l.length;(·rw[uU l hl]at h;cases h);·omega);rw[Q7,if_neg (by omega)]at h;have ha:=fun j(hj:j<l.length)=>(RQ l j).1 (uQ l l.length 0 h j (by omega) (by omega));refine⟨hl,fun p hp=>?_,GG l fun i h0 hi=>(ha i hi).2 h0⟩;obtain⟨i,hi,rfl⟩:=L.1 hp;have:=(uZ _).1 (ha i hi).1;simpa[hi]using this
 ·intro h;refine kQ l h.room fun j hj=>(RQ l j).2 ⟨(uZ _).2 ?_,fun h0=>G7 l h.rises _ _ (by omega) hj⟩;have:=h.tens l[j] (sF hj);simpa[hj]using this
theorem GU:Xn []:=⟨by
 simp,by
 simp,sZ⟩
def Jb(l:FL)(n:List UInt8):PL:=(zM l n).getD []
theorem cZ(n:List UInt8):Jb [] n=[]:=rfl
theorem K5{l:FL}(h:Xn l)(n:List UInt8):Zy (Jb l n):=by
 unfold Jb zM;cases hf:l.find? (fun p=>p.1==n)with|none=>exact IU|some t=>exact(h.tens t (List.mem_of_find?_eq_some hf)).2.2
def QA(w:Zf):Int:=if Qt w.name.length=0then(if w.gone=O then(if Qp w.key.length=0then(if 0<w.value.length then 4 else 0)else Qp w.key.length)else QU (w.key,w.value))else Qt w.name.length
def Yt(l:FL)(w:Zf):PL:=if w.gone=O then jJ (Jb l w.name) w.key else J5 (Jb l w.name) (w.key,w.value)
def GK(l:FL)(w:Zf):Int:=if w.gone=O then Xa (Jb l w.name) w.key else Ka (Jb l w.name) (w.key,w.value)
def Zq(l:FL)(w:Zf):FL:=if(Yt l w).length=0then jS l w.name else Jl l (w.name,Yt l w)
def Yw(l:FL)(w:Zf):Int:=if GK l w=0then(if 8<(Zq l w).length then 11 else 0)else GK l w
def Xc:FL->List Zf->Int|_,[]=>0|l,w::ws=>if QA w=0then(if Yw l w=0then Xc (Zq l w) ws else Yw l w)else QA w
def Jm:FL->List Zf->FL|l,[]=>l|l,w::ws=>Jm (Zq l w) ws
def QZ(l:FL)(ws:List Zf):Int:=if Q7 l=0then(if 10<ws.length then 1 else Xc l ws)else Q7 l
def Xs(l:FL)(ws:List Zf):FL:=if QZ l ws=0then Jm l ws else[]
theorem XH(w:Zf):QA w=0↔(1<=w.name.length∧w.name.length<=8)∧(1<=w.key.length∧w.key.length<=16)∧(if w.gone=O then w.value=[]else w.value.length<=32):=by
 unfold QA;by_cases hn:Qt w.name.length=0;·rw[if_pos hn];have hn':=(Zw _).1 hn;by_cases hg:w.gone=O;(·rw[if_pos hg,if_pos hg];by_cases hk:Qp w.key.length=0;(·rw[if_pos hk];have hk':=(Zt _).1 hk;by_cases hv:0<w.value.length;(·rw[if_pos hv];constructor;(·intro h;cases h);·intro h;rw[h.2.2]at hv;simp at hv);·rw[if_neg hv];exact⟨fun _=>⟨hn',hk',tD (by omega)⟩,fun _=>rfl⟩);·rw[if_neg hk];constructor;(·intro h;exact absurd h hk);·intro h;exact absurd ((Zt _).2 h.2.1) hk);·rw[if_neg hg,if_neg hg,Jw];exact⟨fun h=>⟨hn',h.1,h.2⟩,fun h=>⟨h.2.1,h.2.2⟩⟩
 ·rw[if_neg hn];constructor;(·intro h;exact absurd h hn);·intro h;exact absurd ((Zw _).2 h.1) hn
theorem Wi{l:FL}(h:Xn l){w:Zf}(hw:QA w=0)(he:GK l w=0):Zy (Yt l w):=by
 obtain⟨_,hk,hv⟩:=(XH w).1 hw;have hT:=K5 h w.name;unfold Yt;unfold GK at he;by_cases hg:w.gone=O;·rw[if_pos hg];exact⟨rC (AT _ _) hT.room,fun p hp=>hT.pairs p (rY.1 hp).1,EA _ _ hT.rises⟩
 ·rw[if_neg hg]at he hv⊢;(have h60:¬60<(J5 (Jb l w.name) (w.key,w.value)).length:=by intro h60;unfold Ka at he;by_cases h0:VI (Jb l w.name) (w.key,w.value)=0;(·rw[if_pos h0,if_pos h60]at he;cases he);·rw[if_neg h0]at he;exact h0 he);refine⟨by omega,fun q hq=>?_,vK _ _ hT.rises⟩;rcases Ns _ _ q hq with rfl|hq;(·exact⟨hk,hv⟩);·exact hT.pairs q hq
theorem Rj{l:FL}(h:Yy l)(w:Zf):Yy (Zq l w):=by
 unfold Zq;by_cases hn:(Yt l w).length=0;·rw[if_pos hn];exact DY _ _ h
 ·rw[if_neg hn];exact Mq _ _ h
theorem xO{l:FL}(h:Xn l){w:Zf}(hw:QA w=0)(he:Yw l w=0):Xn (Zq l w):=by
 have hE:GK l w=0:=by by_cases h0:GK l w=0;(·exact h0);·unfold Yw at he;rw[if_neg h0]at he;exact absurd he h0
 have hl:(Zq l w).length<=8:=by unfold Yw at he;rw[if_pos hE]at he;by_cases h8:8<(Zq l w).length;(·rw[if_pos h8]at he;cases he);·omega
 obtain⟨hn,_,_⟩:=(XH w).1 hw;refine⟨hl,fun t ht=>?_,Rj h.rises w⟩;unfold Zq at ht;by_cases h0:(Yt l w).length=0;·rw[if_pos h0]at ht;exact h.tens t (rY.1 ht).1
 ·rw[if_neg h0]at ht;rcases R7 _ _ t ht with rfl|ht;(·exact⟨hn,fun e=>h0 (by rw[show Yt l w=[]from e];rfl),Wi h hw hE⟩);·exact h.tens t ht
structure Rd where
  name : List UInt8
  key : List UInt8
  wide : Bool
  last : List UInt8
def Ze:Rd:=⟨[],[],V,[]⟩
def XA(r:Rd):Int:=if Qt r.name.length=0then(if Qp r.key.length=0then(if r.wide=O then Qp r.last.length else(if 0<r.last.length then 4 else 0))else Qp r.key.length)else Qt r.name.length
theorem RK(r:Rd):XA r=0↔(1<=r.name.length∧r.name.length<=8)∧(1<=r.key.length∧r.key.length<=16)∧(if r.wide=O then 1<=r.last.length∧r.last.length<=16 else r.last=[]):=by
 unfold XA;by_cases hn:Qt r.name.length=0;·rw[if_pos hn];have hn':=(Zw _).1 hn;by_cases hk:Qp r.key.length=0;(·rw[if_pos hk];have hk':=(Zt _).1 hk;by_cases hw:r.wide=O;(·rw[if_pos hw,if_pos hw,Zt];exact⟨fun h=>⟨hn',hk',h⟩,fun h=>h.2.2⟩);·rw[if_neg hw,if_neg hw];by_cases hl:0<r.last.length;(·rw[if_pos hl];exact⟨fun h=>by omega,fun h=>by rw[h.2.2]at hl;simp at hl⟩);·rw[if_neg hl];exact⟨fun _=>⟨hn',hk',tD (by omega)⟩,fun _=>rfl⟩);·rw[if_neg hk];exact⟨fun h=>absurd h hk,fun h=>absurd ((Zt _).2 h.2.1) hk⟩
 ·rw[if_neg hn];exact⟨fun h=>absurd h hn,fun h=>absurd ((Zw _).2 h.1) hn⟩
def Z9(w:I)(v:N)(p:Zf):Prop:=∃vn vk vv,v=pN #[vn,vk,pO p.gone,vv]∧Qe w vn p.name∧Qe w vk p.key∧Qe w vv p.value
theorem Z9.grown{w w':I}{v:N}{p:Zf}(h:Z9 w v p)(hg:J w w' H):Z9 w' v p:=by
 obtain⟨vn,vk,vv,rfl,h1,h2,h3⟩:=h;exact⟨vn,vk,vv,rfl,h1.grown hg,h2.grown hg,h3.grown hg⟩
theorem Z9.aggW{w:I}{v:N}{p:Zf}(h:Z9 w v p):∃na nc ka kc va vc,v=pN #[tH na p.name.length nc,tH ka p.key.length kc,pO p.gone,tH va p.value.length vc]:=by
 obtain⟨vn,vk,vv,rfl,h1,h2,h3⟩:=h;obtain⟨na,nc,rfl⟩:=h1.shape;obtain⟨ka,kc,rfl⟩:=h2.shape;obtain⟨va,vc,rfl⟩:=h3.shape;exact⟨na,nc,ka,kc,va,vc,rfl⟩
def uF(w:I)(b o:Nat)(p:Zf):Prop:=∃vn vk vv,w.cell? ⟨b,o,H⟩=F vn∧w.cell? ⟨b,o+1,H⟩=F vk∧w.cell? ⟨b,o+2,H⟩=F (pO p.gone)∧w.cell? ⟨b,o+3,H⟩=F vv∧Qe w vn p.name∧Qe w vk p.key∧Qe w vv p.value
theorem uF.grown{w w':I}{b o:Nat}{p:Zf}(h:uF w b o p)(hg:J w w' H):uF w' b o p:=by
 obtain⟨vn,vk,vv,c1,c2,c3,c4,h1,h2,h3⟩:=h;exact⟨vn,vk,vv,hg.cell c1 (by simp),hg.cell c2 (by simp),hg.cell c3 (by simp),hg.cell c4 (by simp),h1.grown hg,h2.grown hg,h3.grown hg⟩
def QQ(w:I)(v:N)(l:List Zf):Prop:=∃a cap,v=tH a l.length cap∧l.length<=cap∧((l=[]∧(a=H->cap=0))∨∃b o,a=F ⟨b,o,H⟩∧∀i,i<l.length->uF w b (o+i*4) (l.getD i Qq))
theorem QQ.shape{w:I}{v:N}{l:List Zf}(h:QQ w v l):∃a cap,v=tH a l.length cap:=by
 obtain⟨a,cap,rfl,_⟩:=h;exact⟨a,cap,rfl⟩
theorem QQ.grown{w w':I}{v:N}{l:List Zf}(h:QQ w v l)(hg:J w w' H):QQ w' v l:=by
 obtain⟨a,cap,rfl,hc,h⟩:=h;refine⟨a,cap,rfl,hc,?_⟩;rcases h with h|⟨b,o,rfl,h⟩;·exact .inl h
 ·exact .inr ⟨b,o,rfl,fun i hi=>(h i hi).grown hg⟩
theorem QQ.at{w:I}{a:Option pD}{n cap:Nat}{l:List Zf}(h:QQ w (tH a n cap) l)(i:Nat)(hi:i<l.length):∃b o,a=F ⟨b,o,H⟩∧uF w b (o+i*4) (l.getD i Qq):=by
 obtain⟨a',cap',e,hc,h⟩:=h;simp only[rB]at e;obtain⟨rfl,rfl,rfl⟩:=e;rcases h with⟨rfl,_⟩|⟨b,o,rfl,h⟩;·simp at hi
 ·exact⟨b,o,rfl,h i hi⟩
structure kH (l : List Zf) : Prop where
  many : l.length * 80 <= 140737488355328
  each : ∀ i, i < l.length -> YL (l.getD i Qq)
theorem kH.len{l:List Zf}(h:kH l):l.length<=140737488355328:=by
 have:=h.many;omega
structure Xz where
  turn : Int
  writes : List Zf
def Zl:Xz:=⟨0,[]⟩
def CA:Nat->List Zf->Int|_,[]=>0|i,w::ws=>if(if 10<=i then(1:Int)else QA w)=0then CA (i+1) ws else(if 10<=i then(1:Int)else QA w)
def Q9(c:Xz):Int:=if 1<=c.turn∧c.turn<=1048576then(if c.writes.length=0then 1 else CA 0 c.writes)else 2
theorem Sj:∀(ws:List Zf)(i:Nat),CA i ws=0↔(ws=[]∨i+ws.length<=10)∧∀w∈ws,QA w=0|[],i=>by simp[CA]|w::ws,i=>by have ih:=Sj ws (i+1);rw[CA];by_cases h10:10<=i;(·rw[if_pos h10,if_neg (by omega)];constructor;(·intro h;omega);·rintro⟨h|h,_⟩;(·cases h);·simp at h;omega);·rw[if_neg h10];by_cases hw:QA w=0;(·rw[if_pos hw,ih];constructor;(·rintro⟨h1,h2⟩;refine⟨.inr ?_,?_⟩;(·rcases h1 with rfl|h1;(·simp;omega);·simp;omega);·intro x hx;rcases tS.1 hx with rfl|hx;(·exact hw);·exact h2 x hx);·rintro⟨h1,h2⟩;refine⟨.inr ?_,fun x hx=>h2 x (tY _ hx)⟩;rcases h1 with h1|h1;(·cases h1);·simp at h1;omega);·rw[if_neg hw];constructor;(·intro h;exact absurd h hw);·rintro⟨_,h2⟩;exact absurd (h2 w (rT ..)) hw
theorem KH(c:Xz):Q9 c=0↔(1<=c.turn∧c.turn<=1048576)∧(1<=c.writes.length∧c.writes.length<=10)∧∀w∈c.writes,QA w=0:=by
 unfold Q9;by_cases h1:1<=c.turn∧c.turn<=1048576;·rw[if_pos h1];by_cases h2:c.writes.length=0;(·rw[if_pos h2];constructor;(·intro h;omega);·rintro⟨_,h,_⟩;omega);·rw[if_neg h2,Sj];constructor;(·rintro⟨h3|h3,h4⟩;(·rw[h3]at h2;simp at h2);·exact⟨h1,⟨by omega,by omega⟩,h4⟩);·rintro⟨_,h3,h4⟩;exact⟨.inr (by omega),h4⟩
 ·rw[if_neg h1];constructor;(·intro h;omega);·rintro⟨h,_⟩;exact absurd h h1
theorem Oz(ws:List Zf)(i:Nat)(h:i<ws.length):CA i (ws.drop i)=if(if 10<=i then(1:Int)else QA (ws.getD i Qq))=0then CA (i+1) (ws.drop (i+1))else(if 10<=i then(1:Int)else QA (ws.getD i Qq)):=by
 rw[sD h,CA,show ws[i]=ws.getD i Qq by simp[h]]
theorem aI(ws:List Zf):CA ws.length (ws.drop ws.length)=0:=by
 rw[List.drop_length,CA]
def XI(p:List UInt8):List UInt8:=tC p.length::p
theorem GS(p:List UInt8):(XI p).length=p.length+1:=rfl
def Gf(w:Zf):List UInt8:=if w.gone=O then[255]else XI w.value
def Ya(w:Zf):List UInt8:=XI w.name++XI w.key++Gf w
def UQ(t n:Nat):List UInt8:=[tC (t/65536),tC (t/256%256),tC (t%256),tC n]
def Zi(c:Xz):List UInt8:=UQ c.turn.toNat c.writes.length++c.writes.flatMap Ya
def Zs:List UInt8->Option (List UInt8×List UInt8)|[]=>H|x::r=>if x.toNat<=r.length then F (r.take x.toNat,r.drop x.toNat)else H
def kV(n k r:List UInt8):Option (Zf×List UInt8):=if r.head?=F 255then F (⟨n,k,[],O⟩,r.tail)else match Zs r with|F (v,r2)=>F (⟨n,k,v,V⟩,r2)|none=>H
def N0(n r:List UInt8):Option (Zf×List UInt8):=match Zs r with|F (k,r2)=>kV n k r2|none=>H
def Y0(r:List UInt8):Option (Zf×List UInt8):=match Zs r with|F (n,r2)=>N0 n r2|none=>H
def ZU:Nat->List UInt8->Option (List Zf×List UInt8)|0,r=>F ([],r)|n+1,r=>match Y0 r with|F (w,r1)=>(match ZU n r1 with|F (ws,r2)=>F (w::ws,r2)|none=>H)|none=>H
theorem MY{p:List UInt8}(h:p.length<256):(tC p.length).toNat=p.length:=by
 simp;omega
theorem Vb(p r:List UInt8)(h:p.length<256):Zs (XI p++r)=F (p,r):=by
 show Zs (tC p.length::(p++r))=_;rw[Zs,MY h,if_pos (by simp),rM,rN]<;>rfl
theorem V6{r p r2:List UInt8}(h:Zs r=F (p,r2)):r=XI p++r2:=by
 cases r with|nil=>cases h|cons x r=>rw[Zs]at h;by_cases hx:x.toNat<=r.length;(·rw[if_pos hx]at h;simp only[tP,sC]at h;obtain⟨rfl,rfl⟩:=h;(have hl:(r.take x.toNat).length=x.toNat:=by simp;omega);show x::r=tC (r.take x.toNat).length::(r.take x.toNat++r.drop x.toNat);rw[hl,tE];simp);·rw[if_neg hx]at h;cases h
theorem C6{r p r2:List UInt8}(h:Zs r=F (p,r2))(x:List UInt8):Zs (r++x)=F (p,r2++x):=by
 cases r with|nil=>cases h|cons y r=>rw[Zs]at h;by_cases hy:y.toNat<=r.length;(·rw[if_pos hy]at h;simp only[tP,sC]at h;obtain⟨rfl,rfl⟩:=h;show Zs (y::(r++x))=_;rw[Zs,if_pos (by simp;omega),r7 hy,r8 hy]);·rw[if_neg hy]at h;cases h
theorem Bl{w:Zf}(hw:QA w=0)(r:List UInt8):Y0 (Ya w++r)=F (w,r):=by
 obtain⟨h1,h2,h3⟩:=(XH w).1 hw;unfold Y0 Ya;rw[tB,tB,Vb _ _ (by omega)];show N0 w.name (XI w.key++(Gf w++r))=_;unfold N0;rw[Vb _ _ (by omega)];show kV w.name w.key (Gf w++r)=_;unfold kV Gf;by_cases hg:w.gone=O;·rw[if_pos hg]at h3⊢;rw[if_pos (by rfl)];obtain⟨n,k,v,g⟩:=w;simp only at hg h3;subst hg h3;rfl
 ·rw[if_neg hg]at h3⊢;rw[if_neg,Vb _ _ (by omega)];(·obtain⟨n,k,v,g⟩:=w;simp only[Bool.not_eq_true]at hg;subst hg;rfl);·show¬(F (tC w.value.length)=F 255);intro e;have:=congrArg UInt8.toNat (pK e);rw[MY (by omega)]at this;have h255:(255:UInt8).toNat=255:=rfl;omega
theorem PZ:∀(ws:List Zf)(_:∀w∈ws,QA w=0)(r:List UInt8),ZU ws.length (ws.flatMap Ya++r)=F (ws,r)|[],_,r=>rfl|w::ws,h,r=>by show ZU (ws.length+1) ((w::ws).flatMap Ya++r)=_;rw[ZU,rH,tB,Bl (h w (rT ..))];show(match ZU ws.length (ws.flatMap Ya++r)with|F (ws',r2)=>F (w::ws',r2)|none=>H)=_;rw[PZ ws (fun x hx=>h x (tY _ hx)) r]
theorem MH{r r2:List UInt8}{w:Zf}(h:Y0 r=F (w,r2)):r=Ya w++r2:=by
 unfold Y0 at h;cases h1:Zs r with|none=>rw[h1]at h;cases h|some q=>obtain⟨n,ra⟩:=q;rw[h1]at h;have h:N0 n ra=F (w,r2):=h;unfold N0 at h;cases h2:Zs ra with|none=>rw[h2]at h;cases h|some q=>obtain⟨k,rb⟩:=q;rw[h2]at h;have h:kV n k rb=F (w,r2):=h;rw[V6 h1,V6 h2];unfold kV at h;by_cases hg:rb.head?=F 255;(·rw[if_pos hg]at h;simp only[tP,sC]at h;obtain⟨rfl,rfl⟩:=h;cases rb with|nil=>cases hg|cons x rb=>obtain rfl:x=255:=pK hg;show XI n++(XI k++255::rb)=XI n++XI k++[255]++rb;simp[tB]);·rw[if_neg hg]at h;cases h3:Zs rb with|none=>rw[h3]at h;cases h|some q=>obtain⟨v,rc⟩:=q;rw[h3]at h;simp only[tP,sC]at h;obtain⟨rfl,rfl⟩:=h;rw[V6 h3];show XI n++(XI k++(XI v++rc))=XI n++XI k++XI v++rc;simp[tB]
theorem vD:∀(n:Nat){r r2:List UInt8}{ws:List Zf},ZU n r=F (ws,r2)->r=ws.flatMap Ya++r2∧ws.length=n|0,r,r2,ws,h=>by rw[ZU]at h;simp only[tP,sC]at h;obtain⟨rfl,rfl⟩:=h;exact⟨rfl,rfl⟩|n+1,r,r2,ws,h=>by rw[ZU]at h;cases h1:Y0 r with|none=>rw[h1]at h;cases h|some q=>obtain⟨w,ra⟩:=q;rw[h1]at h;have h:(match ZU n ra with|F (ws,r2)=>F (w::ws,r2)|none=>H)=F (ws,r2):=h;cases h2:ZU n ra with|none=>rw[h2]at h;cases h|some q=>obtain⟨ws',rb⟩:=q;rw[h2]at h;simp only[tP,sC]at h;obtain⟨rfl,rfl⟩:=h;obtain⟨e1,e2⟩:=vD n h2;exact⟨by rw[MH h1,e1,rH,tB],by simp[e2]⟩
theorem zK : ∀ (n : Nat) (r : List UInt8), ZU (n + 1) r = match ZU n r with | F (ws, r1) => (match Y0 r1 with | F (w, r2) => F (ws ++ [w], r2) | none => H) | none => H
  | 0, r => by
    rw [ZU]
    cases h : Y0 r with
    | none => simp [ZU, h]
    | some q => obtain ⟨w, ra⟩ := q; simp [ZU, h]
  | n + 1, r => by
    rw [ZU]
    cases h : Y0 r with
    | none =>
      show H = _
      rw [ZU, h]
    | some q =>
      obtain ⟨w, ra⟩ := q
      show (match ZU (n + 1) ra with | F (ws, r2) => F (w :: ws, r2) | none => H) = _
      rw [zK n ra, show ZU (n + 1) r = (match ZU n ra with | F (ws, r2) => F (w :: ws, r2) | none => H) by rw [ZU, h]]
      cases h2 : ZU n ra with
      | none => rfl
      | some q =>
        obtain ⟨ws, rb⟩ := q
        show (match (match Y0 rb with | F (w, r2) => F (ws ++ [w], r2) | none => H) with | F (ws, r2) => F (w :: ws, r2) | none => H) = (match Y0 rb with | F (w', r2) => F (w :: ws ++ [w'], r2) | none => H)
        cases Y0 rb with
        | none => rfl
        | some q => rfl
def VT(b:List UInt8):Nat:=65536*(b.getD 0 0).toNat+256*(b.getD 1 0).toNat+(b.getD 2 0).toNat
def GD(b:List UInt8):Option (List Zf×List UInt8):=ZU (b.getD 3 0).toNat (b.drop 4)
def YA(b:List UInt8):Int:=if 4000<b.length then 1 else if b.length<4then 14 else match GD b with|none=>14|F (ws,r)=>if r.length=0then Q9 ⟨(VT b:Int),ws⟩else 4
def Jy(b:List UInt8):Xz:=if YA b=0then(match GD b with|F (ws,_)=>⟨(VT b:Int),ws⟩|none=>Zl)else Zl
theorem Pi(t n:Nat):(UQ t n).length=4:=rfl
theorem Hr(t n:Nat)(x:List UInt8)(ht:t<=1048576):VT (UQ t n++x)=t:=by
 show 65536*(tC (t/65536)).toNat+256*(tC (t/256%256)).toNat+(tC (t%256)).toNat=t;simp only[pS];omega
theorem Lf(t n:Nat)(x:List UInt8)(hn:n<=10):((UQ t n++x).getD 3 0).toNat=n:=by
 show(tC n).toNat=n;simp;omega
theorem SO(t n:Nat)(x:List UInt8):(UQ t n++x).drop 4=x:=rfl
theorem BZ{w:Zf}(hw:QA w=0):(Ya w).length=3+w.name.length+w.key.length+w.value.length∧(Ya w).length<=59:=by
 obtain⟨h1,h2,h3⟩:=(XH w).1 hw;unfold Ya Gf;by_cases hg:w.gone=O;·rw[if_pos hg]at h3⊢;rw[h3];simp only[T,GS,rX,List.length_nil];omega
 ·rw[if_neg hg]at h3⊢;simp only[T,GS];omega
def AO(ws:List Zf):Nat:=(ws.map fun w=>3+w.name.length+w.key.length+w.value.length).sum
theorem zU:∀(ws:List Zf)(_:∀w∈ws,QA w=0),(ws.flatMap Ya).length=AO ws∧(ws.flatMap Ya).length<=59*ws.length|[],_=>by simp[AO]|w::ws,h=>by obtain⟨i1,i2⟩:=zU ws (fun x hx=>h x (tY _ hx));obtain⟨j1,j2⟩:=BZ (h w (rT ..));rw[rH,T];unfold AO at i1⊢;rw[oE,List.sum_cons,rX];omega
theorem UO{c:Xz}(h:Q9 c=0):(Zi c).length=4+AO c.writes∧(Zi c).length<=594:=by
 obtain⟨_,h2,h3⟩:=(KH c).1 h;obtain⟨i1,i2⟩:=zU c.writes h3;unfold Zi;rw[T,Pi];omega
theorem MK{c:Xz}(h:Q9 c=0)(x:List UInt8):GD (Zi c++x)=F (c.writes,x)∧VT (Zi c++x)=c.turn.toNat:=by
 obtain⟨h1,h2,h3⟩:=(KH c).1 h;unfold GD Zi;rw[tB,Lf _ _ _ h2.2,SO,Hr _ _ _ (by omega)];exact⟨PZ _ h3 _,rfl⟩
theorem Mr{c:Xz}(h:Q9 c=0):YA (Zi c)=0∧Jy (Zi c)=c:=by
 obtain⟨h1,h2,h3⟩:=(KH c).1 h;obtain⟨s1,s2⟩:=UO h;obtain⟨b1,b2⟩:=MK h [];rw[tV]at b1 b2;have hc:(⟨(VT (Zi c):Int),c.writes⟩:Xz)=c:=by rw[b2,Int.toNat_of_nonneg (by omega)]
 have hd:YA (Zi c)=0:=by rw[YA,if_neg (by omega),if_neg (by omega),b1];show(if([]:List UInt8).length=0then Q9 ⟨(VT (Zi c):Int),c.writes⟩else 4)=0;rw[if_pos (show([]:List UInt8).length=0from rfl),hc,h]
 refine⟨hd,?_⟩;rw[Jy,if_pos hd,b1];exact hc
theorem Nj{b:List UInt8}(h:YA b=0):Q9 (Jy b)=0∧Zi (Jy b)=b:=by
 have hC:Jy b=(match GD b with|F (ws,_)=>⟨(VT b:Int),ws⟩|none=>Zl):=by rw[Jy,if_pos h]
 rw[YA]at h;by_cases h1:4000<b.length;·rw[if_pos h1]at h;omega
 rw[if_neg h1]at h;by_cases h2:b.length<4;·rw[if_pos h2]at h;omega
 rw[if_neg h2]at h;cases hb:GD b with|none=>rw[hb]at h;simp at h|some q=>obtain⟨ws,r⟩:=q;rw[hb]at h hC;have h:(if r.length=0then Q9 ⟨(VT b:Int),ws⟩else 4)=0:=h;have hC:Jy b=⟨(VT b:Int),ws⟩:=hC;by_cases hr:r.length=0;(·rw[if_pos hr]at h;obtain rfl:r=[]:=tD hr;rw[hC];refine⟨h,?_⟩;obtain⟨k1,k2,k3⟩:=(KH _).1 h;unfold GD at hb;obtain⟨e1,e2⟩:=vD _ hb;rw[tV]at e1;show UQ ((VT b:Int)).toNat ws.length++ws.flatMap Ya=b;rw[<-e1,e2,rI];match b,h2 with|x0::x1::x2::x3::t,_=>show UQ (65536*x0.toNat+256*x1.toNat+x2.toNat) x3.toNat++t=_;have a0:=x0.toNat_lt;have a1:=x1.toNat_lt;have a2:=x2.toNat_lt;have a3:=x3.toNat_lt;unfold UQ;rw[show(65536*x0.toNat+256*x1.toNat+x2.toNat)/65536=x0.toNat by omega,show(65536*x0.toNat+256*x1.toNat+x2.toNat)/256%256=x1.toNat by omega,show(65536*x0.toNat+256*x1.toNat+x2.toNat)%256=x2.toNat by omega];simp);·rw[if_neg hr]at h;omega
def Fe(b:List UInt8):List UInt8:=tC (b.length/256)::tC (b.length%256)::b
theorem zC(b:List UInt8):(Fe b).length=b.length+2:=rfl
def ZC(D:List UInt8->List UInt8)(c:Xz):List UInt8:=Fe (Zi c)++D (Fe (Zi c))
def Zh(r:List UInt8):Nat:=256*(r.getD 0 0).toNat+(r.getD 1 0).toNat
def XD(D:List UInt8->List UInt8)(r:List UInt8):Option (Xz×List UInt8):=if r.length<6then H else if r.length<Zh r+6∨4000<Zh r+2then H else if D (r.take (Zh r+2))=(r.drop (Zh r+2)).take 4then(if YA ((r.drop 2).take (Zh r))=0then F (Jy ((r.drop 2).take (Zh r)),r.drop (Zh r+6))else H)else H
theorem CS{D:List UInt8->List UInt8}{r r2:List UInt8}{c:Xz}(h:XD D r=F (c,r2)):∃m,6<=m∧m<=r.length∧r2=r.drop m∧Q9 c=0:=by
 unfold XD at h;by_cases h1:r.length<6;·rw[if_pos h1]at h;cases h
 rw[if_neg h1]at h;by_cases h2:r.length<Zh r+6∨4000<Zh r+2;·rw[if_pos h2]at h;cases h
 rw[if_neg h2]at h;by_cases h3:D (r.take (Zh r+2))=(r.drop (Zh r+2)).take 4;·rw[if_pos h3]at h;by_cases h4:YA ((r.drop 2).take (Zh r))=0;(·rw[if_pos h4]at h;simp only[tP,sC]at h;obtain⟨rfl,rfl⟩:=h;exact⟨Zh r+6,by omega,by omega,rfl,(Nj h4).1⟩);·rw[if_neg h4]at h;cases h
 ·rw[if_neg h3]at h;cases h
theorem Ej{b:List UInt8}(h:b.length<65536)(x:List UInt8):Zh (Fe b++x)=b.length:=by
 show 256*(tC (b.length/256)).toNat+(tC (b.length%256)).toNat=b.length;simp only[pS];omega
theorem vZ{D:List UInt8->List UInt8}(hD:∀x,(D x).length=4)(c:Xz):(ZC D c).length=(Zi c).length+6:=by
 unfold ZC;rw[T,hD,zC]
theorem CE{D:List UInt8->List UInt8}(hD:∀x,(D x).length=4){c:Xz}(h:Q9 c=0)(r:List UInt8):XD D (ZC D c++r)=F (c,r):=by
 obtain⟨s1,s2⟩:=UO h;obtain⟨d1,d2⟩:=Mr h;have hl:=vZ hD c;have hz:Zh (ZC D c++r)=(Zi c).length:=by unfold ZC;rw[tB];exact Ej (by omega) _
 have ht:(ZC D c++r).take ((Zi c).length+2)=Fe (Zi c):=by unfold ZC;rw[tB];exact rM (zC _)
 have hd:(ZC D c++r).drop ((Zi c).length+2)=D (Fe (Zi c))++r:=by unfold ZC;rw[tB];exact rN (zC _)
 have hm:((ZC D c++r).drop 2).take (Zi c).length=Zi c:=by unfold ZC;rw[tB];exact rM rfl
 have he:(ZC D c++r).drop ((Zi c).length+6)=r:=rN hl;have hlen:(ZC D c++r).length=(Zi c).length+6+r.length:=by rw[T,hl]
 unfold XD;rw[if_neg (by omega),hz,if_neg (by omega),ht,hd,hm,he,if_pos (rM (hD _)).symm,if_pos d1,d2]
theorem AJ{D:List UInt8->List UInt8}(hD:∀x,(D x).length=4){c:Xz}(h:Q9 c=0)(k:Nat)(hk:k<(ZC D c).length):XD D ((ZC D c).take k)=H:=by
 obtain⟨s1,s2⟩:=UO h;have hl:=vZ hD c;have hkl:((ZC D c).take k).length=k:=by simp;omega
 unfold XD;by_cases h6:k<6;·rw[if_pos (by omega)]
 ·(have hz:Zh ((ZC D c).take k)=(Zi c).length:=by(have hz:Zh (ZC D c++[])=(Zi c).length:=by unfold ZC;rw[tB];exact Ej (by omega) _);rw[tV]at hz;rw[<-hz];unfold Zh;simp only[List.getD_eq_getElem?_getD,pU];rw[if_pos (by omega),if_pos (by omega)]);rw[if_neg (by omega),hz,if_pos (by omega)]
def Kr(D:List UInt8->List UInt8)(turn:Nat)(r:List UInt8):List Xz×List UInt8:=match h:XD D r with|F (c,r2)=>if c.turn=(turn:Int)then(c::(Kr D (turn+1) r2).1,(Kr D (turn+1) r2).2)else([],r)|none=>([],r)termination_by r.length decreasing_by
 all_goals obtain⟨m,h1,h2,h3,_⟩:=CS h;rw[h3,pY];omega
theorem WC{D:List UInt8->List UInt8}{turn:Nat}{r r2:List UInt8}{c:Xz}(h:XD D r=F (c,r2))(ht:c.turn=(turn:Int)):Kr D turn r=(c::(Kr D (turn+1) r2).1,(Kr D (turn+1) r2).2):=by
 rw[Kr];split;·next c' r' h'=>rw[h]at h';simp only[tP,sC]at h';obtain⟨rfl,rfl⟩:=h';rw[if_pos ht]
 ·next h'=>rw[h]at h';cases h'
theorem Hb{D:List UInt8->List UInt8}{turn:Nat}{r r2:List UInt8}{c:Xz}(h:XD D r=F (c,r2))(ht:c.turn≠(turn:Int)):Kr D turn r=([],r):=by
 rw[Kr];split;·next c' r' h'=>rw[h]at h';simp only[tP,sC]at h';obtain⟨rfl,rfl⟩:=h';rw[if_neg ht]
 ·rfl
theorem Tm{D:List UInt8->List UInt8}{turn:Nat}{r:List UInt8}(h:XD D r=H):Kr D turn r=([],r):=by
 rw[Kr];split;·next c' r' h'=>rw[h]at h';cases h'
 ·rfl
theorem Hv(D:List UInt8->List UInt8):XD D []=H:=by
 unfold XD;rw[if_pos (by simp)]
def G9:Nat->List Xz->Prop|_,[]=>True|t,c::cs=>c.turn=(t:Int)∧Q9 c=0∧G9 (t+1) cs
theorem G9.take:∀{t:Nat}{cs:List Xz}(_:G9 t cs)(j:Nat),G9 t (cs.take j)|_,[],_,j=>by rw[oF];trivial|_,c::cs,_,0=>trivial|t,c::cs,h,j+1=>⟨h.1,h.2.1,G9.take h.2.2 j⟩
def Q5(D:List UInt8->List UInt8)(cs:List Xz):List UInt8:=cs.flatMap (ZC D)
theorem Ky(D:List UInt8->List UInt8)(c:Xz)(cs:List Xz):Q5 D (c::cs)=ZC D c++Q5 D cs:=rH
theorem Vm(D:List UInt8->List UInt8)(a b:List Xz):Q5 D (a++b)=Q5 D a++Q5 D b:=List.flatMap_append
theorem vU(D:List UInt8->List UInt8)(c:Xz):Q5 D [c]=ZC D c:=by
 simp[Q5]
def ML(D:List UInt8->List UInt8)(r:List UInt8):Nat:=r.length-(Kr D 1 r).2.length
theorem D7{D:List UInt8->List UInt8}(hD:∀x,(D x).length=4):∀{t:Nat}{cs:List Xz}(_:G9 t cs)(k:Nat),∃j,j<=cs.length∧Kr D t ((Q5 D cs).take k)=(cs.take j,((Q5 D cs).take k).drop (Q5 D (cs.take j)).length)∧(Q5 D (cs.take j)).length<=k∧(Q5 D (cs.take j)).length<=(Q5 D cs).length∧(j<cs.length->k<(Q5 D (cs.take (j+1))).length)|t,[],_,k=>⟨0,by simp,by show Kr D t (([]:List UInt8).take k)=_;rw[oF,Tm (Hv D)];simp[Q5],by simp[Q5],by simp[Q5],fun h=>by simp at h⟩|t,c::cs,h,k=>by by_cases hk:k<(ZC D c).length;(·refine⟨0,by simp,?_,by simp[Q5],by simp[Q5],fun _=>?_⟩;(·rw[Ky,r7 (by omega),Tm (AJ hD h.2.1 k hk)];simp[Q5]);·show k<(Q5 D [c]).length;rw[vU];exact hk);·obtain⟨j,h1,h2,h3,h4,h5⟩:=D7 hD h.2.2 (k-(ZC D c).length);(have ht:(Q5 D (c::cs)).take k=ZC D c++(Q5 D cs).take (k-(ZC D c).length):=by rw[Ky,List.take_append,pG (by omega)]);refine⟨j+1,by simp;omega,?_,?_,?_,fun hj=>?_⟩;(·rw[ht,WC (CE hD h.2.1 _) h.1,h2,sG,Ky];rw[T,<-List.drop_drop,rN rfl]);(·rw[sG,Ky,T];omega);(·rw[sG,Ky,Ky,T,T];omega);·have:=h5 (by simpa using hj);rw[sG,Ky,T];omega
theorem UI(D:List UInt8->List UInt8)(cs:List Xz)(i j:Nat)(h:i<=j):(Q5 D (cs.take i)).length<=(Q5 D (cs.take j)).length:=by
 have:cs.take i=(cs.take j).take i:=by rw[List.take_take,oD h]
 rw[this];conv=>rhs;rw[<-tE i (cs.take j),Vm]
 rw[T];omega
theorem TY{D:List UInt8->List UInt8}{cs:List Xz}{k j i:Nat}(hi:i<=cs.length)(hj:j<cs.length->k<(Q5 D (cs.take (j+1))).length)(hk:(Q5 D (cs.take i)).length<=k):i<=j:=by
 by_cases h:i<=j;·exact h
 ·have:=UI D cs (j+1) i (by omega);have:=hj (by omega);omega
theorem Ee(t:PL)(p:Pr)(h:∀q∈t,(1<=q.1.length∧q.1.length<=16)∧q.2.length<=32)(hp:(1<=p.1.length∧p.1.length<=16)∧p.2.length<=32):∀q∈J5 t p,(1<=q.1.length∧q.1.length<=16)∧q.2.length<=32:=by
 intro q hq;rcases Ns t p q hq with rfl|hq;·exact hp
 ·exact h q hq
theorem Su:∀(t:PL)(p:Pr)(k:Nat),k<=t.length->(∀j,j<k->YF (t.getD j ([],[])).1 p.1=O)->(k<t.length->YF (t.getD k ([],[])).1 p.1=V)->J5 t p=if k<t.length∧(t.getD k ([],[])).1=p.1then t.set k p else t.take k++([p]++t.drop k)|[],p,k,hk,_,_=>by(obtain rfl:k=0:=by simpa using hk);simp[J5]|q::r,p,0,_,_,h2=>by have h:=h2 (by simp);simp only[tX]at h;rw[J5,if_neg (by rw[h];simp)];by_cases e:q.1=p.1;(·rw[if_pos e,if_pos ⟨by simp,by simpa using e⟩];simp);·rw[if_neg e,if_neg (fun h=>e (by simpa using h.2))];simp|q::r,p,k+1,hk,h1,h2=>by have h:=h1 0 (by omega);simp only[tX]at h;rw[J5,if_pos h,Su r p k (by simpa using hk) (fun j hj=>by simpa using h1 (j+1) (by omega)) (fun hk=>by simpa using h2 (by simpa using hk))];by_cases e:k<r.length∧(r.getD k ([],[])).1=p.1;(·rw[if_pos e,if_pos ⟨by simpa using e.1,by simpa using e.2⟩];simp);·rw[if_neg e,if_neg (fun h=>e ⟨by simpa using h.1,by simpa using h.2⟩)];simp
theorem OM(t:PL)(p:Pr)(h:Zy t)(hp:(1<=p.1.length∧p.1.length<=16)∧p.2.length<=32)(hl:t.length<60):Ka t p=0∧Va t p=J5 t p∧Zy (J5 t p):=by
 have h0:VI t p=0:=by rw[VI,if_pos ((YK t).2 h)];exact(Jw p).2 hp
 have hlen:=aO t p;have h1:Ka t p=0:=by rw[Ka,if_pos h0,if_neg (by omega)]
 exact⟨h1,by rw[Va,if_pos h1],⟨by omega,Ee t p h.pairs hp,vK t p h.rises⟩⟩
def Iy(m:Nat)(l:FL):Prop:=∀n,(Jb l n).length<=m
theorem LG:Iy 0 []:=fun n=>by
 rw[cZ];simp
theorem bH{l:FL}{m:Nat}(h:Xn l){w:Zf}(hw:QA w=0)(hs:Iy m l)(hm:m<60):GK l w=0:=by
 obtain⟨_,hk,hv⟩:=(XH w).1 hw;have hT:=K5 h w.name;have hl:=hs w.name;unfold GK;by_cases hg:w.gone=O;·rw[if_pos hg];exact vA hT hk
 ·rw[if_neg hg]at hv⊢;exact(OM _ _ hT ⟨hk,hv⟩ (by omega)).1
theorem FN{l:FL}{m:Nat}(h:Xn l){w:Zf}(hw:QA w=0)(hs:Iy m l)(hm:m<60):Yw l w=if 8<(Zq l w).length then 11 else 0:=by
 rw[Yw,if_pos (bH h hw hs hm)]
theorem MC(l:FL)(w:Zf):(Zq l w).length<=l.length+1:=by
 unfold Zq;by_cases hn:(Yt l w).length=0;·rw[if_pos hn];have:=EJ l w.name;omega
 ·rw[if_neg hn];exact LS _ _
theorem uL:∀(ws:List Zf)(l:FL),Xn l->Xc l ws=0->Xn (Jm l ws)|[],l,h,_=>h|w::ws,l,h,he=>by rw[Xc]at he;by_cases hw:QA w=0;(·rw[if_pos hw]at he;by_cases h2:Yw l w=0;(·rw[if_pos h2]at he;exact uL ws _ (xO h hw h2) he);·rw[if_neg h2]at he;exact absurd he h2);·rw[if_neg hw]at he;exact absurd he hw
def GN(l:FL)(n:List UInt8):Int:=if Q7 l=0then Qt n.length else Q7 l
theorem G6{l:FL}{n:List UInt8}(h:GN l n=0):Xn l∧(1<=n.length∧n.length<=8):=by
 unfold GN at h;by_cases h0:Q7 l=0;·rw[if_pos h0]at h;exact⟨(XY l).1 h0,(Zw _).1 h⟩
 ·rw[if_neg h0]at h;exact absurd h h0
def Vt(l:FL)(n k:List UInt8):Int:=if GN l n=0then Xa (Jb l n) k else GN l n
def UU(l:FL)(n k:List UInt8):Bool:=if GN l n=0then Rl (Jb l n) k else V
def UW(l:FL)(n k:List UInt8):List UInt8:=if GN l n=0then Rn (Jb l n) k else[]
def Yz(l:FL)(n f t:List UInt8):Int:=if GN l n=0then Yx (Jb l n) f t else GN l n
def Kc(l:FL)(n f t:List UInt8):PL:=if GN l n=0then KA (Jb l n) f t else[]
structure Rq where
  kind : Int
  name : List UInt8
  key : List UInt8
  last : List UInt8
  value : List UInt8
def VR:Rq:=⟨0,[],[],[],[]⟩
def QY(k:Int):Bool:=tI (2<=k∧k<=5)||tI (k=8)
def yF(r:Rq):Int:=if QY r.kind=O then(if Qt r.name.length=0then(if Qp r.key.length=0then(if r.kind=3then Qp r.last.length else 0)else Qp r.key.length)else Qt r.name.length)else 0
def Re(r:Rq):Int:=if QY r.kind=V∧0<r.name.length+r.key.length then 4 else if(r.kind≠3∧0<r.last.length)∨(r.kind≠4∧0<r.value.length)then 4 else 0
def Yd(r:Rq):Int:=if 1<=r.kind∧r.kind<=8then(if yF r=0then(if 32<r.value.length then 1 else Re r)else yF r)else 5
structure Ye(r:Rq):Prop where kind:1<=r.kind∧r.kind<=8name:QY r.kind=O->1<=r.name.length∧r.name.length<=8key:QY r.kind=O->1<=r.key.length∧r.key.length<=16last:r.kind=3->1<=r.last.length∧r.last.length<=16value:r.value.length<=32noName:QY r.kind=V->r.name=[]noKey:QY r.kind=V->r.key=[]noLast:r.kind≠3->r.last=[]noValue:r.kind≠4->r.value=[]
theorem P0(r:Rq):yF r=0↔(QY r.kind=O->(1<=r.name.length∧r.name.length<=8)∧(1<=r.key.length∧r.key.length<=16)∧(r.kind=3->1<=r.last.length∧r.last.length<=16)):=by
 unfold yF;by_cases h:QY r.kind=O;·rw[if_pos h];by_cases h1:Qt r.name.length=0;(·rw[if_pos h1];by_cases h2:Qp r.key.length=0;(·rw[if_pos h2];by_cases h3:r.kind=3;(·rw[if_pos h3,Zt];exact⟨fun e _=>⟨(Zw _).1 h1,(Zt _).1 h2,fun _=>e⟩,fun e=>(e h).2.2 h3⟩);·rw[if_neg h3];exact⟨fun _ _=>⟨(Zw _).1 h1,(Zt _).1 h2,fun e=>absurd e h3⟩,fun _=>rfl⟩);·rw[if_neg h2];exact⟨fun e=>absurd e h2,fun e=>(Zt _).2 (e h).2.1⟩);·rw[if_neg h1];exact⟨fun e=>absurd e h1,fun e=>(Zw _).2 (e h).1⟩
 ·rw[if_neg h];exact⟨fun _ e=>absurd e h,fun _=>rfl⟩
theorem aW{l:List UInt8}(h:¬0<l.length):l=[]:=tD (by
 omega)
theorem BN(r:Rq):Re r=0↔(QY r.kind=V->r.name=[]∧r.key=[])∧(r.kind≠3->r.last=[])∧(r.kind≠4->r.value=[]):=by
 unfold Re;by_cases h1:QY r.kind=V∧0<r.name.length+r.key.length;·rw[if_pos h1];refine⟨fun e=>(by cases e),fun e=>?_⟩;have:=e.1 h1.1;rw[this.1,this.2]at h1;simp at h1
 ·rw[if_neg h1];by_cases h2:(r.kind≠3∧0<r.last.length)∨(r.kind≠4∧0<r.value.length);(·rw[if_pos h2];refine⟨fun e=>(by cases e),fun e=>?_⟩;rcases h2 with h2|h2;(·rw[e.2.1 h2.1]at h2;simp at h2);·rw[e.2.2 h2.1]at h2;simp at h2);·rw[if_neg h2];refine⟨fun _=>⟨fun h=>?_,fun h=>aW fun e=>h2 (.inl ⟨h,e⟩),fun h=>aW fun e=>h2 (.inr ⟨h,e⟩)⟩,fun _=>rfl⟩;have hz:¬0<r.name.length+r.key.length:=fun e=>h1 ⟨h,e⟩;exact⟨aW (by omega),aW (by omega)⟩
theorem Yc(r:Rq):Yd r=0↔Ye r:=by
 unfold Yd;by_cases h0:1<=r.kind∧r.kind<=8;·rw[if_pos h0];by_cases h1:yF r=0;(·rw[if_pos h1];have hp:=(P0 r).1 h1;by_cases h2:32<r.value.length;(·rw[if_pos h2];exact⟨fun e=>(by cases e),fun e=>by have:=e.value;omega⟩);·rw[if_neg h2,BN];refine⟨fun⟨e1,e2,e3⟩=>⟨h0,fun h=>(hp h).1,fun h=>(hp h).2.1,fun h=>(hp (by rw[h];decide)).2.2 h,by omega,fun h=>(e1 h).1,fun h=>(e1 h).2,e2,e3⟩,fun e=>⟨fun h=>⟨e.noName h,e.noKey h⟩,e.noLast,e.noValue⟩⟩);·rw[if_neg h1];refine⟨fun e=>absurd e h1,fun e=>(P0 r).2 fun h=>⟨e.name h,e.key h,e.last⟩⟩
 ·rw[if_neg h0];exact⟨fun e=>(by cases e),fun e=>absurd e.kind h0⟩
def Xl(c:Bool)(p:List UInt8):List UInt8:=if c=O then XI p else[]
def Jd(c:Bool)(r:List UInt8):Option (List UInt8×List UInt8):=if c=O then Zs r else F ([],r)
theorem xS(c:Bool)(p r:List UInt8)(h:c=O->p.length<256)(h0:c=V->p=[]):Jd c (Xl c p++r)=F (p,r):=by
 cases c with|true=>exact Vb p r (h rfl)|false=>rw[h0 rfl];rfl
theorem VA{c:Bool}{r p r2:List UInt8}(h:Jd c r=F (p,r2)):r=Xl c p++r2:=by
 cases c with|true=>exact V6 h|false=>(obtain⟨rfl,rfl⟩:[]=p∧r=r2:=by simpa[Jd]using h);rfl
theorem yH{c:Bool}{r p r2:List UInt8}(h:Jd c r=F (p,r2))(x:List UInt8):Jd c (r++x)=F (p,r2++x):=by
 cases c with|true=>exact C6 h x|false=>(obtain⟨rfl,rfl⟩:[]=p∧r=r2:=by simpa[Jd]using h);rfl
theorem L9{c:Bool}{r p r2:List UInt8}(h:Jd c r=F (p,r2))(hc:c=V):p=[]:=by
 subst hc;have:[]=p∧r=r2:=by simpa[Jd]using h
 exact this.1.symm
def qS(r:Rq):List UInt8:=Xl (QY r.kind) r.name++(Xl (QY r.kind) r.key++(Xl (tI (r.kind=3)) r.last++Xl (tI (r.kind=4)) r.value))
def JZ(r:Rq):List UInt8:=tC r.kind.toNat::qS r
def U7(k:Int)(n q l r:List UInt8):Option (Rq×List UInt8):=match Jd (tI (k=4)) r with|F (v,r2)=>F (⟨k,n,q,l,v⟩,r2)|none=>H
def U8(k:Int)(n q r:List UInt8):Option (Rq×List UInt8):=match Jd (tI (k=3)) r with|F (l,r2)=>U7 k n q l r2|none=>H
def U6(k:Int)(n r:List UInt8):Option (Rq×List UInt8):=match Jd (QY k) r with|F (q,r2)=>U8 k n q r2|none=>H
def X8(k:Int)(r:List UInt8):Option (Rq×List UInt8):=match Jd (QY k) r with|F (n,r2)=>U6 k n r2|none=>H
theorem Em{r:Rq}(h:Ye r)(x:List UInt8):X8 r.kind (qS r++x)=F (r,x):=by
 have e1:=xS (QY r.kind) r.name (Xl (QY r.kind) r.key++(Xl (tI (r.kind=3)) r.last++(Xl (tI (r.kind=4)) r.value++x))) (fun e=>by have:=h.name e;omega) h.noName;have e2:=xS (QY r.kind) r.key (Xl (tI (r.kind=3)) r.last++(Xl (tI (r.kind=4)) r.value++x)) (fun e=>by have:=h.key e;omega) h.noKey;have e3:=xS (tI (r.kind=3)) r.last (Xl (tI (r.kind=4)) r.value++x) (fun e=>by have:=h.last (by simpa using e);omega) (fun e=>h.noLast (by simpa using e));have e4:=xS (tI (r.kind=4)) r.value x (fun _=>by have:=h.value;omega) (fun e=>h.noValue (by simpa using e));rw[qS,tB,tB,tB,X8,e1];show U6 _ _ _=_;rw[U6,e2];show U8 _ _ _ _=_;rw[U8,e3];show U7 _ _ _ _ _=_;rw[U7,e4]
theorem jZ{k:Int}{b x:List UInt8}{r:Rq}(h:X8 k b=F (r,x)):r.kind=k∧∃r1 r2 r3,Jd (QY k) b=F (r.name,r1)∧Jd (QY k) r1=F (r.key,r2)∧Jd (tI (k=3)) r2=F (r.last,r3)∧Jd (tI (k=4)) r3=F (r.value,x):=by
 rw[X8]at h;match h1:Jd (QY k) b with|none=>rw[h1]at h;cases h|F (n,r1)=>rw[h1]at h;replace h:U6 k n r1=F (r,x):=h;rw[U6]at h;match h2:Jd (QY k) r1 with|none=>rw[h2]at h;cases h|F (q,r2)=>rw[h2]at h;replace h:U8 k n q r2=F (r,x):=h;rw[U8]at h;match h3:Jd (tI (k=3)) r2 with|none=>rw[h3]at h;cases h|F (l,r3)=>rw[h3]at h;replace h:U7 k n q l r3=F (r,x):=h;rw[U7]at h;match h4:Jd (tI (k=4)) r3 with|none=>rw[h4]at h;cases h|F (v,r4)=>rw[h4]at h;(obtain⟨rfl,rfl⟩:(⟨k,n,q,l,v⟩:Rq)=r∧r4=x:=by simpa using h);exact⟨rfl,r1,r2,r3,rfl,h2,h3,h4⟩
theorem OQ{k:Int}{b r1 r2 r3 x n q l v:List UInt8}(h1:Jd (QY k) b=F (n,r1))(h2:Jd (QY k) r1=F (q,r2))(h3:Jd (tI (k=3)) r2=F (l,r3))(h4:Jd (tI (k=4)) r3=F (v,x)):X8 k b=F (⟨k,n,q,l,v⟩,x):=by
 rw[X8,h1];show U6 _ _ _=_;rw[U6,h2];show U8 _ _ _ _=_;rw[U8,h3];show U7 _ _ _ _ _=_;rw[U7,h4]
theorem F2{k:Int}{b x:List UInt8}{r:Rq}(h:X8 k b=F (r,x)):b=qS r++x∧r.kind=k:=by
 obtain⟨hk,r1,r2,r3,h1,h2,h3,h4⟩:=jZ h;refine⟨?_,hk⟩;rw[qS,hk,VA h1,VA h2,VA h3,VA h4];simp[tB]
theorem Lt{k:Int}{b y:List UInt8}{r:Rq}(h:X8 k b=F (r,y))(x:List UInt8):X8 k (b++x)=F (r,y++x):=by
 obtain⟨hk,r1,r2,r3,h1,h2,h3,h4⟩:=jZ h;have:=OQ (yH h1 x) (yH h2 x) (yH h3 x) (yH h4 x);rw[this,<-hk]
def Ui(b:List UInt8):Int:=((b.getD 0 0).toNat:Int)
def QI(b:List UInt8):Int:=if 4000<b.length then 1 else if b.length=0then 14 else if 1<=Ui b∧Ui b<=8then(match X8 (Ui b) (b.drop 1)with|none=>14|F (r,x)=>if x.length=0then Yd r else 4)else 5
def Qu(b:List UInt8):Rq:=if QI b=0then(match X8 (Ui b) (b.drop 1)with|F (r,_)=>r|none=>VR)else VR
theorem Ex{r:Rq}(h:Ye r)(x:List UInt8):Ui (JZ r++x)=r.kind∧(JZ r++x).drop 1=qS r++x:=by
 have h0:=h.kind;refine⟨?_,rfl⟩;show(((tC r.kind.toNat).toNat:Nat):Int)=r.kind;simp;omega
theorem KR(c:Bool)(p:List UInt8):(Xl c p).length<=p.length+1:=by
 cases c with|true=>exact sA _|false=>exact Nat.zero_le _
theorem FH{r:Rq}(h:Ye r):(JZ r).length<=78∧1<=(JZ r).length:=by
 have l1:=KR (QY r.kind) r.name;have l2:=KR (QY r.kind) r.key;have l3:=KR (tI (r.kind=3)) r.last;have l4:=KR (tI (r.kind=4)) r.value;have k1:r.name.length<=8:=by by_cases e:QY r.kind=O;(·exact(h.name e).2);·rw[h.noName (by simpa using e)];simp
 have k2:r.key.length<=16:=by by_cases e:QY r.kind=O;(·exact(h.key e).2);·rw[h.noKey (by simpa using e)];simp
 have k3:r.last.length<=16:=by by_cases e:r.kind=3;(·exact(h.last e).2);·rw[h.noLast e];simp
 have k4:=h.value;have e:(JZ r).length=1+(Xl (QY r.kind) r.name).length+(Xl (QY r.kind) r.key).length+(Xl (tI (r.kind=3)) r.last).length+(Xl (tI (r.kind=4)) r.value).length:=by rw[JZ,qS,rX,T,T,T];omega
 omega
theorem TN{r:Rq}(h:Ye r):QI (JZ r)=0∧Qu (JZ r)=r:=by
 have hl:=FH h;obtain⟨e1,e2⟩:=Ex h [];rw[tV]at e1 e2;have e3:=Em h [];have e:QI (JZ r)=0:=by rw[QI,if_neg (by omega),if_neg (by omega),e1,if_pos h.kind,e2,e3];show(if([]:List UInt8).length=0then Yd r else 4)=0;rw[if_pos (by simp)];exact(Yc r).2 h
 refine⟨e,?_⟩;rw[Qu,if_pos e,e1,e2,e3]
theorem fI{r:Rq}(h:Ye r)(k:Nat)(hk:k<(JZ r).length):QI ((JZ r).take k)=14:=by
 have hl2:=FH h;have hlen:((JZ r).take k).length=k:=by rw[List.length_take];omega
 rw[QI,if_neg (by omega)];by_cases h0:k=0;·rw[if_pos (by omega)]
 ·rw[if_neg (by omega)];have hsp:(JZ r).take k++(JZ r).drop k=JZ r:=tE _ _;(have hkd:Ui ((JZ r).take k)=r.kind:=by obtain⟨e1,_⟩:=Ex h [];rw[tV]at e1;rw[<-e1];match k,h0 with|k+1,_=>rfl);rw[hkd,if_pos h.kind];match hD:X8 r.kind (((JZ r).take k).drop 1)with|none=>rfl|F (r',y)=>have hm:=Lt hD ((JZ r).drop k);(have hd:((JZ r).take k).drop 1++(JZ r).drop k=qS r:=by match k,h0 with|k+1,_=>show(qS r).take k++(qS r).drop k=qS r;exact tE _ _);rw[hd]at hm;have hb:=Em h [];rw[tV,hm]at hb;(have he:y++(JZ r).drop k=[]:=by have:=congrArg (fun o=>o.map Prod.snd) hb;simpa using this);have:=congrArg List.length he;rw[T,pY]at this;simp at this;omega
theorem Yo{b:List UInt8}(h:QI b=0):Yd (Qu b)=0∧JZ (Qu b)=b:=by
 have h':=h;rw[QI]at h;by_cases h1:4000<b.length;·rw[if_pos h1]at h;cases h
 ·rw[if_neg h1]at h;by_cases h2:b.length=0;(·rw[if_pos h2]at h;cases h);·rw[if_neg h2]at h;by_cases h3:1<=Ui b∧Ui b<=8;(·rw[if_pos h3]at h;match hD:X8 (Ui b) (b.drop 1)with|none=>rw[hD]at h;cases h|F (r,x)=>rw[hD]at h;replace h:(if x.length=0then Yd r else 4)=0:=h;by_cases hx:x.length=0;(·rw[if_pos hx]at h;(have hr:Qu b=r:=by rw[Qu,if_pos h',hD]);rw[hr];refine⟨h,?_⟩;obtain⟨f1,f2⟩:=F2 hD;rw[tD hx,tV]at f1;rw[JZ,<-f1,f2];match b,h2 with|c::b,_=>show tC ((c.toNat:Nat):Int).toNat::b=c::b;simp);·rw[if_neg hx]at h;cases h);·rw[if_neg h3]at h;cases h
theorem yG{b:List UInt8}(h:QI b≠0):Qu b=VR:=by
 rw[Qu,if_neg h]
def K8(r:Rq):Int:=if Yd r=0then(if r.kind=2∨r.kind=3then 0 else 7)else Yd r
def Zr(r:Rq):Rd:=if K8 r=0then⟨r.name,r.key,tI (r.kind=3),r.last⟩else Ze
def YY(r:Rq):Int:=if Yd r=0then(if r.kind=4∨r.kind=5then 0 else 7)else Yd r
def Xi(r:Rq):Zf:=if YY r=0then⟨r.name,r.key,r.value,tI (r.kind=5)⟩else Qq
theorem IW{r:Rq}(h:K8 r=0):XA (Zr r)=0:=by
 have h':=h;unfold K8 at h;by_cases h0:Yd r=0;·rw[if_pos h0]at h;have ho:=(Yc r).1 h0;by_cases h1:r.kind=2∨r.kind=3;(·(have hn:QY r.kind=O:=by rcases h1 with h1|h1<;>rw[h1]<;>decide);rw[Zr,if_pos h',RK];refine⟨ho.name hn,ho.key hn,?_⟩;show if tI (r.kind=3)=O then _ else _;by_cases h3:r.kind=3;(·rw[if_pos (by simpa using h3)];exact ho.last h3);·rw[if_neg (by simpa using h3)];exact ho.noLast h3);·rw[if_neg h1]at h;cases h
 ·rw[if_neg h0]at h;exact absurd h h0
theorem vJ{r:Rq}(h:YY r=0):QA (Xi r)=0:=by
 have h':=h;unfold YY at h;by_cases h0:Yd r=0;·rw[if_pos h0]at h;have ho:=(Yc r).1 h0;by_cases h1:r.kind=4∨r.kind=5;(·(have hn:QY r.kind=O:=by rcases h1 with h1|h1<;>rw[h1]<;>decide);rw[Xi,if_pos h',XH];refine⟨ho.name hn,ho.key hn,?_⟩;show if tI (r.kind=5)=O then _ else _;by_cases h3:r.kind=5;(·rw[if_pos (by simpa using h3)];exact ho.noValue (by omega));·rw[if_neg (by simpa using h3)];exact ho.value);·rw[if_neg h1]at h;cases h
 ·rw[if_neg h0]at h;exact absurd h h0
theorem Eg{r:Rq}(h:Ye r):K8 r=(if r.kind=2∨r.kind=3then 0 else 7)∧YY r=(if r.kind=4∨r.kind=5then 0 else 7):=by
 have:=(Yc r).2 h;exact⟨by rw[K8,if_pos this],by rw[YY,if_pos this]⟩
def Ii(l:List Ac):List UInt8:=l.flatMap fun a=>gL a++[10]
def KZ:Nat->List Ac->Option (Nat×Int)|_,[]=>H|n,a::l=>if YS a=0then KZ (n+1) l else F (n,YS a)
def VY(l:List Ac):Int:=if 100000<l.length then 1 else match KZ 0 l with|none=>0|F (_,e)=>e
def PD(l:List Ac):Nat:=if 100000<l.length then 0 else match KZ 0 l with|none=>0|F (i,_)=>i
def PG(l:List Ac):List UInt8:=if VY l=0then Ii l else[]
theorem Ey:∀(l:List Ac)(n:Nat),KZ n l=H↔∀a∈l,Y1 a|[],_=>by simp[KZ]|a::l,n=>by rw[KZ];by_cases ha:YS a=0;(·rw[if_pos ha,Ey l (n+1)];simp only[tS,forall_eq_or_imp];exact⟨fun h=>⟨(kE a).1 ha,h⟩,fun h=>h.2⟩);·rw[if_neg ha];exact⟨fun h=>(by cases h),fun h=>absurd ((kE a).2 (h a (by simp))) ha⟩
theorem Lk(l:List Ac)(m:Nat)(hm:m<l.length):KZ m (l.drop m)=if YS (l.getD m Uk)=0then KZ (m+1) (l.drop (m+1))else F (m,YS (l.getD m Uk)):=by
 rw[sD hm,KZ,show l[m]=l.getD m Uk by simp[hm]]
theorem gQ{l:List Ac}(h:∀a∈l,Y1 a)(hl:l.length<=100000):VY l=0∧PD l=0∧PG l=Ii l:=by
 have hb:=(Ey l 0).2 h;have he:VY l=0:=by rw[VY,if_neg (by omega),hb]
 exact⟨he,by rw[PD,if_neg (by omega),hb],by rw[PG,if_pos he]⟩
theorem S4{l:List Ac}(h:100000<l.length):VY l=1∧PD l=0∧PG l=[]:=by
 have e:VY l=1:=by rw[VY,if_pos h]
 exact⟨e,by rw[PD,if_pos h],by rw[PG,e,if_neg (by decide)]⟩
theorem F0{l:List Ac}(h:l.length<=100000)(hb:KZ 0 l=H):VY l=0∧PD l=0∧PG l=Ii l:=by
 have e:VY l=0:=by rw[VY,if_neg (by omega),hb]
 exact⟨e,by rw[PD,if_neg (by omega),hb],by rw[PG,if_pos e]⟩
theorem On{l:List Ac}(h:l.length<=100000){i:Nat}{e:Int}(hb:KZ 0 l=F (i,e))(he:e≠0):VY l=e∧PD l=i∧PG l=[]:=by
 have h1:VY l=e:=by rw[VY,if_neg (by omega),hb]
 exact⟨h1,by rw[PD,if_neg (by omega),hb],by rw[PG,h1,if_neg he]⟩
theorem bL{l:List Ac}{m:Nat}(hm:m<l.length)(hb:KZ 0 l=KZ m (l.drop m)):(YS (l.getD m Uk)=0->KZ 0 l=KZ (m+1) (l.drop (m+1)))∧(YS (l.getD m Uk)≠0->KZ 0 l=F (m,YS (l.getD m Uk))):=by
 rw[hb,Lk l m hm];exact⟨fun h=>by rw[if_pos h],fun h=>by rw[if_neg h]⟩
def XT(w:I)(v:N)(r:Rq):Prop:=∃vn vk vl vv,v=pN #[tK sY r.kind,vn,vk,vl,vv]∧Qe w vn r.name∧Qe w vk r.key∧Qe w vl r.last∧Qe w vv r.value
theorem XT.grown{w w':I}{v:N}{r:Rq}(h:XT w v r)(hg:J w w' H):XT w' v r:=by
 obtain⟨vn,vk,vl,vv,rfl,h1,h2,h3,h4⟩:=h;exact⟨vn,vk,vl,vv,rfl,h1.grown hg,h2.grown hg,h3.grown hg,h4.grown hg⟩
theorem XT.agg{w:I}{v:N}{r:Rq}(h:XT w v r):∃n1 n2 k1 k2 l1 l2 v1 v2,v=pN #[tK sY r.kind,tH n1 r.name.length n2,tH k1 r.key.length k2,tH l1 r.last.length l2,tH v1 r.value.length v2]:=by
 obtain⟨vn,vk,vl,vv,rfl,h1,h2,h3,h4⟩:=h;obtain⟨n1,n2,rfl⟩:=h1.shape;obtain⟨k1,k2,rfl⟩:=h2.shape;obtain⟨l1,l2,rfl⟩:=h3.shape;obtain⟨v1,v2,rfl⟩:=h4.shape;exact⟨n1,n2,k1,k2,l1,l2,v1,v2,rfl⟩
theorem XT.parts{w:I}{r:Rq}{x a b c d:N}(h:XT w (pN #[x,a,b,c,d]) r):x=tK sY r.kind∧Qe w a r.name∧Qe w b r.key∧Qe w c r.last∧Qe w d r.value:=by
 obtain⟨vn,vk,vl,vv,e,h1,h2,h3,h4⟩:=h;simp only[Value.agg.injEq,Array.mk.injEq,List.cons.injEq,and_true]at e;obtain⟨rfl,rfl,rfl,rfl,rfl⟩:=e;exact⟨rfl,h1,h2,h3,h4⟩
theorem uB(w:I):XT w (pN #[tK sY 0,tH H 0 0,tH H 0 0,tH H 0 0,tH H 0 0]) VR:=⟨_,_,_,_,rfl,QK w,QK w,QK w,QK w⟩
structure xN(r:Rq):Prop where kind:-9223372036854775808<=r.kind∧r.kind<=9223372036854775807name:r.name.length<=140737488355328key:r.key.length<=140737488355328last:r.last.length<=140737488355328value:r.value.length<=140737488355328
theorem xQ{r:Rq}(h:Ye r):xN r:=by
 have h0:=h.kind;have h5:=h.value;have k1:r.name.length<=8:=by by_cases e:QY r.kind=O;(·exact(h.name e).2);·rw[h.noName (by simpa using e)];simp
 have k2:r.key.length<=16:=by by_cases e:QY r.kind=O;(·exact(h.key e).2);·rw[h.noKey (by simpa using e)];simp
 have k3:r.last.length<=16:=by by_cases e:r.kind=3;(·exact(h.last e).2);·rw[h.noLast e];simp
 exact⟨by omega,by omega,by omega,by omega,by omega⟩
theorem Qs{W w:I}{b:Nat}{x y z u s:N}{t:sW}(hg:J W w H)(h:W.heap[b]?=F (tJ #[x,y,z,u,s] t)):(w.cell? ⟨b,0,H⟩=F x∧w.cell? ⟨b,1,H⟩=F y∧w.cell? ⟨b,2,H⟩=F z∧w.cell? ⟨b,3,H⟩=F u∧w.cell? ⟨b,4,H⟩=F s)∧(w.frozen? ⟨b,0,H⟩=V∧w.frozen? ⟨b,1,H⟩=V∧w.frozen? ⟨b,2,H⟩=V∧w.frozen? ⟨b,3,H⟩=V∧w.frozen? ⟨b,4,H⟩=V)∧w.heap[b]?=F (tJ #[x,y,z,u,s] t):=by
 have hb:w.heap[b]?=F (tJ #[x,y,z,u,s] t):=by rw[hg.block b (tL.1 h).1 (by simp)];exact h
 refine⟨⟨?_,?_,?_,?_,?_⟩,⟨?_,?_,?_,?_,?_⟩,hb⟩;all_goals simp[tZ,sV,hb]
theorem Ym{w:I}{b i:Nat}{cs:Array N}{t:sW}{fz:Nat×Nat}{u:N}(h:w.heap[b]?=F (tJ cs t fz)):(tG w ⟨b,i,H⟩ u).heap[b]?=F (tJ (cs.setIfInBounds i u) t fz):=by
 simp only[tG,tQ,if_true,h,sO];rfl
theorem G5{w:I}{b c i:Nat}{o:Obj}{u:N}(h:w.heap[b]?=F o)(hne:b≠c):(tG w ⟨c,i,H⟩ u).heap[b]?=F o:=by
 simp only[tG,tQ];rw[if_neg (fun e=>hne e.symm)];exact h
abbrev WJ(w:I)(b:Nat)(x y z u s:N):I:=((((tG w ⟨b,0,H⟩ x).setCell ⟨b,1,H⟩ y).setCell ⟨b,2,H⟩ z).setCell ⟨b,3,H⟩ u).setCell ⟨b,4,H⟩ s
theorem uC{w:I}{b:Nat}{x y z u s:N}{t:sW}(h:w.heap[b]?=F (tJ #[x,y,z,u,s] t))(x' y' z' u' s':N):(WJ w b x' y' z' u' s').heap[b]?=F (tJ #[x',y',z',u',s'] t):=Ym (Ym (Ym (Ym (Ym h))))
theorem qL{w W:I}{b:Nat}(hg:J w W H)(hb:w.heap.size<=b)(x y z u s:N):J w (WJ W b x y z u s) H:=Qd (Qd (Qd (Qd (Qd hg _ hb _ _) _ hb _ _) _ hb _ _) _ hb _ _) _ hb _ _
theorem Lh(W:I)(b:Nat)(x y z u s:N):J W (WJ W b x y z u s) (F b):=Qf (Qf (Qf (Qf (Qf (Qb W (F b)) _ _) _ _) _ _) _ _) _ _
abbrev VO(w:I)(b:Nat)(x y z u:N):I:=(((tG w ⟨b,0,H⟩ x).setCell ⟨b,1,H⟩ y).setCell ⟨b,2,H⟩ z).setCell ⟨b,3,H⟩ u
theorem X0{w:I}{b:Nat}{x y z u:N}{t:sW}(h:w.heap[b]?=F (tJ #[x,y,z,u] t))(x' y' z' u':N):(VO w b x' y' z' u').heap[b]?=F (tJ #[x',y',z',u'] t):=Ym (Ym (Ym (Ym h)))
theorem Z7{w W:I}{b:Nat}(hg:J w W H)(hb:w.heap.size<=b)(x y z u:N):J w (VO W b x y z u) H:=Qd (Qd (Qd (Qd hg _ hb _ _) _ hb _ _) _ hb _ _) _ hb _ _
theorem Yj(W:I)(b:Nat)(x y z u:N):J W (VO W b x y z u) (F b):=Qf (Qf (Qf (Qf (Qb W (F b)) _ _) _ _) _ _) _ _
theorem Q8.later{base:Nat}{w w':I}{v:N}{bs:List UInt8}(h:Q8 base w v bs){b:Nat}(hg:J w w' (F b))(hb:b<base):Q8 base w' v bs:=by
 refine h.grown hg (.inr fun e=>?_);have:=(h.lt b e).1;omega
def Et(i:Nat):Nat:=[0,0,3,7,11,3,0,0,3].getD i 0
def Vc(w:I):Prop:=∀i,i<9->w.cell? ⟨0,i,H⟩=F (tK rG ((Et i:Nat):Int))
theorem Vc.grown{w w':I}(h:Vc w)(hg:J w w' H):Vc w':=fun i hi=>hg.cell (h i hi) (by
 simp)
def QS(k:Int):Nat->Bool|0=>QY k|1=>QY k|2=>tI (k=3)|_=>tI (k=4)
theorem bN(k j:Nat)(hk:k<9)(hj:j<4):(bits BinOp.and rG ((Et k:Nat):Int) ((2^j:Nat):Int)!=0)=QS (k:Int) j:=(by
 decide+kernel:∀(k:Fin 9)(j:Fin 4),(bits BinOp.and rG ((Et k.1:Nat):Int) ((2^j.1:Nat):Int)!=0)=QS (k.1:Int) j.1) ⟨k,hk⟩ ⟨j,hj⟩
def qT(r:Rq):List UInt8:=if Yd r=0then JZ r else[]
def Iw:Prop:=∀(w:I)(v:N)(r:Rq),Vc w->XT w v r->xN r->rW tA 39 #[v] w fun e w'=>∃x,e=sP (pV #[x,tK sY (Yd r)])∧Qi 0 w' x (qT r)∧J w w' H
def Yr(w:I)(v:N)(r:Rd):Prop:=∃vn vk vl,v=pN #[vn,vk,pO r.wide,vl]∧Qe w vn r.name∧Qe w vk r.key∧Qe w vl r.last
theorem Yr.grown{w w':I}{v:N}{r:Rd}(h:Yr w v r)(hg:J w w' H):Yr w' v r:=by
 obtain⟨vn,vk,vl,rfl,h1,h2,h3⟩:=h;exact⟨vn,vk,vl,rfl,h1.grown hg,h2.grown hg,h3.grown hg⟩
theorem Yr.agg{w:I}{v:N}{r:Rd}(h:Yr w v r):∃na nc ka kc la lc,v=pN #[tH na r.name.length nc,tH ka r.key.length kc,pO r.wide,tH la r.last.length lc]:=by
 obtain⟨vn,vk,vl,rfl,h1,h2,h3⟩:=h;obtain⟨na,nc,rfl⟩:=h1.shape;obtain⟨ka,kc,rfl⟩:=h2.shape;obtain⟨la,lc,rfl⟩:=h3.shape;exact⟨na,nc,ka,kc,la,lc,rfl⟩
theorem Yr.parts{w:I}{r:Rd}{x y g z:N}(h:Yr w (pN #[x,y,g,z]) r):Qe w x r.name∧Qe w y r.key∧g=pO r.wide∧Qe w z r.last:=by
 obtain⟨vn,vk,vl,e,h1,h2,h3⟩:=h;simp only[Value.agg.injEq,Array.mk.injEq,List.cons.injEq,and_true]at e;obtain⟨rfl,rfl,rfl,rfl⟩:=e;exact⟨h1,h2,rfl,h3⟩
structure Pk(r:Rd):Prop where name:r.name.length<=140737488355328key:r.key.length<=140737488355328last:r.last.length<=140737488355328
structure j9 where
  bit : Int
  right : Bool
  other : List UInt8
structure Db where
  empty : Bool
  steps : List j9
  pair : Pr
def A8:j9:=⟨0,V,[]⟩
def UT:Db:=⟨V,[],([],[])⟩
instance:Inhabited j9:=⟨A8⟩
instance:Inhabited Db:=⟨UT⟩
def Uj(l:PL):Nat->Int|0=>999|1=>999|m+2=>if JE (l.getD 0 ([],[])).1 (l.getD (m+1) ([],[])).1<Uj l (m+1)then JE (l.getD 0 ([],[])).1 (l.getD (m+1) ([],[])).1 else Uj l (m+1)
def Qw(l:PL):Int:=Uj l l.length
def YV(l:PL)(b:Nat)(x:Bool):PL:=l.filter fun q=>ZS q.1 b==x
theorem Dn(l:PL)(b:Nat)(x:Bool):(YV l b x).length<=l.length:=sX _ _
theorem XX{l:PL}(h:Zy l)(b:Nat)(x:Bool):Zy (YV l b x):=⟨rC (Dn l b x) h.room,fun p hp=>h.pairs p (rY.1 hp).1,sR _ h.rises⟩
theorem Dr{l:PL}(h:Zy l)(i j:Nat)(hij:i<j)(hj:j<l.length):0<=JE (l.getD i ([],[])).1 (l.getD j ([],[])).1:=by
 have hk:=UA l h.rises i j hij hj;have h1:=(h.pairs l[i] (sF (by omega))).1;have h2:=(h.pairs l[j] (sF hj)).1;rw[show l[i]=l.getD i ([],[])by simp[show i<l.length by omega]]at h1;rw[show l[j]=l.getD j ([],[])by simp[hj]]at h2;have:=Bh (l.getD i ([],[])).1 (l.getD j ([],[])).1 h1.2 h2.2;have hne:=cW hk;by_cases hp:JE (l.getD i ([],[])).1 (l.getD j ([],[])).1<0;·exact absurd (this.1 hp) hne
 ·omega
theorem Pt{l:PL}(h:Zy l):∀m,m<=l.length->0<=Uj l m∧(2<=m->Uj l m<=144)∧Uj l m<=999|0,_=>⟨by simp[Uj],by omega,by simp[Uj]⟩|1,_=>⟨by simp[Uj],by omega,by simp[Uj]⟩|m+2,hm=>by have ih:=Pt h (m+1) (by omega);have hp:=Dr h 0 (m+1) (by omega) (by omega);have hr:=Pw (l.getD 0 ([],[])).1 (l.getD (m+1) ([],[])).1;rw[Uj];by_cases hlt:JE (l.getD 0 ([],[])).1 (l.getD (m+1) ([],[])).1<Uj l (m+1);(·rw[if_pos hlt];omega);·rw[if_neg hlt];omega
theorem Yg{l:PL}(h:Zy l)(h2:2<=l.length):0<=Qw l∧Qw l<=144:=by
 have:=Pt h l.length (sA _);exact⟨this.1,this.2.1 h2⟩
theorem Rc{l:PL}(_h:Zy l):∀m,2<=m->m<=l.length->∃j,0<j∧j<m∧Uj l m=JE (l.getD 0 ([],[])).1 (l.getD j ([],[])).1|0,h,_=>by omega|1,h,_=>by omega|m+2,_,hm=>by rw[Uj];by_cases hlt:JE (l.getD 0 ([],[])).1 (l.getD (m+1) ([],[])).1<Uj l (m+1);(·rw[if_pos hlt];exact⟨m+1,by omega,by omega,rfl⟩);·rw[if_neg hlt];by_cases h0:m=0;(·subst h0;have hr:=Pw (l.getD 0 ([],[])).1 (l.getD (0+1) ([],[])).1;simp only[Uj]at hlt;omega);·obtain⟨j,h1,h2,h3⟩:=Rc _h (m+1) (by omega) (by omega);exact⟨j,h1,by omega,h3⟩
theorem jK{l:PL}(h:Zy l)(h2:2<=l.length):∀x,(YV l (Qw l).toNat x).length<l.length:=by
 obtain⟨j,hj1,hj2,hj3⟩:=Rc h l.length h2 (sA _);have hr:=Yg h h2;have hd:ZS (l.getD 0 ([],[])).1 (Qw l).toNat≠ZS (l.getD j ([],[])).1 (Qw l).toNat:=by rcases JK (l.getD 0 ([],[])).1 (l.getD j ([],[])).1with⟨e,_⟩|⟨m,e,_,_,hd⟩;(·rw[<-hj3]at e;unfold Qw at hr;omega);·(have:(Qw l).toNat=m:=by unfold Qw;omega);rw[this];exact hd
 intro x;by_cases hlt:(YV l (Qw l).toNat x).length<l.length;·exact hlt
 ·(have he:(YV l (Qw l).toNat x).length=l.length:=by have:=Dn l (Qw l).toNat x;omega);have hall:=List.length_filter_eq_length_iff.1 he;have h0:=hall l[0] (sF (by omega));have hj:=hall l[j] (sF hj2);rw[show l[0]=l.getD 0 ([],[])by simp[show 0<l.length by omega]]at h0;rw[show l[j]=l.getD j ([],[])by simp[hj2]]at hj;simp only[beq_iff_eq]at h0 hj;exact absurd (h0.trans hj.symm) hd
def JD(l:PL)(b:Nat):Nat:=(l.takeWhile fun q=>!ZS q.1 b).length
theorem zT(l:PL):∀m j,0<j->j<m->m<=l.length->Uj l m<=JE (l.getD 0 ([],[])).1 (l.getD j ([],[])).1|0,j,_,h,_=>by omega|1,j,h0,h,_=>by omega|m+2,j,h0,h,hm=>by rw[Uj];by_cases hlt:JE (l.getD 0 ([],[])).1 (l.getD (m+1) ([],[])).1<Uj l (m+1);(·rw[if_pos hlt];by_cases e:j=m+1;(·subst e;exact oJ _);·have:=zT l (m+1) j h0 (by omega) (by omega);omega);·rw[if_neg hlt];by_cases e:j=m+1;(·subst e;omega);·exact zT l (m+1) j h0 (by omega) (by omega)
theorem vQ{l:PL}(h:Zy l)(h2:2<=l.length)(j:Nat)(hj:j<l.length)(b:Nat)(hb:b<(Qw l).toNat):ZS (l.getD 0 ([],[])).1 b=ZS (l.getD j ([],[])).1 b:=by
 by_cases h0:j=0;·subst h0;rfl
 ·have hm:=zT l l.length j (by omega) hj (sA _);have hr:=Yg h h2;rcases JK (l.getD 0 ([],[])).1 (l.getD j ([],[])).1with⟨e,hs⟩|⟨m,e,hm1,hs,_⟩;(·exact hs b (by omega));·exact hs b (by unfold Qw at hb;omega)
theorem EP{l:PL}(h:Zy l)(h2:2<=l.length)(i j:Nat)(hij:i<j)(hj:j<l.length)(hi:ZS (l.getD i ([],[])).1 (Qw l).toNat=O):ZS (l.getD j ([],[])).1 (Qw l).toNat=O:=by
 have hk:=UA l h.rises i j hij hj;have hp:=Dr h i j hij hj;rcases JK (l.getD i ([],[])).1 (l.getD j ([],[])).1with⟨e,_⟩|⟨m,e,hm,hs,hd⟩;·omega
 ·(have hge:(Qw l).toNat<=m:=by by_cases hlt:m<(Qw l).toNat;(·exact absurd ((vQ h h2 i (by omega) m hlt).symm.trans (vQ h h2 j hj m hlt)) hd);·omega);by_cases he:(Qw l).toNat=m;(·rw[he];have:=FJ _ _ m hs hd;rw[this];exact hk);·rw[<-hs _ (by omega)];exact hi
theorem EU{l:PL}(h:Zy l)(h2:2<=l.length):ZS (l.getD 0 ([],[])).1 (Qw l).toNat=V∧ZS (l.getD (l.length-1) ([],[])).1 (Qw l).toNat=O:=by
 obtain⟨j,hj1,hj2,hj3⟩:=Rc h l.length h2 (sA _);have hr:=Yg h h2;have hk:=UA l h.rises 0 j hj1 hj2;rcases JK (l.getD 0 ([],[])).1 (l.getD j ([],[])).1with⟨e,_⟩|⟨m,e,hm,hs,hd⟩;·rw[<-hj3]at e;unfold Qw at hr;omega
 ·(have em:(Qw l).toNat=m:=by unfold Qw;omega);have ho:=FJ _ _ m hs hd;(have hjt:ZS (l.getD j ([],[])).1 m=O:=by rw[ho];exact hk);refine⟨?_,?_⟩;(·rw[em];cases hx:ZS (l.getD 0 ([],[])).1 m with|false=>rfl|true=>exact absurd (hx.trans hjt.symm) hd);·by_cases hl:j=l.length-1;(·rw[<-hl,em];exact hjt);·exact EP h h2 j (l.length-1) (by omega) (by omega) (by rw[em];exact hjt)
theorem EG{l:PL}(h:Zy l)(h2:2<=l.length):JE (l.getD 0 ([],[])).1 (l.getD (l.length-1) ([],[])).1=Qw l:=by
 have hr:=Yg h h2;obtain⟨e1,e2⟩:=EU h h2;rw[MV _ _ (Qw l).toNat (by omega) (fun b hb=>vQ h h2 _ (by omega) b hb) (by rw[e1,e2];simp)];omega
theorem Sa:∀(l:PL)(b j:Nat),j<JD l b->ZS (l.getD j ([],[])).1 b=V|[],b,j,h=>by simp[JD]at h|p::r,b,j,h=>by cases hk:ZS p.1 b with|true=>simp[JD,hk]at h|false=>cases j with|zero=>simpa using hk|succ j=>have:=Sa r b j (by unfold JD at h⊢;rw[tM (p:=fun q:Pr=>!ZS q.1 b) (by simp[hk])]at h;simpa using h);simpa using this
theorem Cc:∀(l:PL)(b:Nat),JD l b<l.length->ZS (l.getD (JD l b) ([],[])).1 b=O|[],b,h=>by simp at h|p::r,b,h=>by cases hk:ZS p.1 b with|true=>simp[JD,hk]|false=>(have e:JD (p::r) b=JD r b+1:=by unfold JD;rw[tM (p:=fun q:Pr=>!ZS q.1 b) (by simp[hk])];simp);rw[e]at h⊢;have:=Cc r b (by simpa using h);simpa using this
theorem Gp{l:PL}(h:Zy l)(h2:2<=l.length)(j:Nat)(hj:j<l.length):ZS (l.getD j ([],[])).1 (Qw l).toNat=tI (JD l (Qw l).toNat<=j):=by
 by_cases hlt:j<JD l (Qw l).toNat;·rw[decide_eq_false (by omega)];exact Sa l _ j hlt
 ·rw[decide_eq_true (by omega)];have h0:=Cc l (Qw l).toNat (by omega);by_cases e:j=JD l (Qw l).toNat;(·rw[e];exact h0);·exact EP h h2 _ j (by omega) hj h0
theorem Ur{l:PL}(h:Zy l)(h2:2<=l.length):0<JD l (Qw l).toNat∧JD l (Qw l).toNat<l.length:=by
 obtain⟨e1,e2⟩:=EU h h2;rw[Gp h h2 0 (by omega)]at e1;rw[Gp h h2 _ (by omega)]at e2;simp at e1 e2;omega
theorem jV{l:PL}(h:Zy l)(h2:2<=l.length):YV l (Qw l).toNat V=l.take (JD l (Qw l).toNat):=by
 have hs:=Ur h h2;have hb:=fun j hj=>Gp h h2 j hj;generalize(Qw l).toNat=b at*;generalize JD l b=n at*;have e:l=l.take n++l.drop n:=(tE n l).symm;rw[YV];conv=>lhs;rw[e]
 rw[sI,tN.2,sJ.2,tV];·intro q hq;obtain⟨j,hj,rfl⟩:=L.1 hq;(have hjn:n+j<l.length:=by simp at hj;omega);rw[sM,show l[n+j]=l.getD (n+j) ([],[])by simp[hjn],hb _ hjn];simp
 ·intro q hq;obtain⟨j,hj,rfl⟩:=L.1 hq;(have hjn:j<n:=by simp at hj;omega);rw[sE,show l[j]'(by omega)=l.getD j ([],[])by simp[show j<l.length by omega],hb _ (by omega)];simp[hjn]
theorem Pf{l:PL}(h:Zy l)(h2:2<=l.length):YV l (Qw l).toNat O=l.drop (JD l (Qw l).toNat):=by
 have hs:=Ur h h2;have hb:=fun j hj=>Gp h h2 j hj;generalize(Qw l).toNat=b at*;generalize JD l b=n at*;have e:l=l.take n++l.drop n:=(tE n l).symm;rw[YV];conv=>lhs;rw[e]
 rw[sI,sJ.2,tN.2,pA];·intro q hq;obtain⟨j,hj,rfl⟩:=L.1 hq;(have hjn:n+j<l.length:=by simp at hj;omega);rw[sM,show l[n+j]=l.getD (n+j) ([],[])by simp[hjn],hb _ hjn];simp
 ·intro q hq;obtain⟨j,hj,rfl⟩:=L.1 hq;(have hjn:j<n:=by simp at hj;omega);rw[sE,show l[j]'(by omega)=l.getD j ([],[])by simp[show j<l.length by omega],hb _ (by omega)];simp[hjn]
def U(x:BitVec 64):Int:=(x.toNat:Int)
theorem yA(x:BitVec 64):sB 64 (U x)=x:=by
 unfold U;rw[pL];simp
theorem jN(x:BitVec 64):rD.wrap (x.toNat:Int)=U x:=by
 rw[rU];unfold U;have:=x.isLt;omega
theorem Zn(x y:BitVec 64):bits .xor .u64 (U x) (U y)=U (x^^^y):=by
 show rD.wrap ((sB 64 (U x)^^^sB 64 (U y)).toNat:Int)=_;rw[yA,yA,jN]
theorem En(x y:BitVec 64):bits .or .u64 (U x) (U y)=U (x|||y):=by
 show rD.wrap ((sB 64 (U x)|||sB 64 (U y)).toNat:Int)=_;rw[yA,yA,jN]
theorem Kn(x y:BitVec 64):bits .andNot .u64 (U x) (U y)=U (x&&&~~~y):=by
 show rD.wrap ((sB 64 (U x)&&&~~~sB 64 (U y)).toNat:Int)=_;rw[yA,yA,jN]
theorem JL(x:BitVec 64)(k:Nat):rD.wrap (U x*2^k)=U (x<<<k):=by
 rw[rU];unfold U;rw[BitVec.toNat_shiftLeft,Nat.shiftLeft_eq];have e:((x.toNat:Int)*2^k)=((x.toNat*2^k:Nat):Int):=by simp
 rw[e];omega
theorem EO(x:BitVec 64)(k:Nat):U x/2^k=U (x>>>k):=by
 unfold U;rw[BitVec.toNat_ushiftRight,Nat.shiftRight_eq_div_pow];simp
theorem e9(k:Int)(h0:0<=k)(h:k<64):bits .and .u64 k 63=k:=by
 obtain⟨n,rfl⟩:=Int.eq_ofNat_of_zero_le h0;show rD.wrap ((sB 64 (n:Int)&&&sB 64 63).toNat:Int)=_;rw[pL,BitVec.toNat_and];have h1:(BitVec.ofNat 64 n).toNat=n:=by rw[BitVec.toNat_ofNat];omega
 have h2:(sB 64 63).toNat=2^6-1:=by decide
 rw[h1,h2,Nat.and_two_pow_sub_one_eq_mod,rU];omega
def zO(x:BitVec 64)(k:Nat):BitVec 64:=(x<<<k)|||(x>>>(64-k))
section
theorem Sz(x:BitVec 64)(k:Int)(h0:0<=k)(h:k<64)(w:I):rW tA 165 #[tK .u64 (U x),tK sY k] w fun e w'=>e=sP (tK .u64 (U (zO x k.toNat)))∧w'=w:=by
 have h63:=e9 k h0 h;go_enter Tryz.func165,Tryz.ntmps165;go_wp2;go_ret;refine⟨?_,rfl⟩;rw[show(64-k).toNat=64-k.toNat by omega,JL,EO,En];rfl
def J6(st:List (BitVec 64)):Array N:=(st.map fun x=>tK .u64 (U x)).toArray
structure XV (n : Nat) (w : I) (b : Nat) (st : List (BitVec 64)) : Prop where
  len : st.length = n
  blk : ∃ t, w.heap[b]? = F (tJ (J6 st) t (0, 0))
section
variable{n:Nat}{w:I}{b:Nat}{st:List (BitVec 64)}
theorem XV.cell(h:XV n w b st)(i:Nat)(hi:i<n):w.cell? ⟨b,i,H⟩=F (tK .u64 (U (st.getD i 0))):=by
 obtain⟨t,hb⟩:=h.blk;simp[tZ,hb,J6,sS,rK (show i<st.length by have:=h.len;omega)]
theorem XV.frozen(h:XV n w b st)(i:Nat):w.frozen? ⟨b,i,H⟩=V:=by
 obtain⟨t,hb⟩:=h.blk;simp[sV,hb]
theorem XV.lt(h:XV n w b st):b<w.heap.size:=by
 obtain⟨t,hb⟩:=h.blk;exact(tL.1 hb).1
theorem MB(st:List (BitVec 64))(i:Nat)(x:BitVec 64):(J6 st).setIfInBounds i (tK .u64 (U x))=J6 (st.set i x):=by
 simp[J6]
theorem XV.set(h:XV n w b st)(i:Nat)(x:BitVec 64):XV n (tG w ⟨b,i,H⟩ (tK .u64 (U x))) b (st.set i x):=by
 obtain⟨t,hb⟩:=h.blk;refine⟨by simp[h.len],t,?_⟩;simp only[tG,tQ,if_true,hb,sO];simp[MB]
theorem XV.setOther(h:XV n w b st)(c:Nat)(hc:b≠c)(i:Nat)(v:N):XV n (tG w ⟨c,i,H⟩ v) b st:=by
 obtain⟨t,hb⟩:=h.blk;exact⟨h.len,t,by rw[Below.heap_setCell _ _ _ _ hc];exact hb⟩
theorem XV.drewN(h:XV n w b st)(k:Nat):XV n (w.drewN k) b st:=⟨h.len,h.blk⟩
theorem XV.drew(h:XV n w b st):XV n w.drew b st:=⟨h.len,h.blk⟩
theorem XV.alloc(h:XV n w b st)(o:Obj):XV n (w.alloc o) b st:=by
 obtain⟨t,hb⟩:=h.blk;exact⟨h.len,t,by rw[Below.heap_alloc _ _ _ h.lt];exact hb⟩
theorem XV.grown(h:XV n w b st){w':I}{r:Option Nat}(hg:J w w' r)(hr:F b≠r):XV n w' b st:=by
 obtain⟨t,hb⟩:=h.blk;exact⟨h.len,t,by rw[hg.block b h.lt hr];exact hb⟩
theorem XV.new(w:I)(t:sW)(st:List (BitVec 64))(hl:st.length=n):XV n (w.alloc (tJ (J6 st) t)) w.heap.size st:=⟨hl,t,rJ w _⟩
end
abbrev St:=XV 25
def Sb(st:List (BitVec 64))(n:Nat):List (BitVec 64):=let a:=st.getD n 0;let b:=st.getD (n+1) 0;let c:=st.getD (n+2) 0;let d:=st.getD (n+3) 0;let e:=st.getD (n+4) 0;((((st.set n (a^^^(c&&&~~~b))).set (n+1) (b^^^(d&&&~~~c))).set (n+2) (c^^^(e&&&~~~d))).set (n+3) (d^^^(a&&&~~~e))).set (n+4) (e^^^(b&&&~~~a))
def Vv(st:List (BitVec 64)):Nat->List (BitVec 64)|0=>st|k+1=>Sb (Vv st k) (5*k)
theorem Wt(w:I)(b:Nat)(st:List (BitVec 64))(h:St w b st):rW tA 147 #[.pointer (F ⟨b,0,H⟩)] w fun e w'=>e=sP (pV #[])∧St w' b (Vv st 5)∧J w w' (F b):=by
 go_enter Tryz.func147,Tryz.ntmps147;go_wp2;go_loopw[2](fun y wr=>∃k:Nat,k<=5∧y=tK sY ((5*k:Nat):Int)∧St wr b (Vv st k)∧J w wr (F b))(fun y _=>25-(intOf y).toNat);case atStart=>exact⟨0,by omega,rfl,h,Qb _ _⟩
 case round=>obtain⟨k,hk,rfl,hst,hg⟩:=hrel;by_cases hlt:k<5;(·generalize hn:5*k=n;have HN:Hid (5*k=n):=hn;clear hn;(have h25:n+4<25:=by have:=HN.out;omega);have hc:=hst.cell;have hf:=hst.frozen;have c0:=hc n (by omega);have c1:=hc (n+1) (by omega);have c2:=hc (n+2) (by omega);have c3:=hc (n+3) (by omega);have c4:=hc (n+4) (by omega);clear hc;generalize hS:Vv st k=S at*;have HS:Hid (Vv st k=S):=hS;clear hS;generalize hA:S.getD n 0=A at*;generalize hB:S.getD (n+1) 0=B at*;generalize hC:S.getD (n+2) 0=C at*;generalize hD:S.getD (n+3) 0=D at*;generalize hE:S.getD (n+4) 0=E at*;have HA:Hid (S.getD n 0=A):=hA;have HB:Hid (S.getD (n+1) 0=B):=hB;have HC:Hid (S.getD (n+2) 0=C):=hC;have HD:Hid (S.getD (n+3) 0=D):=hD;have HE:Hid (S.getD (n+4) 0=E):=hE;clear hA hB hC hD hE;(have i1:(n:Int)+4<25:=by omega);go_wp2;go_quiet(fail);go_wp2;go_roundw;(case rel=>refine⟨k+1,by omega,by have:=HN.out;congr 1;omega,?_,?_⟩;(·rw[Kn,Kn,Kn,Kn,Kn,Zn,Zn,Zn,Zn,Zn];(have e:Vv st (k+1)=((((S.set n (A^^^(C&&&~~~B))).set (n+1) (B^^^(D&&&~~~C))).set (n+2) (C^^^(E&&&~~~D))).set (n+3) (D^^^(A&&&~~~E))).set (n+4) (E^^^(B&&&~~~A)):=by simp only[Vv,Sb,HS.out,HN.out,HA.out,HB.out,HC.out,HD.out,HE.out]);rw[e];exact(((((hst.drewN nq).set n _).set (n+1) _).set (n+2) _).set (n+3) _).set (n+4) _);·exact Qf (Qf (Qf (Qf (Qf (Qn hg nq) n _) (n+1) _) (n+2) _) (n+3) _) (n+4) _);case measure=>simp[intOf];omega);·(obtain rfl:k=5:=by omega);go_wp2;go_end0;exact⟨rfl,hst,hg⟩
end
def AL(st:List (BitVec 64))(x:Nat):BitVec 64:=st.getD x 0^^^st.getD (x+5) 0^^^st.getD (x+10) 0^^^st.getD (x+15) 0^^^st.getD (x+20) 0
def U2(st:List (BitVec 64)):Nat->List (BitVec 64)|0=>[0,0,0,0,0]|k+1=>(U2 st k).set k (AL st k)
def Os(c:List (BitVec 64)):List (BitVec 64):=[c.getD 4 0^^^zO (c.getD 1 0) 1,c.getD 0 0^^^zO (c.getD 2 0) 1,c.getD 1 0^^^zO (c.getD 3 0) 1,c.getD 2 0^^^zO (c.getD 4 0) 1,c.getD 3 0^^^zO (c.getD 0 0) 1]
def Fn(d st:List (BitVec 64))(k:Nat):List (BitVec 64):=let y:=d.getD k 0;((((st.set k (st.getD k 0^^^y)).set (k+5) (st.getD (k+5) 0^^^y)).set (k+10) (st.getD (k+10) 0^^^y)).set (k+15) (st.getD (k+15) 0^^^y)).set (k+20) (st.getD (k+20) 0^^^y)
def yV(d st:List (BitVec 64)):Nat->List (BitVec 64)|0=>st|k+1=>Fn d (yV d st k) k
theorem Ol(w:I)(b:Nat)(st:List (BitVec 64))(h:St w b st):rW tA 145 #[.pointer (F ⟨b,0,H⟩)] w fun e w'=>e=sP (pV #[])∧St w' b (yV (Os (U2 st 5)) st 5)∧J w w' (F b):=by
 have hbn:b≠w.heap.size:=Nat.ne_of_lt h.lt;have h0:=h;go_enter Tryz.func145,Tryz.ntmps145;go_wp2_with fail;go_loopw[6](fun i wr=>∃k:Nat,k<=5∧i=tK sY (k:Int)∧St wr b st∧XV 5 wr w.heap.size (U2 st k)∧J w wr (F b))(fun i _=>5-(intOf i).toNat);case atStart=>exact⟨0,by omega,rfl,h.alloc _,XV.new w 254 [0,0,0,0,0] rfl,Qz (Qb _ _) _⟩
 case round=>obtain⟨k,hk,rfl,hst,hcl,hg⟩:=hrel;by_cases hlt:k<5;(·have c0:=hst.cell k (by omega);have c1:=hst.cell (k+5) (by omega);have c2:=hst.cell (k+10) (by omega);have c3:=hst.cell (k+15) (by omega);have c4:=hst.cell (k+20) (by omega);have d0:=hcl.cell k hlt;have hf:=hcl.frozen k;generalize hx0:st.getD k 0=x0 at*;generalize hx1:st.getD (k+5) 0=x1 at*;generalize hx2:st.getD (k+10) 0=x2 at*;generalize hx3:st.getD (k+15) 0=x3 at*;generalize hx4:st.getD (k+20) 0=x4 at*;(have HX:Hid (AL st k=x0^^^x1^^^x2^^^x3^^^x4):=by show AL st k=_;simp only[AL,hx0,hx1,hx2,hx3,hx4]);generalize hcc:U2 st k=cc at*;have HC:Hid (U2 st k=cc):=hcc;generalize hy:cc.getD k 0=y at*;clear hx0 hx1 hx2 hx3 hx4 hcc hy h;(have i1:(k:Int)+20<25:=by omega);(have i2:(k:Int)<5:=by omega);go_wp2_with fail;go_region;(all_goals go_wp2);go_roundw;(case rel=>rw[Zn,Zn,Zn,Zn];have hlt':=hst.lt;have hlt2:=hcl.lt;refine⟨k+1,by omega,by go_num,(hst.setOther _ hbn _ _).drew,?_,Qj (Qd hg _ (sA _) _ _)⟩;simp only[U2,HC.out,HX.out];exact(hcl.set k _).drew);case measure=>simp[intOf];omega);·(obtain rfl:k=5:=by omega);have e0:=hcl.cell 0 (by omega);have e1:=hcl.cell 1 (by omega);have e2:=hcl.cell 2 (by omega);have e3:=hcl.cell 3 (by omega);have e4:=hcl.cell 4 (by omega);generalize hcc:U2 st 5=cc at*;have HC:Hid (U2 st 5=cc):=hcc;generalize hx0:cc.getD 0 0=x0 at*;generalize hx1:cc.getD 1 0=x1 at*;generalize hx2:cc.getD 2 0=x2 at*;generalize hx3:cc.getD 3 0=x3 at*;generalize hx4:cc.getD 4 0=x4 at*;(have HD:Hid (Os cc=[x4^^^zO x1 1,x0^^^zO x2 1,x1^^^zO x3 1,x2^^^zO x4 1,x3^^^zO x0 1]):=by show Os cc=_;simp only[Os,hx0,hx1,hx2,hx3,hx4]);clear hcc hx0 hx1 hx2 hx3 hx4 h;have hwr:=hcl.lt;go_upto_region 6with fail;go_cut[4](fun s4 wx=>s4=.pointer (F ⟨wr.heap.size,0,H⟩)∧St wx b st∧XV 5 wx wr.heap.size (Os cc)∧J w wx (F b));(case first=>go_region_held3(fun w'=>w'.cell? ⟨w.heap.size,0,H⟩=F (tK .u64 (U x0))∧w'.cell? ⟨w.heap.size,1,H⟩=F (tK .u64 (U x1))∧w'.cell? ⟨w.heap.size,2,H⟩=F (tK .u64 (U x2))∧w'.cell? ⟨w.heap.size,3,H⟩=F (tK .u64 (U x3))∧w'.cell? ⟨w.heap.size,4,H⟩=F (tK .u64 (U x4)))(go_keep)(first|(go_at_call 165;refine(Sz _ (1:Int) (by omega) (by omega) _).mono ?_;rintro e w'⟨rfl,rfl⟩));all_goals(go_wp2_with fail;go_meet;case rel=>(rw[HD.out,Zn,Zn,Zn,Zn,Zn];exact⟨rfl,(hst.alloc _).drew,(XV.new wr 254 [x4^^^zO x1 1,x0^^^zO x2 1,x1^^^zO x3 1,x2^^^zO x4 1,x3^^^zO x0 1] rfl).drew,Qj (Qz hg _)⟩)));case rest=>obtain⟨rfl,hst2,hd2,hg2⟩:=hcut;clear e0 e1 e2 e3 e4 hst hcl hg;(have hbw:b≠wr.heap.size:=by have:=h0.lt;omega);generalize hD:Os cc=dd at*;have HDD:Hid (Os cc=dd):=hD;clear hD HD;generalize hdn:wr.heap.size=db at*;clear hdn hwr;go_wp2_with fail;go_loopw[76](fun i wr=>∃k:Nat,k<=5∧i=tK sY (k:Int)∧St wr b (yV dd st k)∧XV 5 wr db dd∧J w wr (F b))(fun i _=>5-(intOf i).toNat);(case atStart=>exact⟨0,by omega,rfl,hst2,hd2,hg2⟩);case round=>clear hst2 hd2 hg2;obtain⟨k,hk,rfl,hst,hd,hg⟩:=hrel;by_cases hlt:k<5;(·have c0:=hst.cell k (by omega);have c1:=hst.cell (k+5) (by omega);have c2:=hst.cell (k+10) (by omega);have c3:=hst.cell (k+15) (by omega);have c4:=hst.cell (k+20) (by omega);have d0:=hd.cell k hlt;have hf:=hst.frozen;generalize hS:yV dd st k=S at*;have HS:Hid (yV dd st k=S):=hS;generalize hy:dd.getD k 0=y at*;generalize hx0:S.getD k 0=x0 at*;generalize hx1:S.getD (k+5) 0=x1 at*;generalize hx2:S.getD (k+10) 0=x2 at*;generalize hx3:S.getD (k+15) 0=x3 at*;generalize hx4:S.getD (k+20) 0=x4 at*;(have HX:Hid (Fn dd S k=((((S.set k (x0^^^y)).set (k+5) (x1^^^y)).set (k+10) (x2^^^y)).set (k+15) (x3^^^y)).set (k+20) (x4^^^y)):=by show Fn dd S k=_;simp only[Fn,hy,hx0,hx1,hx2,hx3,hx4]);clear hS hy hx0 hx1 hx2 hx3 hx4;(have i1:(k:Int)+20<25:=by omega);(have i2:(k:Int)<5:=by omega);go_wp2_with fail;go_region;go_wp2_with fail;go_region;go_wp2_with fail;go_region;go_wp2_with fail;go_region;go_wp2_with fail;go_region;go_wp2_with fail;go_roundw;(case rel=>rw[Zn,Zn,Zn,Zn,Zn];refine⟨k+1,by omega,by go_num,?_,?_,?_⟩;(·simp only[yV,HS.out,HX.out];exact(((((hst.set k _).set (k+5) _).set (k+10) _).set (k+15) _).set (k+20) _).drew.drew.drew.drew.drew);(·exact(((((hd.setOther b hbw.symm k _).setOther b hbw.symm (k+5) _).setOther b hbw.symm (k+10) _).setOther b hbw.symm (k+15) _).setOther b hbw.symm (k+20) _).drew.drew.drew.drew.drew);·exact Qj (Qj (Qj (Qj (Qj (Qf (Qf (Qf (Qf (Qf hg k _) (k+5) _) (k+10) _) (k+15) _) (k+20) _))))));case measure=>simp[intOf];omega);·(obtain rfl:k=5:=by omega);go_wp2;go_end0;refine⟨rfl,?_,hg⟩;rw[HC.out,HDD.out];exact hst
def Jt:List Nat:=[10,7,11,17,18,3,5,16,8,21,24,4,15,23,19,13,12,2,20,14,22,9,6,1]
def JW:List Nat:=[1,3,6,10,15,21,28,36,45,55,2,14,27,41,56,8,25,43,62,18,39,61,20,44]
def Jv:List (BitVec 64):=[0x0000000000000001,0x0000000000008082,0x800000000000808a,0x8000000080008000,0x000000000000808b,0x0000000080000001,0x8000000080008081,0x8000000000008009,0x000000000000008a,0x0000000000000088,0x0000000080008009,0x000000008000000a,0x000000008000808b,0x800000000000008b,0x8000000000008089,0x8000000000008003,0x8000000000008002,0x8000000000000080,0x000000000000800a,0x800000008000000a,0x8000000080008081,0x8000000000008080,0x0000000080000001,0x8000000080008008]
theorem aN(k:Nat)(h:k<24):Jt.getD k 0<25:=(by
 decide:∀k:Fin 24,Jt.getD k.1 0<25) ⟨k,h⟩
theorem WN(k:Nat)(h:k<24):JW.getD k 0<64:=(by
 decide:∀k:Fin 24,JW.getD k.1 0<64) ⟨k,h⟩
structure YE(w:I):Prop where nums:∀i,i<24->w.cell? ⟨2,i,H⟩=F (tK .u64 (U (Jv.getD i 0)))walk:∀i,i<24->w.cell? ⟨3,i,H⟩=F (tK sY ((Jt.getD i 0:Nat):Int))turns:∀i,i<24->w.cell? ⟨4,i,H⟩=F (tK sY ((JW.getD i 0:Nat):Int))
theorem YE.grown{w w':I}{b:Nat}(h:YE w)(hg:J w w' (F b))(hb:5<=b):YE w':=⟨fun i hi=>hg.cell (h.nums i hi) (by
 simp;omega),fun i hi=>hg.cell (h.walk i hi) (by
 simp;omega),fun i hi=>hg.cell (h.turns i hi) (by
 simp;omega)⟩
def JQ(st:List (BitVec 64)):Nat->List (BitVec 64)×BitVec 64|0=>(st,st.getD 1 0)|k+1=>((JQ st k).1.set (Jt.getD k 0) (zO (JQ st k).2 (JW.getD k 0)),(JQ st k).1.getD (Jt.getD k 0) 0)
theorem IQ(w:I)(b:Nat)(hb:5<=b)(st:List (BitVec 64))(h:St w b st)(ht:YE w):rW tA 146 #[.pointer (F ⟨b,0,H⟩)] w fun e w'=>e=sP (pV #[])∧St w' b (JQ st 24).1∧J w w' (F b):=by
 have c1:=h.cell 1 (by omega);go_enter Tryz.func146,Tryz.ntmps146;go_wp2;go_loopw[2,10](fun m i wr=>∃k:Nat,k<=24∧i=tK sY (k:Int)∧m=tK .u64 (U (JQ st k).2)∧St wr b (JQ st k).1∧J w wr (F b))(fun _ i _=>24-(intOf i).toNat);case atStart=>exact⟨0,by omega,rfl,by simp[JQ],h,Qb _ _⟩
 case round=>obtain⟨k,hk,rfl,rfl,hst,hg⟩:=hrel;clear c1;by_cases hlt:k<24;(·have hT:=ht.grown hg hb;have hw:=aN k hlt;have hr:=WN k hlt;have t1:=hT.walk k hlt;have t2:=hT.turns k hlt;have c:=hst.cell (Jt.getD k 0) hw;have hf:=hst.frozen;generalize hS:(JQ st k).1=S at*;have HS:Hid ((JQ st k).1=S):=hS;generalize hM:(JQ st k).2=M at*;have HM:Hid ((JQ st k).2=M):=hM;generalize hW:Jt.getD k 0=W at*;have HW:Hid (Jt.getD k 0=W):=hW;generalize hR:JW.getD k 0=R at*;have HR:Hid (JW.getD k 0=R):=hR;clear hS hM hW hR;generalize hX:S.getD W 0=X at*;have HX:Hid (S.getD W 0=X):=hX;clear hX hT ht h;(have i1:(W:Int)<25:=by omega);go_wp2_with fail;go_region_with(go_at_call 165;refine(Sz M (R:Int) (by omega) (by omega) _).mono ?_;rintro e w'⟨rfl,rfl⟩);(all_goals go_wp2);go_roundw;(case rel=>refine⟨k+1,by omega,by go_num,?_,?_,Qj (Qf hg _ _)⟩;(·simp only[JQ,HS.out,HW.out,HX.out]);·simp only[JQ,HS.out,HM.out,HW.out,HR.out];exact(hst.set W _).drew);case measure=>simp[intOf];omega);·(obtain rfl:k=24:=by omega);go_wp2;go_end0;exact⟨rfl,hst,hg⟩
def CG(st:List (BitVec 64))(n:BitVec 64):List (BitVec 64):=let r:=Vv (JQ (yV (Os (U2 st 5)) st 5) 24).1 5;r.set 0 (r.getD 0 0^^^n)
theorem Wm(w:I)(b:Nat)(hb:5<=b)(st:List (BitVec 64))(n:BitVec 64)(h:St w b st)(ht:YE w):rW tA 127 #[.pointer (F ⟨b,0,H⟩),tK .u64 (U n)] w fun e w'=>e=sP (pV #[])∧St w' b (CG st n)∧J w w' (F b):=by
 go_enter Tryz.func127,Tryz.ntmps127;go_wp2_with fail;refine(Ol _ b st h).mono ?_;rintro e w1⟨rfl,h1,g1⟩;go_wp2_with fail;refine(IQ _ b hb _ h1 (ht.grown g1 hb)).mono ?_;rintro e w2⟨rfl,h2,g2⟩;go_wp2_with fail;refine(Wt _ b _ h2).mono ?_;rintro e w3⟨rfl,h3,g3⟩;have g:=Qa g1 (Qa g2 g3);clear g1 g2 g3 h1 h2 h ht;have HR:Hid (CG st n=(Vv (JQ (yV (Os (U2 st 5)) st 5) 24).1 5).set 0 ((Vv (JQ (yV (Os (U2 st 5)) st 5) 24).1 5).getD 0 0^^^n)):=rfl;generalize Vv (JQ (yV (Os (U2 st 5)) st 5) 24).1 5=S at*;have c0:=h3.cell 0 (by omega);have hf:=h3.frozen 0;generalize hx:S.getD 0 0=x at*;clear hx;go_wp2_with fail;go_region;go_wp2_with fail;go_end0;refine⟨rfl,?_,Qj (Qf g 0 _)⟩;rw[HR.out,Zn];exact(h3.set 0 _).drew
def jI{α:Type}(p:α->Bool):List α->Option Nat|[]=>H|a::l=>if p a=O then F 0 else(jI p l).map (·+1)
def ZM{α:Type}(p:α->Bool)(l:List α):Int:=match jI p l with|F i=>(i:Int)|none=>-1
theorem FF{α:Type}(p:α->Bool)(d:α):∀(l:List α)(m:Nat),m<l.length->(l.take m).any p=V->p (l.getD m d)=O->jI p l=F m|[],_,h,_,_=>by simp at h|a::l,0,_,_,h=>by have h':p a=O:=h;rw[jI,if_pos h']|a::l,m+1,h0,h1,h2=>by rw[sG,rS,rO]at h1;rw[jI,if_neg (by rw[h1.1];decide),FF p d l m (by simpa using h0) h1.2 (by simpa using h2)];rfl
theorem Py{α:Type}(p:α->Bool):∀(l:List α),l.any p=V->jI p l=H|[],_=>rfl|a::l,h=>by rw[rS,rO]at h;rw[jI,if_neg (by rw[h.1];decide),Py p l h.2];rfl
theorem G3{α:Type}(p:α->Bool)(d:α)(l:List α)(m:Nat)(h:m<l.length)(h1:(l.take m).any p=V)(h2:p (l.getD m d)=O):ZM p l=(m:Int):=by
 rw[ZM,FF p d l m h h1 h2]
theorem KQ{α:Type}(p:α->Bool)(l:List α)(h:l.any p=V):ZM p l=-1:=by
 rw[ZM,Py p l h]
theorem US{α:Type}(p:α->Bool)(d:α):∀(l:List α),l.any p=O->∃m,m<l.length∧(l.take m).any p=V∧p (l.getD m d)=O∧ZM p l=(m:Int)|[],h=>by simp at h|a::l,h=>by by_cases ha:p a=O;(·exact⟨0,by simp,by simp,ha,G3 p d (a::l) 0 (by simp) (by simp) ha⟩);·(have hf:p a=V:=by simpa using ha);rw[rS,hf,Bool.false_or]at h;obtain⟨m,h1,h2,h3,_⟩:=US p d l h;(have e1:m+1<(a::l).length:=by simp;omega);(have e2:((a::l).take (m+1)).any p=V:=by rw[sG,rS,hf,h2];rfl);(have e3:p ((a::l).getD (m+1) d)=O:=by simpa using h3);exact⟨m+1,e1,e2,e3,G3 p d _ _ e1 e2 e3⟩
theorem jW{α:Type}(p:α->Bool)(l:List α):(ZM p l==-1)=!(l.any p):=by
 cases h:l.any p with|false=>rw[KQ p l h];rfl|true=>cases l with|nil=>simp at h|cons a l=>obtain⟨m,_,_,_,e⟩:=US p a (a::l) h;rw[e];(have:((m:Int)==-1)=V:=by simp);rw[this];rfl
theorem F8{α:Type}(p:α->Bool)(l:List α):tI (0<=ZM p l)=l.any p:=by
 cases h:l.any p with|false=>rw[KQ p l h];rfl|true=>cases l with|nil=>simp at h|cons a l=>obtain⟨m,_,_,_,e⟩:=US p a (a::l) h;rw[e];simp
theorem KT(w:I)(v1 v2:N)(b1 b2:List UInt8)(h1:Qe w v1 b1)(h2:Qe w v2 b2):rW tA 57 #[v1,v2] w fun e w'=>e=sP (pO (tI (b1=b2)))∧w'=w:=by
 have c1:=FW w v1 b1 h1;have c2:=FW w v2 b2 h2;go_enter Tryz.func57,Tryz.ntmps57;go_wp2;go_ret;refine⟨?_,rfl⟩;have e:((jQ b1).toList==(jQ b2).toList)=tI (b1=b2):=by rw[Pq,Pq];by_cases h:b1=b2<;>simp[h]
 rw[<-e];rfl
theorem u7(p:Zf):QZ [] [p]=QA p:=by
 have h0:Q7 []=0:=(XY []).2 GU;rw[QZ,if_pos h0,if_neg (by simp),Xc];by_cases h:QA p=0;·have h2:=FN GU h LG (by omega);have h3:(Zq [] p).length<=1:=MC [] p;rw[if_neg (by omega)]at h2;rw[if_pos h,if_pos h2,Xc,h]
 ·rw[if_neg h]
def Fs:Prop:=∀(w:I)(a:Option pD)(n cap:Nat),rW tA 46 #[tH a n cap] w fun e w'=>e=sP (tK sY (Qp n))∧J w w' H
theorem YJ:Fs:=by
 intro w a n cap;by_cases h1:1<=n;·by_cases h2:n<=16;(·rw[Qp,if_pos ⟨h1,h2⟩];(have t1:¬(n:Int)<1:=by omega);(have t2:¬(n:Int)>16:=by omega);go_enter pP,pE;go_wp2;go_ret;exact⟨rfl,Qb _ _⟩);·rw[Qp,if_neg (by omega)];(have t1:¬(n:Int)<1:=by omega);(have t2:(n:Int)>16:=by omega);go_enter pP,pE;go_wp2;go_ret;exact⟨rfl,Qb _ _⟩
 ·rw[Qp,if_neg (by omega)];(have t1:(n:Int)<1:=by omega);go_enter pP,pE;go_wp2;go_ret;exact⟨rfl,Qb _ _⟩
def Zp(l:PL)(k:List UInt8):Nat:=(l.takeWhile fun p=>YF p.1 k).length
def Gs(l:PL)(k:List UInt8):Bool:=tI (Zp l k<l.length∧(l.getD (Zp l k) ([],[])).1=k)
def XM(l:PL)(k:List UInt8):Nat:=if Gs l k=O then Zp l k+1 else Zp l k
theorem xD(l:PL)(k:List UInt8):Zp l k<=l.length:=by
 induction l with|nil=>simp[Zp]|cons p r ih=>unfold Zp at ih⊢;rw[pT];cases h:YF p.1 k with|true=>simpa using ih|false=>simp
theorem Ik:∀(l:PL)(k:List UInt8)(i:Nat),i<=l.length->(∀j,j<i->YF (l.getD j ([],[])).1 k=O)->(i<l.length->YF (l.getD i ([],[])).1 k=V)->Zp l k=i|[],k,i,h,_,_=>by(obtain rfl:i=0:=by simpa using h);rfl|p::r,k,0,_,_,h2=>by have:=h2 (by simp);simp only[tX]at this;simp[Zp,this]|p::r,k,i+1,h,h1,h2=>by have h0:=h1 0 (by omega);simp only[tX]at h0;have:=Ik r k i (by simpa using h) (fun j hj=>by simpa using h1 (j+1) (by omega)) (fun hi=>by simpa using h2 (by simpa using hi));unfold Zp at this⊢;rw[tM (p:=fun p:Pr=>YF p.1 k) h0];simpa using this
theorem E9:∀(l:PL)(k:List UInt8)(j:Nat),j<Zp l k->YF (l.getD j ([],[])).1 k=O|[],k,j,h=>by simp[Zp]at h|p::r,k,j,h=>by cases hk:YF p.1 k with|false=>simp[Zp,hk]at h|true=>cases j with|zero=>simpa using hk|succ j=>unfold Zp at h;rw[tM (p:=fun p:Pr=>YF p.1 k) hk]at h;have:=E9 r k j (by unfold Zp;simpa using h);simpa using this
theorem Nw:∀(l:PL)(k:List UInt8),Zp l k<l.length->YF (l.getD (Zp l k) ([],[])).1 k=V|[],k,h=>by simp at h|p::r,k,h=>by cases hk:YF p.1 k with|false=>simp[Zp,hk]|true=>(have e:Zp (p::r) k=Zp r k+1:=by unfold Zp;rw[tM (p:=fun p:Pr=>YF p.1 k) hk];simp);rw[e]at h⊢;have:=Nw r k (by simpa using h);simpa using this
theorem kJ(l:PL)(k:List UInt8)(hr:Uh l)(j:Nat)(hj:j<l.length):YF (l.getD j ([],[])).1 k=tI (j<Zp l k):=by
 by_cases h:j<Zp l k;·rw[decide_eq_true h];exact E9 l k j h
 ·rw[decide_eq_false h];have h0:=Nw l k (by omega);by_cases e:j=Zp l k;(·rw[e];exact h0);·cases hk:YF (l.getD j ([],[])).1 k with|false=>rfl|true=>have:=J7 _ _ _ (UA l hr (Zp l k) j (by omega) hj) hk;rw[this]at h0;cases h0
theorem uT{l:PL}{k:List UInt8}(h:Gs l k=O):Zp l k<l.length∧(l.getD (Zp l k) ([],[])).1=k:=by
 simpa only[Gs,decide_eq_true_eq]using h
theorem xU(l:PL)(k:List UInt8):Zp l k<=XM l k∧XM l k<=l.length∧XM l k<=Zp l k+1:=by
 have:=xD l k;unfold XM;by_cases h:Gs l k=O;·rw[if_pos h];have:=(uT h).1;omega
 ·rw[if_neg h];omega
theorem Fu(l:PL)(k:List UInt8)(hr:Uh l)(j:Nat)(hj:j<l.length)(he:(l.getD j ([],[])).1=k):Gs l k=O∧j=Zp l k:=by
 have hp:Zp l k=j:=by refine Ik l k j (by omega) (fun i hi=>?_) (fun _=>?_);(·rw[<-he];exact UA l hr i j hi hj);·rw[he];exact XZ k
 refine⟨?_,hp.symm⟩;rw[Gs,hp];exact decide_eq_true ⟨hj,he⟩
theorem OK(l:PL)(k:List UInt8)(hr:Uh l):Rm l k=if Gs l k=O then F (l.getD (Zp l k) ([],[])).2 else H:=by
 by_cases h:Gs l k=O;·rw[if_pos h];obtain⟨h1,h2⟩:=uT h;refine Ie l k _ h1 (fun j hj e=>?_) h2;have:=E9 l k j hj;rw[e,XZ]at this;cases this
 ·rw[if_neg h];exact MW l k fun j hj e=>h (Fu l k hr j hj e).1
theorem Dc(l:PL)(p:Pr):J5 l p=l.take (Zp l p.1)++([p]++l.drop (XM l p.1)):=by
 rw[Su l p (Zp l p.1) (xD l p.1) (fun j hj=>E9 l p.1 j hj) (Nw l p.1)];by_cases h:Zp l p.1<l.length∧(l.getD (Zp l p.1) ([],[])).1=p.1;·rw[if_pos h,XM,if_pos (by rw[Gs];exact decide_eq_true h),rV,if_pos h.1];rfl
 ·rw[if_neg h,XM,if_neg (by rw[Gs];simpa using h)]
theorem Wz(l:PL)(p:Pr):(J5 l p).length=Zp l p.1+1+(l.length-XM l p.1):=by
 rw[Dc];have h1:=xD l p.1;simp;omega
theorem Wp(l:PL)(p:Pr)(hl:l.length<=60):(60<(J5 l p).length)↔(Zp l p.1=XM l p.1∧l.length=60):=by
 rw[Wz];have:=xU l p.1;omega
theorem Dy(l:PL)(f:Pr->Bool)(n:Nat)(hn:n<=l.length)(h1:∀j,j<n->f (l.getD j ([],[]))=V)(h2:∀j,n<=j->j<l.length->f (l.getD j ([],[]))=O):l.filter f=l.drop n:=by
 have e:l=l.take n++l.drop n:=(tE n l).symm;have ha:(l.take n).filter f=[]:=by rw[sJ];intro q hq;obtain⟨j,hj,rfl⟩:=L.1 hq;(have hjn:j<n:=by simp at hj;omega);have:=h1 j hjn;rw[sE];rw[show l[j]'(by omega)=l.getD j ([],[])by simp[show j<l.length by omega],this];simp
 have hb:(l.drop n).filter f=l.drop n:=by rw[tN];intro q hq;obtain⟨j,hj,rfl⟩:=L.1 hq;(have hjn:n+j<l.length:=by simp at hj;omega);rw[sM,show l[n+j]=l.getD (n+j) ([],[])by simp[hjn]];exact h2 _ (by omega) hjn
 conv=>lhs;rw[e]
 rw[sI,ha,hb,pA]
theorem DN(l:PL)(f:Pr->Bool)(n:Nat)(hn:n<=l.length)(h1:∀j,j<n->f (l.getD j ([],[]))=O)(h2:∀j,n<=j->j<l.length->f (l.getD j ([],[]))=V):l.filter f=l.take n:=by
 have e:l=l.take n++l.drop n:=(tE n l).symm;have hb:(l.drop n).filter f=[]:=by rw[sJ];intro q hq;obtain⟨j,hj,rfl⟩:=L.1 hq;(have hjn:n+j<l.length:=by simp at hj;omega);rw[sM,show l[n+j]=l.getD (n+j) ([],[])by simp[hjn],h2 _ (by omega) hjn];simp
 have ha:(l.take n).filter f=l.take n:=by rw[tN];intro q hq;obtain⟨j,hj,rfl⟩:=L.1 hq;(have hjn:j<n:=by simp at hj;omega);rw[sE,show l[j]'(by omega)=l.getD j ([],[])by simp[show j<l.length by omega]];exact h1 j hjn
 conv=>lhs;rw[e]
 rw[sI,ha,hb,tV]
theorem Io(l:PL)(k:List UInt8)(hr:Uh l):jJ l k=l.take (Zp l k)++l.drop (XM l k):=by
 by_cases h:Gs l k=O;·obtain⟨h1,h2⟩:=uT h;(have e:l=l.take (Zp l k)++(l.getD (Zp l k) ([],[])::l.drop (Zp l k+1)):=by(conv=>lhs;rw[<-tE (Zp l k) l,sD h1]);simp[h1]);have hne:∀j,j<l.length->j≠Zp l k->(l.getD j ([],[])).1≠k:=fun j hj hn e=>hn (Fu l k hr j hj e).2;(have ha:(l.take (Zp l k)).filter (fun q=>!(q.1==k))=l.take (Zp l k):=by rw[tN];intro q hq;obtain⟨j,hj,rfl⟩:=L.1 hq;(have hjn:j<Zp l k:=by simp at hj;omega);rw[sE,show l[j]'(by omega)=l.getD j ([],[])by simp[show j<l.length by omega]];simpa using hne j (by omega) (by omega));(have hb:(l.drop (Zp l k+1)).filter (fun q=>!(q.1==k))=l.drop (Zp l k+1):=by rw[tN];intro q hq;obtain⟨j,hj,rfl⟩:=L.1 hq;(have hjn:Zp l k+1+j<l.length:=by simp at hj;omega);rw[sM,show l[Zp l k+1+j]=l.getD (Zp l k+1+j) ([],[])by simp[hjn]];simpa using hne _ hjn (by omega));rw[XM,if_pos h,jJ];(conv=>lhs;rw[e]);rw[sI,pF (by simpa using h2),ha,hb]
 ·rw[XM,if_neg h,tE,jJ,tN];intro q hq;obtain⟨j,hj,rfl⟩:=L.1 hq;have:=fun e=>h (Fu l k hr j hj e).1;rw[show l.getD j ([],[])=l[j]by simp[hj]]at this;simpa using this
theorem PJ(l:PL)(k:List UInt8)(hr:Uh l)(j:Nat)(hj:j<l.length):YF k (l.getD j ([],[])).1=tI (XM l k<=j):=by
 have hp:=kJ l k hr j hj;have hn:=xU l k;by_cases h1:j<Zp l k;·rw[decide_eq_true h1]at hp;rw[S9 _ _ hp,decide_eq_false (by omega)]
 ·rw[decide_eq_false h1]at hp;by_cases e:(l.getD j ([],[])).1=k;(·obtain⟨h2,h3⟩:=Fu l k hr j hj e;rw[e,XZ,XM,if_pos h2,decide_eq_false (by omega)]);·rw[Uu _ _ hp e];by_cases h:Gs l k=O;(·rw[XM,if_pos h,decide_eq_true (by by_cases hjp:j=Zp l k;(·exact absurd (by rw[hjp];exact(uT h).2) e);·omega)]);·rw[XM,if_neg h,decide_eq_true (by omega)]
theorem CJ(l:PL)(f t:List UInt8)(hr:Uh l):UZ l f t=(l.take (max (Zp l f) (XM l t))).drop (Zp l f):=by
 have h1:=xD l f;have h2:=xU l t;have e:UZ l f t=(l.filter fun q=>!YF t q.1).filter fun q=>!YF q.1 f:=by rw[UZ,List.filter_filter]
 rw[e,DN l _ (XM l t) h2.2.1 (fun j hj=>by rw[PJ l t hr j (by omega),decide_eq_false (by omega)];rfl) (fun j hj hjl=>by rw[PJ l t hr j hjl,decide_eq_true hj];rfl)];have hd:∀(n:Nat),n<=l.length->(l.take n).filter (fun q=>!YF q.1 f)=(l.take n).drop (Zp l f):=by intro n hn;by_cases hc:Zp l f<=n;(·refine Dy _ _ _ (by simp;omega) (fun j hj=>?_) (fun j hj hjl=>?_);(·(have:(l.take n).getD j ([],[])=l.getD j ([],[]):=by simp[show j<n by omega]);rw[this,kJ l f hr j (by omega),decide_eq_true hj];rfl);·(have hjn:j<n:=by simp at hjl;omega);(have:(l.take n).getD j ([],[])=l.getD j ([],[]):=by simp[hjn]);rw[this,kJ l f hr j (by omega),decide_eq_false (by omega)];rfl);·rw[tW (by simp;omega),sJ];intro q hq;obtain⟨j,hj,rfl⟩:=L.1 hq;(have hjn:j<n:=by simp at hj;omega);rw[sE,show l[j]'(by omega)=l.getD j ([],[])by simp[show j<l.length by omega],kJ l f hr j (by omega),decide_eq_true (by omega)];simp
 rw[hd _ h2.2.1];by_cases hc:Zp l f<=XM l t;·rw[Nat.max_eq_right hc]
 ·rw[Nat.max_eq_left (by omega),tW (by simp;omega),tW (by simp;omega)]
theorem ET:∀(t:FL)(p:Tn)(k:Nat),k<=t.length->(∀j,j<k->YF (t.getD j ([],[])).1 p.1=O)->(k<t.length->YF (t.getD k ([],[])).1 p.1=V)->Jl t p=if k<t.length∧(t.getD k ([],[])).1=p.1then t.set k p else t.take k++([p]++t.drop k)|[],p,k,hk,_,_=>by(obtain rfl:k=0:=by simpa using hk);simp[Jl]|q::r,p,0,_,_,h2=>by have h:=h2 (by simp);simp only[tX]at h;rw[Jl,if_neg (by rw[h];simp)];by_cases e:q.1=p.1;(·rw[if_pos e,if_pos ⟨by simp,by simpa using e⟩];simp);·rw[if_neg e,if_neg (fun h=>e (by simpa using h.2))];simp|q::r,p,k+1,hk,h1,h2=>by have h:=h1 0 (by omega);simp only[tX]at h;rw[Jl,if_pos h,ET r p k (by simpa using hk) (fun j hj=>by simpa using h1 (j+1) (by omega)) (fun hk=>by simpa using h2 (by simpa using hk))];by_cases e:k<r.length∧(r.getD k ([],[])).1=p.1;(·rw[if_pos e,if_pos ⟨by simpa using e.1,by simpa using e.2⟩];simp);·rw[if_neg e,if_neg (fun h=>e ⟨by simpa using h.1,by simpa using h.2⟩)];simp
def Qx(l:FL)(k:List UInt8):Nat:=(l.takeWhile fun p=>YF p.1 k).length
def JV(l:FL)(k:List UInt8):Bool:=tI (Qx l k<l.length∧(l.getD (Qx l k) ([],[])).1=k)
def QO(l:FL)(k:List UInt8):Nat:=if JV l k=O then Qx l k+1 else Qx l k
theorem kY(l:FL)(k:List UInt8):Qx l k<=l.length:=by
 induction l with|nil=>simp[Qx]|cons p r ih=>unfold Qx at ih⊢;rw[pT];cases h:YF p.1 k with|true=>simpa using ih|false=>simp
theorem Mz:∀(l:FL)(k:List UInt8)(i:Nat),i<=l.length->(∀j,j<i->YF (l.getD j ([],[])).1 k=O)->(i<l.length->YF (l.getD i ([],[])).1 k=V)->Qx l k=i|[],k,i,h,_,_=>by(obtain rfl:i=0:=by simpa using h);rfl|p::r,k,0,_,_,h2=>by have:=h2 (by simp);simp only[tX]at this;simp[Qx,this]|p::r,k,i+1,h,h1,h2=>by have h0:=h1 0 (by omega);simp only[tX]at h0;have:=Mz r k i (by simpa using h) (fun j hj=>by simpa using h1 (j+1) (by omega)) (fun hi=>by simpa using h2 (by simpa using hi));unfold Qx at this⊢;rw[tM (p:=fun p:Tn=>YF p.1 k) h0];simpa using this
theorem kW:∀(l:FL)(k:List UInt8)(j:Nat),j<Qx l k->YF (l.getD j ([],[])).1 k=O|[],k,j,h=>by simp[Qx]at h|p::r,k,j,h=>by cases hk:YF p.1 k with|false=>simp[Qx,hk]at h|true=>cases j with|zero=>simpa using hk|succ j=>unfold Qx at h;rw[tM (p:=fun p:Tn=>YF p.1 k) hk]at h;have:=kW r k j (by unfold Qx;simpa using h);simpa using this
theorem v8:∀(l:FL)(k:List UInt8),Qx l k<l.length->YF (l.getD (Qx l k) ([],[])).1 k=V|[],k,h=>by simp at h|p::r,k,h=>by cases hk:YF p.1 k with|false=>simp[Qx,hk]|true=>(have e:Qx (p::r) k=Qx r k+1:=by unfold Qx;rw[tM (p:=fun p:Tn=>YF p.1 k) hk];simp);rw[e]at h⊢;have:=v8 r k (by simpa using h);simpa using this
theorem Lx(l:FL)(k:List UInt8)(hr:Yy l)(j:Nat)(hj:j<l.length):YF (l.getD j ([],[])).1 k=tI (j<Qx l k):=by
 by_cases h:j<Qx l k;·rw[decide_eq_true h];exact kW l k j h
 ·rw[decide_eq_false h];have h0:=v8 l k (by omega);by_cases e:j=Qx l k;(·rw[e];exact h0);·cases hk:YF (l.getD j ([],[])).1 k with|false=>rfl|true=>have:=J7 _ _ _ (G7 l hr (Qx l k) j (by omega) hj) hk;rw[this]at h0;cases h0
theorem xZ{l:FL}{k:List UInt8}(h:JV l k=O):Qx l k<l.length∧(l.getD (Qx l k) ([],[])).1=k:=by
 simpa only[JV,decide_eq_true_eq]using h
theorem vS(l:FL)(k:List UInt8):Qx l k<=QO l k∧QO l k<=l.length∧QO l k<=Qx l k+1:=by
 have:=kY l k;unfold QO;by_cases h:JV l k=O;·rw[if_pos h];have:=(xZ h).1;omega
 ·rw[if_neg h];omega
theorem Pn(l:FL)(k:List UInt8)(hr:Yy l)(j:Nat)(hj:j<l.length)(he:(l.getD j ([],[])).1=k):JV l k=O∧j=Qx l k:=by
 have hp:Qx l k=j:=by refine Mz l k j (by omega) (fun i hi=>?_) (fun _=>?_);(·rw[<-he];exact G7 l hr i j hi hj);·rw[he];exact XZ k
 refine⟨?_,hp.symm⟩;rw[JV,hp];exact decide_eq_true ⟨hj,he⟩
theorem Ly(l:FL)(k:List UInt8)(hr:Yy l):zM l k=if JV l k=O then F (l.getD (Qx l k) ([],[])).2 else H:=by
 by_cases h:JV l k=O;·rw[if_pos h];obtain⟨h1,h2⟩:=xZ h;refine DX l k _ h1 (fun j hj e=>?_) h2;have:=kW l k j hj;rw[e,XZ]at this;cases this
 ·rw[if_neg h];exact To l k fun j hj e=>h (Pn l k hr j hj e).1
theorem T0(l:FL)(p:Tn):Jl l p=l.take (Qx l p.1)++([p]++l.drop (QO l p.1)):=by
 rw[ET l p (Qx l p.1) (kY l p.1) (fun j hj=>kW l p.1 j hj) (v8 l p.1)];by_cases h:Qx l p.1<l.length∧(l.getD (Qx l p.1) ([],[])).1=p.1;·rw[if_pos h,QO,if_pos (by rw[JV];exact decide_eq_true h),rV,if_pos h.1];rfl
 ·rw[if_neg h,QO,if_neg (by rw[JV];simpa using h)]
theorem Aw(l:FL)(p:Tn):(Jl l p).length=Qx l p.1+1+(l.length-QO l p.1):=by
 rw[T0];have h1:=kY l p.1;simp;omega
theorem Te(l:FL)(p:Tn)(hl:l.length<=8):(8<(Jl l p).length)↔(Qx l p.1=QO l p.1∧l.length=8):=by
 rw[Aw];have:=vS l p.1;omega
theorem C9(l:FL)(k:List UInt8)(hr:Yy l):jS l k=l.take (Qx l k)++l.drop (QO l k):=by
 by_cases h:JV l k=O;·obtain⟨h1,h2⟩:=xZ h;(have e:l=l.take (Qx l k)++(l.getD (Qx l k) ([],[])::l.drop (Qx l k+1)):=by(conv=>lhs;rw[<-tE (Qx l k) l,sD h1]);simp[h1]);have hne:∀j,j<l.length->j≠Qx l k->(l.getD j ([],[])).1≠k:=fun j hj hn e=>hn (Pn l k hr j hj e).2;(have ha:(l.take (Qx l k)).filter (fun q=>!(q.1==k))=l.take (Qx l k):=by rw[tN];intro q hq;obtain⟨j,hj,rfl⟩:=L.1 hq;(have hjn:j<Qx l k:=by simp at hj;omega);rw[sE,show l[j]'(by omega)=l.getD j ([],[])by simp[show j<l.length by omega]];simpa using hne j (by omega) (by omega));(have hb:(l.drop (Qx l k+1)).filter (fun q=>!(q.1==k))=l.drop (Qx l k+1):=by rw[tN];intro q hq;obtain⟨j,hj,rfl⟩:=L.1 hq;(have hjn:Qx l k+1+j<l.length:=by simp at hj;omega);rw[sM,show l[Qx l k+1+j]=l.getD (Qx l k+1+j) ([],[])by simp[hjn]];simpa using hne _ hjn (by omega));rw[QO,if_pos h,jS];(conv=>lhs;rw[e]);rw[sI,pF (by simpa using h2),ha,hb]
 ·rw[QO,if_neg h,tE,jS,tN];intro q hq;obtain⟨j,hj,rfl⟩:=L.1 hq;have:=fun e=>h (Pn l k hr j hj e).1;rw[show l.getD j ([],[])=l[j]by simp[hj]]at this;simpa using this
theorem dK(l:FL)(k:List UInt8)(hr:Yy l):Jb l k=if JV l k=O then(l.getD (Qx l k) ([],[])).2 else[]:=by
 unfold Jb;rw[Ly l k hr];by_cases h:JV l k=O;·rw[if_pos h,if_pos h];rfl
 ·rw[if_neg h,if_neg h];rfl
theorem MZ(l:FL)(k:List UInt8)(hr:Yy l):((l.take (QO l k)).drop (Qx l k)=[]∧Jb l k=[]∧QO l k=Qx l k)∨(∃t,(l.take (QO l k)).drop (Qx l k)=[t]∧Jb l k=t.2∧QO l k=Qx l k+1):=by
 rw[dK l k hr];by_cases h:JV l k=O;·right;obtain⟨h1,h2⟩:=xZ h;refine⟨l.getD (Qx l k) ([],[]),?_,by rw[if_pos h],by rw[QO,if_pos h]⟩;rw[QO,if_pos h,List.take_succ_eq_append_getElem h1,r8 (by simp;omega),tW (by simp;omega),pA];simp[h1]
 ·left;refine⟨?_,by rw[if_neg h],by rw[QO,if_neg h]⟩;rw[QO,if_neg h,tW (by simp;omega)]
def OY:Prop:=∀(w:I)(a:Option pD)(n cap:Nat),rW tA 35 #[tH a n cap] w fun e w'=>e=sP (tK sY (Qt n))∧J w w' H
def SG:Prop:=∀(w:I)(v:N)(r:Rq),Vc w->XT w v r->xN r->rW tA 30 #[v] w fun e w'=>e=sP (tK sY (Yd r))∧J w w' H
end Go.Proofs.YtghhckgnmfgjeaaGreatDoor
