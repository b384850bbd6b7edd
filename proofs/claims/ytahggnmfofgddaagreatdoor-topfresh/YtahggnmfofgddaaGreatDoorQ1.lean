/-
  Texts of this proof, joined, with few blanks: Base, LineF, SlM, PartM, Keys, PlaceM, Trees, TreeF, FitsF, ForestF, RdF, WrM0, TapeF, TapeG, KTree, KPure, ForestK, ForestE, WireF, WireG, LineG, RqMem, RqBox, RqEn, RdM0, ProofM, Sides, ForkF, Bits, Lanes, Cols, Move, Round, IdxF, EqB, ApplyOne, CheckC, CheckP, PosF, FPosF, FCName, RqCk.
-/
import Derived.WalkKit
import Derived.WalkSpells
import Derived.WalkLawsBesides
import Derived.BigRegion
import Derived.Deep.QuietTactic
import Derived.BigQuiet
import Derived.Deep.RegionHeld3
import Derived.Deep.DeepCutAuto
import Derived.Lib.Strings
import Derived.Test.YtahggnmfofgddaaGreatDoorChecked
set_option maxRecDepth 100000
set_option maxHeartbeats 8000000
open Array renaming getElem?_eq_some_iff->tL,getElem?_modify->tQ,ext->oM
open BitVec renaming ofInt->sB,ofInt_natCast->pP
open Bool renaming true->N,false->V,or_eq_false_iff->rU,and_eq_true->oD,or_eq_true->oG
open Classical renaming byContradiction->sQ
open Decidable renaming decide->tI
open Go renaming World->I,Value->O,TypeId->rA,heap_alloc_new->rO,Calls->r8,Addr->pH,maxLen->oO,info_parts->oP
open Go.Ending renaming returned->sS
open Go.IntKind renaming i64->rC,u64->rI,u8->rK,wrap_u64->rY
open Go.Obj renaming cells->tJ
open Go.Op renaming bytesLess->sJ
open Go.Proofs.Tryz renaming prog->tA,underlying24->sN,ntmps41->pI,func41->pT
open Go.Value renaming slice->tH,int->tK,agg->pR,bool->pS,tuple->pZ,ownBlock->oF
open Go.Value.slice renaming injEq->rG
open Go.World renaming grownBy->J,setCell->tG,cell?->tZ,frozen?->sZ,grownBy_alloc->rV
open Int renaming toNat_natCast->rN,le_refl->oN
open List renaming mem_iff_getElem->L,length_append->T,append_assoc->tB,eq_nil_of_length_eq_zero->tD,take_append_drop->tE,takeWhile_cons_of_pos->tM,filter_eq_self->tN,mem_cons->tS,append_nil->tV,drop_eq_nil_of_le->tW,getD_cons_zero->tX,mem_cons_of_mem->tY,drop_eq_getElem_cons->sD,getElem_take->sE,getElem_mem->sH,take_succ_cons->sI,filter_append->sK,filter_eq_nil_iff->sL,getElem_drop->sP,pairwise_singleton->sU,getElem?_map->sW,length_filter_le->rB,pairwise_cons->rJ,flatMap_cons->rM,getElem?_eq_getElem->rP,take_left'->rS,drop_left'->rT,any_cons->rW,mem_cons_self->rX,set_eq_take_append_cons_drop->r7,length_cons->pA,mem_filter->pB,take_append_of_le_length->pC,drop_append_of_le_length->pD,nil_append->pE,getElem?_eq_some_iff->pF,pairwise_iff_getElem->pG,filter_cons_of_neg->pJ,take_of_length_le->pK,find?_cons_of_pos->pM,find?_cons_of_neg->pN,drop_succ_cons->pV,takeWhile_cons->pX,getElem?_take->pY,length_drop->oE,map_cons->oI,take_nil->oJ
open List.Pairwise renaming cons->tU,filter->sV,nil->rD
open Nat renaming lt_of_lt_of_le->tR,le_refl->sA,testBit_lt_two_pow->sY,pow_le_pow_right->rF,le_trans->rH,testBit_div_two_pow->pL,div_div_eq_div_mul->pQ,eq_of_testBit_eq->pU,min_eq_left->oH,sub_self->oK,mul_one->oL
open Option renaming some->F,none->H,map_some->sR
open Option.some renaming injEq->tP,inj->pO
open Prod.mk renaming injEq->sC
open UInt8 renaming ofNat->tC,lt_iff_toNat_lt->sM,toNat_ofNat'->pW,toNat_inj->oC
namespace Go.Proofs.YtahggnmfofgddaaGreatDoor
open Go.RowKit
section
theorem Qb(w:I)(r:Option Nat):J w w r:=⟨rfl,rfl,rfl,sA _,fun _ _ _=>rfl⟩
theorem Qa{w w1 w2:I}{r:Option Nat}(h:J w w1 r)(k:J w1 w2 r):J w w2 r:=⟨k.os.trans h.os,k.tape.trans h.tape,k.output.trans h.output,rH h.size k.size,fun i hi hn=>(k.block i (tR hi h.size) hn).trans (h.block i hi hn)⟩
theorem Qk{w w1:I}{r:Option Nat}(h:J w w1 r):J w w1.drew r:=⟨h.os,h.tape,h.output,h.size,h.block⟩
theorem Qs{w w1:I}{r:Option Nat}(h:J w w1 r)(n:Nat):J w (w1.drewN n) r:=⟨h.os,h.tape,h.output,h.size,h.block⟩
theorem Qg{w w1:I}{b:Nat}(h:J w w1 (F b))(i:Nat)(v:O):J w (tG w1 ⟨b,i,H⟩ v) (F b):=Qa h ⟨rfl,rfl,rfl,by
 simp[tG],fun k _ hn=>Below.heap_setCell _ _ _ _ (by
 intro e;exact hn (by rw[e]))⟩
theorem Qu{w w1:I}{r:Option Nat}(h:J w w1 r)(o:Obj):J w (w1.alloc o) r:=Qa h (rV _ _ _)
theorem JQ{w w1 w2:I}{r:Option Nat}{c:Nat}(h:J w w1 r)(hc:w.heap.size<=c)(k:J w1 w2 (F c)):J w w2 r:=⟨k.os.trans h.os,k.tape.trans h.tape,k.output.trans h.output,rH h.size k.size,fun i hi hn=>(k.block i (tR hi h.size) (by
 simp;omega)).trans (h.block i hi hn)⟩
theorem Qc{w w1:I}{r:Option Nat}(h:J w w1 r)(c:Nat)(hc:w.heap.size<=c)(i:Nat)(v:O):J w (tG w1 ⟨c,i,H⟩ v) r:=JQ h hc (Qg (Qb _ _) i v)
theorem Xp(b o n:Nat):(⟨b,o,H⟩:pH).add n=⟨b,o+n,H⟩:=by
 unfold Addr.add;split;·simp_all
 ·rfl
theorem cO(w:I):(sizeOf (tA.elem 24)).run tA w=.ok 1 w:=by
 kernel_rfl
theorem dC(W:I)(pb o len cap:Nat)(l:Int)(n:Nat)(hn:l=(n:Int))(h1:n<=len)(hc:n<cap):(Instr.slice 24 (tH (F ⟨pb,o,H⟩) len cap) (F (tK rC l)) H H).run tA W=.ok (tH (F ⟨pb,o+n,H⟩) (len-n) (cap-n)) W:=by
 subst hn;rw[run_slice_l _ _ _ _ _ (by kernel_rfl) _ _ (by omega) (by omega),cO];simp only[Result.andThen,sliced,rN,sR,oL,Xp];rw[if_neg (by omega)]
theorem Lj(W:I)(pb o len cap:Nat)(l:Int)(n:Nat)(hn:l=(n:Int))(hc:n<=cap)(h0:0<cap):(Instr.slice 24 (tH (F ⟨pb,o,H⟩) len cap) H (F (tK rC l)) H).run tA W=.ok (tH (F ⟨pb,o,H⟩) n cap) W:=by
 subst hn;rw[run_slice_h _ _ _ _ _ (by kernel_rfl) _ _ (by omega) (by omega),cO];simp only[Result.andThen,sliced,rN,sR,oL,Xp];rw[if_neg (by omega)];simp
def KU(w:I)(pb o:Nat)(bs:List UInt8):Prop:=∀i,i<bs.length->w.cell? ⟨pb,o+i,H⟩=F (tK rK ((bs.getD i 0).toNat:Int))
theorem KU.drew{w:I}{pb o:Nat}{bs:List UInt8}(h:KU w pb o bs):KU w.drew pb o bs:=h
theorem KU.grown{w w':I}{pb o:Nat}{bs:List UInt8}{r:Option Nat}(h:KU w pb o bs)(hg:J w w' r)(hr:F pb≠r):KU w' pb o bs:=fun i hi=>hg.cell (h i hi) hr
def ZX(bs:List UInt8):Array O:=(bs.map fun c=>tK rK (c.toNat:Int)).toArray
def ZL(w:I)(b:Nat)(bs:List UInt8):Prop:=∃t,w.heap[b]?=F (tJ (ZX bs) t (0,0))
section
variable{w:I}{b:Nat}{bs:List UInt8}
theorem ZL.cell(h:ZL w b bs)(i:Nat)(hi:i<bs.length):w.cell? ⟨b,i,H⟩=F (tK rK ((bs.getD i 0).toNat:Int)):=by
 obtain⟨t,hb⟩:=h;simp[tZ,hb,ZX,sW,rP hi]
theorem ZL.frozen(h:ZL w b bs)(i:Nat):w.frozen? ⟨b,i,H⟩=V:=by
 obtain⟨t,hb⟩:=h;simp[sZ,hb]
theorem ZL.lt(h:ZL w b bs):b<w.heap.size:=by
 obtain⟨t,hb⟩:=h;exact(tL.1 hb).1
theorem BD(bs:List UInt8)(i:Nat)(x:UInt8):(ZX bs).setIfInBounds i (tK rK (x.toNat:Int))=ZX (bs.set i x):=by
 simp[ZX]
theorem ZL.set(h:ZL w b bs)(i:Nat)(x:UInt8):ZL (tG w ⟨b,i,H⟩ (tK rK (x.toNat:Int))) b (bs.set i x):=by
 obtain⟨t,hb⟩:=h;refine⟨t,?_⟩;simp only[tG,tQ,if_true,hb,sR];simp[BD]
theorem ZL.drewN(h:ZL w b bs)(k:Nat):ZL (w.drewN k) b bs:=h
theorem ZL.drew(h:ZL w b bs):ZL w.drew b bs:=h
theorem ZL.alloc(h:ZL w b bs)(o:Obj):ZL (w.alloc o) b bs:=by
 have hl:=h.lt;obtain⟨t,hb⟩:=h;exact⟨t,by rw[Below.heap_alloc _ _ _ hl];exact hb⟩
theorem ZL.grown(h:ZL w b bs){w':I}{r:Option Nat}(hg:J w w' r)(hr:F b≠r):ZL w' b bs:=by
 have hl:=h.lt;obtain⟨t,hb⟩:=h;exact⟨t,by rw[hg.block b hl hr];exact hb⟩
theorem ZL.new(w:I)(t:rA)(bs:List UInt8):ZL (w.alloc (tJ (ZX bs) t)) w.heap.size bs:=⟨t,rO w _⟩
theorem ZL.at(h:ZL w b bs)(o:Nat)(cs:List UInt8)(hc:∀i,i<cs.length->o+i<bs.length∧bs.getD (o+i) 0=cs.getD i 0):KU w b o cs:=by
 intro i hi;rw[h.cell (o+i) (hc i hi).1,(hc i hi).2]
end
def Qe(w:I)(v:O)(bs:List UInt8):Prop:=∃a cap,v=tH a bs.length cap∧bs.length<=cap∧((bs=[]∧(a=H->cap=0))∨∃b o,a=F ⟨b,o,H⟩∧KU w b o bs)
theorem Qe.grown{w w':I}{v:O}{bs:List UInt8}(h:Qe w v bs)(hg:J w w' H):Qe w' v bs:=by
 obtain⟨a,cap,rfl,hc,h⟩:=h;refine⟨a,cap,rfl,hc,?_⟩;rcases h with h|⟨b,o,rfl,h⟩;·exact .inl h
 ·exact .inr ⟨b,o,rfl,h.grown hg (by simp)⟩
theorem Qe.alloc{w:I}{v:O}{bs:List UInt8}(h:Qe w v bs)(o:Obj):Qe (w.alloc o) v bs:=h.grown (rV _ _ _)
theorem Qe.drew{w:I}{v:O}{bs:List UInt8}(h:Qe w v bs):Qe w.drew v bs:=h
theorem Qe.drewN{w:I}{v:O}{bs:List UInt8}(h:Qe w v bs)(n:Nat):Qe (w.drewN n) v bs:=h
theorem ZL.slice{w:I}{b:Nat}{bs:List UInt8}(h:ZL w b bs)(cap:Nat)(hc:bs.length<=cap):Qe w (tH (F ⟨b,0,H⟩) bs.length cap) bs:=⟨_,cap,rfl,hc,.inr ⟨b,0,rfl,h.at 0 bs fun i hi=>by
 simpa using hi⟩⟩
theorem QE(w:I):Qe w (tH H 0 0) []:=⟨H,0,rfl,sA _,.inl ⟨rfl,fun _=>rfl⟩⟩
def Um(n:Nat):List UInt8:=List.replicate n 0
theorem Nr(n:Nat):(Um n).length=n:=by
 simp[Um]
theorem Sx(n:Nat):madeCells (tK rK 0).cells (n*1)=ZX (Um n):=by
 apply oM;·simp[size_madeCells,ZX,Um]
 ·intro i h1 h2;simp[madeCells,ZX,Um,Value.cells,Nat.mod_one]
theorem iB:(tA.info? 5).map (fun i=>(i.zero,i.size,i.bytes))=F (F (tK rK 0),1,1):=by
 kernel_rfl
theorem gY:(tA.info? 5).map (·.size)=F 1:=by
 kernel_rfl
theorem Sm(W:I)(c:Int)(n:Nat)(hc:c=(n:Int))(hn:n<=1000000):(Instr.makeSlice 24 (tK rC c) (tK rC c)).run tA W=.ok (tH (F ⟨W.heap.size,0,H⟩) n n) (W.alloc (tJ (ZX (Um n)) 5)):=by
 subst hc;obtain⟨i0,hi,hz0,hz1,hz2⟩:=oP iB;have h:=run_make (P:=tA) W 24 5 i0 (tK rK 0) sN hi hz0 rC rC (n:Int) (n:Int) (by omega) (oN _) (by rw[hz2];omega) (by omega);rw[h,hz1,rN,Sx]
theorem kG(bs:List UInt8):∀v∈(bs.map fun c=>tK rK (c.toNat:Int)),v.oneCell'=N:=by
 intro v hv;obtain⟨c,_,rfl⟩:=List.mem_map.1 hv;rfl
theorem Mt(w:I)(X Y:Array O)(t:rA):(w.alloc (tJ X t)).setRow w.heap.size Y=w.alloc (tJ Y t):=by
 simp only[World.setRow,World.alloc];congr 1;apply oM;·simp
 ·intro i h1 h2;simp only[Array.getElem_modify,Array.getElem_push];(have hi:i<w.heap.size+1:=by simpa using h2);split<;>split<;>first|rfl|omega|(exfalso;omega)|simp_all
theorem S5(w:I)(a:Option pH)(bs:List UInt8)(cap n m ty:Nat)(hn:bs.length<=n)(hs:Qe w (tH a bs.length cap) bs):(Builtin.copy_ #[24,24] ty #[tH (F ⟨w.heap.size,0,H⟩) n m,tH a bs.length cap]).run tA (w.alloc (tJ (ZX (Um n)) 5))=.ok (tK rC (bs.length:Int)) (w.alloc (tJ (ZX (bs++Um (n-bs.length))) 5)):=by
 obtain⟨a',cap',e,hc,h⟩:=hs.alloc (tJ (ZX (Um n)) 5);simp only[rG,true_and]at e;obtain⟨rfl,rfl⟩:=e;by_cases h0:bs=[];·subst h0;have:=run_copy_none (P:=tA) (w.alloc (tJ (ZX (Um n)) 5)) 24 24 ty 5 (F ⟨w.heap.size,0,H⟩) a n m 0 cap sN gY (by simp);simpa[goInt]using this
 ·rcases h with h|⟨b,o,rfl,h⟩;(·exact absurd h.1 h0);·have:=run_copy_row (P:=tA) (w.alloc (tJ (ZX (Um n)) 5)) 24 24 ty 5 w.heap.size 0 n m ⟨b,o,H⟩ bs.length cap (ZX (Um n)) 5 (bs.map fun c=>tK rK (c.toNat:Int)) sN gY (rO w _) (by simp only[List.length_map];exact(oH hn).symm) (by intro j v hj;rw[sW]at hj;cases hb:bs[j]?with|none=>rw[hb]at hj;simp at hj|some c=>rw[hb]at hj;simp at hj;subst hj;rw[Xp];have hlt:j<bs.length:=(pF.1 hb).1;rw[h j hlt];simp[hb]) (by simp[ZX,Um];exact hn) (kG bs);rw[this,Mt];simp[goInt,ZX,Um]
def VW(bs:List UInt8):List O:=bs.map fun c=>tK rK (c.toNat:Int)
theorem bI(bs:List UInt8):(VW bs).length=bs.length:=by
 simp[VW]
theorem Dt(a b:List UInt8):VW (a++b)=VW a++VW b:=by
 simp[VW]
theorem Br(bs:List UInt8)(j:Nat)(u:O)(h:(VW bs)[j]?=F u):j<bs.length∧u=tK rK ((bs.getD j 0).toNat:Int):=by
 rw[VW,sW]at h;cases hb:bs[j]?with|none=>rw[hb]at h;simp at h|some c=>rw[hb]at h;simp at h;exact⟨(pF.1 hb).1,by simp[hb,<-h]⟩
def Q9(base:Nat)(w:I)(v:O)(bs:List UInt8):Prop:=w.ownsRow base 5 1 v bs.length (VW bs)
theorem QU(base:Nat)(w:I):Q9 base w (tH H 0 0) []:=World.ownsRow_nil _ _ _ _
theorem Q9.grown{base:Nat}{w w':I}{v:O}{bs:List UInt8}(h:Q9 base w v bs){row:Option Nat}(hg:J w w' row)(hne:v.ownBlock=H∨v.ownBlock≠row):Q9 base w' v bs:=World.ownsRow.kept h hg hne
theorem Q9.grownNone{base:Nat}{w w':I}{v:O}{bs:List UInt8}(h:Q9 base w v bs)(hg:J w w' H):Q9 base w' v bs:=by
 refine h.grown hg ?_;cases hv:v.ownBlock with|none=>exact .inl rfl|some k=>exact .inr (by simp)
theorem Q9.alloc{base:Nat}{w:I}{v:O}{bs:List UInt8}(h:Q9 base w v bs)(o:Obj):Q9 base (w.alloc o) v bs:=World.ownsRow.alloc h o
theorem Q9.slice{base:Nat}{w:I}{v:O}{bs:List UInt8}(h:Q9 base w v bs):Qe w v bs:=by
 obtain⟨h1,h2⟩:=h;rcases h2 with⟨rfl,h0⟩|⟨g,cap,cur,rfl,hb,hg,hn,hm,hs,ht⟩;·obtain rfl:=tD h0;exact QE w
 ·refine⟨_,cap,rfl,hn,.inr ⟨g,0,rfl,?_⟩⟩;intro i hi;(have hc:cur.toList[i]?=F (tK rK ((bs.getD i 0).toNat:Int)):=by(have e:(cur.toList.take (bs.length*1))[i]?=(VW bs)[i]?:=by rw[ht]);rw[pY,if_pos (by omega)]at e;rw[e,VW,sW,rP hi];simp[hi]);simp[tZ,hg];simpa using hc
theorem Q9.lt{base:Nat}{w:I}{v:O}{bs:List UInt8}(h:Q9 base w v bs):∀k,v.ownBlock=F k->base<=k∧k<w.heap.size:=World.ownsRow.lt h
theorem Q9.shape{base:Nat}{w:I}{v:O}{bs:List UInt8}(h:Q9 base w v bs):∃a cap,v=tH a bs.length cap:=by
 obtain⟨a,cap,e,_⟩:=h.slice;exact⟨a,cap,e⟩
theorem Tr(base:Nat)(w:I)(bs:List UInt8)(hb:base<=w.heap.size)(hm:bs.length<=oO):Q9 base (w.alloc (tJ (ZX bs) 5)) (tH (F ⟨w.heap.size,0,H⟩) bs.length bs.length) bs:=⟨by
 simp[VW],.inr ⟨w.heap.size,bs.length,ZX bs,rfl,hb,rO w _,sA _,hm,by
 simp[ZX],by
 simp[ZX,VW,pK]⟩⟩
theorem Xq{w W w1:I}{v:O}{bs:List UInt8}(h:J w W H)(ho:Q9 w.heap.size W v bs)(hg:J W w1 v.ownBlock):J w w1 H:=⟨hg.os.trans h.os,hg.tape.trans h.tape,hg.output.trans h.output,rH h.size hg.size,fun i hi hn=>(hg.block i (tR hi h.size) (fun e=>by
 have:=(ho.lt i e.symm).1;omega)).trans (h.block i hi hn)⟩
theorem ME(w:I)(base ty:Nat)(v:O)(bs:List UInt8)(hown:Q9 base w v bs)(a:Option pH)(m cap:Nat)(cs:List UInt8)(hs:Qe w (tH a m cap) cs)(hbytes:bs.length+m<=140737488355328)(hbase:base<=w.heap.size):∃v' w',(Builtin.append_ #[24,24] ty #[v,tH a m cap]).run tA w=.ok v' w'∧Q9 base w' v' (bs++cs)∧J w w' v.ownBlock:=by
 obtain⟨i0,hi,hz0,hz1,hz2⟩:=oP iB;obtain⟨a',cap',e,hc,h⟩:=hs;simp only[rG]at e;obtain⟨rfl,rfl,rfl⟩:=e;have h63:bs.length+cs.length<=oO:=by unfold oO;omega
 have key:∀ad:pH,(∀j u,(VW cs)[j]?=F u->w.cell? (ad.add j)=F u)->∃v' w',(Builtin.append_ #[24,24] ty #[v,tH (F ad) cs.length cap]).run tA w=.ok v' w'∧Q9 base w' v' (bs++cs)∧J w w' v.ownBlock:=by intro ad hnews;obtain⟨v',w',hr,ho,hg,_⟩:=run_append_own (P:=tA) w base 24 ty 5 i0 (tK rK 0) 1 1 sN hi hz0 hz1 hz2 rfl (by decide) v bs.length (VW bs) hown ad cs.length cap (VW cs) (by simp[VW]) hnews (kG cs) h63 (by omega) hbase;refine⟨v',w',hr,?_,hg⟩;unfold Q9;rw[Dt,T];exact ho
 rcases h with⟨rfl,hz⟩|⟨b,o,rfl,h⟩;·cases a with|none=>obtain rfl:=hz rfl;refine⟨v,w,run_append_owned_none (P:=tA) (w:=w) base 24 ty 5 i0 1 sN hi v bs.length (VW bs) hown,?_,Qb _ _⟩;rw[tV];exact hown|some ad=>exact key ad (by simp[VW])
 ·refine key ⟨b,o,H⟩ fun j u hj=>?_;obtain⟨hlt,rfl⟩:=Br cs j u hj;rw[Xp];exact h j hlt
theorem QJ{w:I}{ops:Array Oper}{rest:List Oper}{o:Oper}{a:Act}{Q:Exit->Act->I->Prop}(hgd:o.guard=H)(s x:Operand)(ho:o.op=.call {callee:=.builtin .append,args:=#[s,x],argTypes:=#[24,24]})(base:Nat)(v:O)(bs:List UInt8)(hs:a.eval s=v)(hown:Q9 base w v bs)(xa:Option pH)(m cap:Nat)(cs:List UInt8)(hx:a.eval x=tH xa m cap)(hsl:Qe w (tH xa m cap) cs)(hbytes:bs.length+m<=140737488355328)(hbase:base<=w.heap.size)(h:∀v' w',Q9 base w' v' (bs++cs)->J w w' v.ownBlock->wpList tA ops Q rest (a.put o.dst v') w'):wpList tA ops Q (o::rest) a w:=by
 refine wpList_plain hgd fun K hK=>?_;obtain⟨v',w',hrun,ho',hg⟩:=ME w base o.type v bs hown xa m cap cs hsl hbytes hbase;unfold Oper.wp;simp[execOp,ho,resolve,invoke,builtin,hs,hx,hrun,Result.andThen];exact hK _ _ (h v' w' ho' hg)
theorem Qe.take{w:I}{a:Option pH}{m cap:Nat}{bs:List UInt8}(h:Qe w (tH a m cap) bs)(k:Nat)(hk:k<=m):Qe w (tH a k cap) (bs.take k):=by
 obtain⟨a',cap',e,hc,h⟩:=h;simp only[rG]at e;obtain⟨rfl,rfl,rfl⟩:=e;have hl:(bs.take k).length=k:=by simp;omega
 refine⟨a,cap,by rw[hl],by omega,?_⟩;rcases h with⟨rfl,hz⟩|⟨b,o,rfl,h⟩;·exact .inl ⟨by simp,hz⟩
 ·refine .inr ⟨b,o,rfl,fun i hi=>?_⟩;rw[h i (by omega)];rw[hl]at hi;simp[hi]
theorem Wx(bs:List UInt8)(s:ByteArray):((bs.map fun c=>((c.toNat:Nat):Int)).foldl (fun r n=>r.push (tC n.toNat)) s)=⟨s.data++bs.toArray⟩:=by
 induction bs generalizing s with|nil=>simp|cons c bs ih=>simp only[oI,List.foldl_cons];rw[ih];congr 1;simp[ByteArray.push]
def kY(bs:List UInt8):ByteArray:=⟨bs.toArray⟩
theorem Fn(bs:List UInt8):(kY bs).toList=bs:=by
 rw[Lib.toList_data];rfl
theorem qY(W:I)(v:O)(bs:List UInt8)(hs:Qe W v bs):(convert 24 9 v).run tA W=.ok (.string (kY bs)) W:=by
 obtain⟨a,cap,rfl,hc,h⟩:=hs;rw[run_convert_bytes_string W 24 9 5 a bs.length cap sN Tryz.underlying5 Tryz.underlying9];have key:∀ad:pH,(∀j u,(VW bs)[j]?=F u->W.cell? (ad.add j)=F u)->(Conv.bytesToString (tH (F ad) bs.length cap)).run tA W=.ok (.string (kY bs)) W:=by intro ad hcells;have hl:=run_loadCells_list (P:=tA) W ad (VW bs) hcells;rw[bI]at hl;have:=run_bytesToString (P:=tA) W ad bs.length cap (bs.map fun c=>((c.toNat:Nat):Int)) (by rw[hl];simp[VW]);rw[this,Wx];simp[kY]
 rcases h with⟨rfl,hz⟩|⟨b,o,rfl,h⟩;·cases a with|none=>simp[Conv.bytesToString,kY];rfl|some ad=>exact key ad (by simp[VW])
 ·refine key ⟨b,o,H⟩ fun j u hj=>?_;obtain⟨hlt,rfl⟩:=Br bs j u hj;rw[Xp];exact h j hlt
theorem ZL.slice32{w:I}{b:Nat}{bs:List UInt8}(h:ZL w b bs)(hl:bs.length=32):Qe w (tH (F ⟨b,0,H⟩) 32 32) bs:=by
 have:=h.slice 32 (by omega);rw[hl]at this;exact this
theorem Uf(w:I)(x:UInt8)(t:rA):Qe (w.alloc (tJ #[tK rK (x.toNat:Int)] t)) (tH (F ⟨w.heap.size,0,H⟩) 1 1) [x]:=(ZL.new w t [x]).slice 1 (by
 simp)
theorem NY(w:I)(x y:UInt8)(t:rA):Qe (w.alloc (tJ #[tK rK (x.toNat:Int),tK rK (y.toNat:Int)] t)) (tH (F ⟨w.heap.size,0,H⟩) 2 2) [x,y]:=(ZL.new w t [x,y]).slice 2 (by
 simp)
theorem KG{base base':Nat}{w:I}{v:O}{bs:List UInt8}(h:Q9 base w v bs)(hb:base'<=base):Q9 base' w v bs:=by
 refine⟨h.1,?_⟩;rcases h.2with h2|⟨g,cap,cur,h1,h2,h3⟩;·exact .inl h2
 ·exact .inr ⟨g,cap,cur,h1,rH hb h2,h3⟩
end
structure Ac where
  kind : Int
  sess : Int
  keep : Int
  data : List UInt8
def US:Ac:=⟨0,0,0,[]⟩
def Ja(a:Ac):Int:=if 1<=a.kind∧a.kind<=4then(if(a.kind=1∧¬(0<=a.sess∧a.sess<=7))∨(a.kind=3∧¬(0<=a.keep∧a.keep<=200000))then 2 else if 4000<a.data.length then 1 else if(a.kind≠1∧a.sess≠0)∨(a.kind≠3∧a.keep≠0)∨(a.kind≠1∧0<a.data.length)then 4 else 0)else 5
structure K8(a:Ac):Prop where kind:1<=a.kind∧a.kind<=4sess:a.kind=1->0<=a.sess∧a.sess<=7keep:a.kind=3->0<=a.keep∧a.keep<=200000data:a.data.length<=4000noSess:a.kind≠1->a.sess=0noKeep:a.kind≠3->a.keep=0noData:a.kind≠1->a.data=[]
theorem uO(a:Ac):Ja a=0↔K8 a:=by
 unfold Ja;by_cases h0:1<=a.kind∧a.kind<=4;·rw[if_pos h0];by_cases h1:(a.kind=1∧¬(0<=a.sess∧a.sess<=7))∨(a.kind=3∧¬(0<=a.keep∧a.keep<=200000));(·rw[if_pos h1];refine⟨fun e=>(by cases e),fun h=>?_⟩;rcases h1 with⟨h1,h2⟩|⟨h1,h2⟩;(·exact absurd (h.sess h1) h2);·exact absurd (h.keep h1) h2);·rw[if_neg h1];by_cases h2:4000<a.data.length;(·rw[if_pos h2];exact⟨fun e=>(by cases e),fun h=>by have:=h.data;omega⟩);·rw[if_neg h2];by_cases h3:(a.kind≠1∧a.sess≠0)∨(a.kind≠3∧a.keep≠0)∨(a.kind≠1∧0<a.data.length);(·rw[if_pos h3];refine⟨fun e=>(by cases e),fun h=>?_⟩;rcases h3 with⟨h3,h4⟩|⟨h3,h4⟩|⟨h3,h4⟩;(·exact absurd (h.noSess h3) h4);(·exact absurd (h.noKeep h3) h4);·rw[h.noData h3]at h4;simp at h4);·rw[if_neg h3];refine⟨fun _=>⟨h0,fun h=>?_,fun h=>?_,by omega,fun h=>?_,fun h=>?_,fun h=>?_⟩,fun _=>rfl⟩;(·exact sQ fun e=>h1 (.inl ⟨h,e⟩));(·exact sQ fun e=>h1 (.inr ⟨h,e⟩));(·exact sQ fun e=>h3 (.inl ⟨h,e⟩));(·exact sQ fun e=>h3 (.inr (.inl ⟨h,e⟩)));·refine tD ?_;have:¬0<a.data.length:=fun e=>h3 (.inr (.inr ⟨h,e⟩));omega
 ·rw[if_neg h0];exact⟨fun e=>(by cases e),fun h=>absurd h.kind h0⟩
def mK(n:Nat):UInt8:=tC (48+n)
def iT(n:Nat):List UInt8:=if n<10then[mK n]else iT (n/10)++[mK (n%10)]termination_by n decreasing_by
 omega
def mE(n:Nat):UInt8:=if n<10then tC (48+n)else tC (87+n)
def mV(bs:List UInt8):List UInt8:=bs.flatMap fun c=>[mE (c.toNat/16),mE (c.toNat%16)]
def mX:List UInt8:=[97,115,107]
def lW:List UInt8:=[115,121,110,99]
def i8:List UInt8:=[99,114,97,115,104]
def iJ:List UInt8:=[115,116,97,114,116]
def mP(a:Ac):List UInt8:=if a.kind=1then mX++32::(iT a.sess.toNat++32::mV a.data)else if a.kind=2then lW else if a.kind=3then i8++32::iT a.keep.toNat else if a.kind=4then iJ else[]
theorem ZC(w:I)(o:Obj):∃W:I,Hid (W=w.alloc o)∧J w W H∧Hid (W.heap[w.heap.size]?=F o):=⟨w.alloc o,rfl,rV _ _ _,rO w o⟩
theorem Qe.shape{w:I}{v:O}{bs:List UInt8}(h:Qe w v bs):∃a cap,v=tH a bs.length cap:=by
 obtain⟨a,cap,rfl,_⟩:=h;exact⟨a,cap,rfl⟩
theorem QK{W w:I}{b:Nat}{x y:O}{t:rA}(hg:J W w H)(h:W.heap[b]?=F (tJ #[x,y] t)):w.cell? ⟨b,0,H⟩=F x∧w.cell? ⟨b,1,H⟩=F y∧w.frozen? ⟨b,0,H⟩=V∧w.frozen? ⟨b,1,H⟩=V:=by
 have hb:w.heap[b]?=F (tJ #[x,y] t):=by rw[hg.block b (tL.1 h).1 (by simp)];exact h
 refine⟨by simp[tZ,hb],by simp[tZ,hb],by simp[sZ,hb],by simp[sZ,hb]⟩
theorem xL{W w:I}{b:Nat}{x y:O}{t:rA}(hg:J W w H)(h:W.heap[b]?=F (tJ #[x,y] t)){G:Prop}(k:w.heap[b]?=F (tJ #[x,y] t)->w.cell? ⟨b,0,H⟩=F x->w.cell? ⟨b,1,H⟩=F y->w.frozen? ⟨b,0,H⟩=V->w.frozen? ⟨b,1,H⟩=V->G):G:=by
 obtain⟨h1,h2,h3,h4⟩:=QK hg h;exact k (by rw[hg.block b (tL.1 h).1 (by simp)];exact h) h1 h2 h3 h4
theorem Qd{W w:I}{b:Nat}{o:Obj}(hg:J W w H)(h:W.heap[b]?=F o):w.heap[b]?=F o:=by
 rw[hg.block b (tL.1 h).1 (by simp)];exact h
def Qh(base:Nat)(w:I)(v:O)(bs:List UInt8):Prop:=Qe w v bs∧(bs=[]∨∃b,v.ownBlock=F b∧b<w.heap.size∧(b<base∨∃cur fz,w.heap[b]?=F (tJ cur 5 fz)))
theorem Qh.slice{base:Nat}{w:I}{v:O}{bs:List UInt8}(h:Qh base w v bs):Qe w v bs:=h.1
theorem Q9.part{base base':Nat}{w:I}{v:O}{bs:List UInt8}(h:Q9 base' w v bs):Qh base w v bs:=by
 refine⟨h.slice,?_⟩;rcases h.2with⟨rfl,h0⟩|⟨g,cap,cur,rfl,hb,hg,_⟩;·exact .inl (tD h0)
 ·exact .inr ⟨g,rfl,(tL.1 hg).1,.inr ⟨cur,_,hg⟩⟩
theorem UD{w:I}{b o:Nat}{v:O}(h:w.cell? ⟨b,o,H⟩=F v):b<w.heap.size:=by
 by_cases hb:b<w.heap.size;·exact hb
 ·simp[tZ,Array.getElem?_eq_none (Nat.le_of_not_lt hb)]at h
theorem Qe.part{w w':I}{v:O}{bs:List UInt8}(h:Qe w v bs)(hg:J w w' H)(base:Nat)(hb:w.heap.size<=base):Qh base w' v bs:=by
 refine⟨h.grown hg,?_⟩;obtain⟨a,cap,rfl,hc,h⟩:=h;rcases h with⟨rfl,_⟩|⟨b,o,rfl,h⟩;·exact .inl rfl
 ·by_cases h0:bs=[];(·exact .inl h0);·have hl:0<bs.length:=List.length_pos_iff.2 h0;have:=UD (h 0 hl);exact .inr ⟨b,rfl,tR this hg.size,.inl (by omega)⟩
theorem Qh.mono{base base':Nat}{w:I}{v:O}{bs:List UInt8}(h:Qh base w v bs)(hb:base<=base'):Qh base' w v bs:=by
 refine⟨h.1,?_⟩;rcases h.2with h|⟨b,h1,h2,h3⟩;·exact .inl h
 ·refine .inr ⟨b,h1,h2,?_⟩;rcases h3 with h3|h3;(·exact .inl (by omega));·exact .inr h3
theorem ZU{base:Nat}{w:I}{v:O}{bs:List UInt8}(h:Qh base w v bs):v.oneCell'=N:=by
 obtain⟨⟨a,cap,rfl,_⟩,_⟩:=h;rfl
theorem Qh.keptT{base:Nat}{w w':I}{v:O}{bs:List UInt8}(h:Qh base w v bs){row:Option Nat}(hg:J w w' row)(hrow:row=H∨∃g cur t fz,row=F g∧base<=g∧w.heap[g]?=F (tJ cur t fz)∧t≠5):Qh base w' v bs:=by
 obtain⟨hs,ho⟩:=h;rcases ho with rfl|⟨b,hb,hlt,hc⟩;·obtain⟨a,cap,rfl,hc,h⟩:=hs;refine⟨⟨a,cap,rfl,hc,?_⟩,.inl rfl⟩;rcases h with h|⟨b,o,rfl,h⟩;(·exact .inl h);·exact .inr ⟨b,o,rfl,fun i hi=>by simp at hi⟩
 ·(have hne:F b≠row:=by intro e;rcases hrow with rfl|⟨g,cur,t,fz,rfl,hbg,hgc,ht⟩;(·cases e);·cases e;rcases hc with hc|⟨cur2,fz2,hc⟩;(·omega);·rw[hc]at hgc;simp only[tP,Obj.cells.injEq]at hgc;exact ht hgc.2.1.symm);have hblk:=hg.block b hlt hne;refine⟨?_,.inr ⟨b,hb,tR hlt hg.size,?_⟩⟩;(·obtain⟨a,cap,rfl,hcp,h⟩:=hs;refine⟨a,cap,rfl,hcp,?_⟩;rcases h with h|⟨b',o,rfl,h⟩;(·exact .inl h);·refine .inr ⟨b',o,rfl,fun i hi=>?_⟩;simp[oF]at hb;subst hb;exact hg.cell (h i hi) (by simpa using hne));·rcases hc with hc|⟨cur,fz,hc⟩;(·exact .inl hc);·exact .inr ⟨cur,fz,by rw[hblk];exact hc⟩
def Zz(k:List UInt8)(i:Nat):Bool:=if i/9<k.length then(if i%9=0then N else(k.getD (i/9) 0).toNat.testBit (8-i%9))else V
theorem Ug(k:List UInt8)(p:Nat):Zz k (9*p)=tI (p<k.length):=by
 unfold Zz;rw[show 9*p/9=p by omega,show 9*p%9=0 by omega];by_cases h:p<k.length<;>simp[h]
theorem Uh(k:List UInt8)(p r:Nat)(hp:p<k.length)(hr:1<=r)(hr8:r<=8):Zz k (9*p+r)=(k.getD p 0).toNat.testBit (8-r):=by
 unfold Zz;rw[show(9*p+r)/9=p by omega,show(9*p+r)%9=r by omega,if_pos hp,if_neg (by omega)]
theorem Nx(k:List UInt8)(i:Nat)(h:k.length<=i/9):Zz k i=V:=by
 unfold Zz;rw[if_neg (by omega)]
theorem C8(x y:UInt8)(h:∀j,j<8->x.toNat.testBit j=y.toNat.testBit j):x=y:=by
 apply oC.1;apply pU;intro j;by_cases hj:j<8;·exact h j hj
 ·rw[sY (tR x.toNat_lt (rF (by decide) (by omega:8<=j))),sY (tR y.toNat_lt (rF (by decide) (by omega:8<=j)))]
theorem Ir(a b:List UInt8)(ha:a.length<=16)(hb:b.length<=16)(h:∀i,i<145->Zz a i=Zz b i):a=b:=by
 have hl:a.length=b.length:=by have h1:=h (9*a.length) (by omega);have h2:=h (9*b.length) (by omega);rw[Ug,Ug]at h1 h2;simp at h1 h2;omega
 apply List.ext_getElem hl;intro p h1 h2;have e:a.getD p 0=b.getD p 0:=by apply C8;intro j hj;have:=h (9*p+(8-j)) (by omega);rw[Uh a p _ h1 (by omega) (by omega),Uh b p _ h2 (by omega) (by omega),show 8-(8-j)=j by omega]at this;exact this
 simpa[h1,h2]using e
def yM(a b:List UInt8):Nat->Nat->Int|0,_=>-1|n+1,i=>if Zz a i=Zz b i then yM a b n (i+1)else(i:Int)
def JY(a b:List UInt8):Int:=yM a b 145 0
theorem Ev(a b:List UInt8)(n i:Nat):(yM a b n i=-1∧∀j,i<=j->j<i+n->Zz a j=Zz b j)∨∃m:Nat,yM a b n i=(m:Int)∧i<=m∧m<i+n∧(∀j,i<=j->j<m->Zz a j=Zz b j)∧Zz a m≠Zz b m:=by
 induction n generalizing i with|zero=>exact .inl ⟨rfl,fun j _ h=>by omega⟩|succ n ih=>unfold yM;by_cases he:Zz a i=Zz b i;(·rw[if_pos he];rcases ih (i+1)with⟨h1,h2⟩|⟨m,h1,h2,h3,h4,h5⟩;(·refine .inl ⟨h1,fun j hj hj2=>?_⟩;by_cases hji:j=i;(·subst hji;exact he);·exact h2 j (by omega) (by omega));·refine .inr ⟨m,h1,by omega,by omega,fun j hj hj2=>?_,h5⟩;by_cases hji:j=i;(·subst hji;exact he);·exact h4 j (by omega) hj2);·rw[if_neg he];exact .inr ⟨i,rfl,sA _,by omega,fun j h1 h2=>by omega,he⟩
theorem J7(a b:List UInt8):(JY a b=-1∧∀j,j<145->Zz a j=Zz b j)∨∃m:Nat,JY a b=(m:Int)∧m<145∧(∀j,j<m->Zz a j=Zz b j)∧Zz a m≠Zz b m:=by
 rcases Ev a b 145 0with⟨h1,h2⟩|⟨m,h1,_,h3,h4,h5⟩;·exact .inl ⟨h1,fun j hj=>h2 j (by omega) (by omega)⟩
 ·exact .inr ⟨m,h1,by omega,fun j hj=>h4 j (by omega) hj,h5⟩
theorem D6(a b:List UInt8)(m:Nat)(hm:m<145)(h:∀j,j<m->Zz a j=Zz b j)(hd:Zz a m≠Zz b m):JY a b=(m:Int):=by
 rcases J7 a b with⟨_,h2⟩|⟨m',h1,h2,h3,h4⟩;·exact absurd (h2 m hm) hd
 ·by_cases hlt:m'<m;(·exact absurd (h m' hlt) h4);·by_cases hgt:m<m';(·exact absurd (h3 m hgt) hd);·rw[h1];omega
theorem Rh(a b:List UInt8)(h:∀j,j<145->Zz a j=Zz b j):JY a b=-1:=by
 rcases J7 a b with⟨h1,_⟩|⟨m',_,h2,_,h4⟩;·exact h1
 ·exact absurd (h m' h2) h4
theorem Ft(a b:List UInt8):-1<=JY a b∧JY a b<=144:=by
 rcases J7 a b with⟨h,_⟩|⟨m,h,hm,_⟩<;>omega
theorem AQ(a b:List UInt8)(ha:a.length<=16)(hb:b.length<=16):JY a b<0↔a=b:=by
 constructor;·intro h;rcases J7 a b with⟨_,h2⟩|⟨m,h1,_⟩;(·exact Ir a b ha hb h2);·omega
 ·rintro rfl;rw[Rh a a fun _ _=>rfl];decide
theorem PX(x y:UInt8)(a b:List UInt8):sJ (x::a) (y::b)=(tI (x<y)||(x==y&&sJ a b)):=by
 simp[sJ]
theorem N6:∀(p:Nat)(a b:List UInt8),(∀i,i<p->i<a.length∧i<b.length∧a.getD i 0=b.getD i 0)->sJ a b=sJ (a.drop p) (b.drop p)|0,a,b,_=>by simp|p+1,[],b,h=>by have:=(h 0 (by omega)).1;simp at this|p+1,x::a,[],h=>by have:=(h 0 (by omega)).2.1;simp at this|p+1,x::a,y::b,h=>by have h0:=(h 0 (by omega)).2.2;simp at h0;subst h0;rw[PX,pV,pV,<-N6 p a b fun i hi=>by have:=h (i+1) (by omega);simp at this;simpa using this];simp
theorem Ct(a:List UInt8):sJ a []=V:=by
 cases a<;>rfl
theorem Fi(a:List UInt8)(p:Nat)(h:p<a.length):a.drop p=a.getD p 0::a.drop (p+1):=by
 rw[sD h];simp[h]
theorem Nd(x y j:Nat)(hx:x.testBit j=V)(hy:y.testBit j=N)(h:∀i,j<i->x.testBit i=y.testBit i):x<y:=by
 have hq:x/2^(j+1)=y/2^(j+1):=by apply pU;intro i;rw[pL,pL];exact h _ (by omega)
 rw[Nat.testBit_eq_decide_div_mod_eq]at hx hy;simp at hx hy;rw[Nat.pow_succ,<-pQ,<-pQ]at hq;exact Nat.lt_of_div_lt_div (c:=2^j) (by omega)
theorem I1(x y:UInt8)(j:Nat)(hd:x.toNat.testBit j≠y.toNat.testBit j)(h:∀i,j<i->x.toNat.testBit i=y.toNat.testBit i):(tI (x<y)||(x==y&&V))=y.toNat.testBit j:=by
 cases hy:y.toNat.testBit j with|true=>(have hx:x.toNat.testBit j=V:=by cases hx:x.toNat.testBit j with|true=>exact absurd (hx.trans hy.symm) hd|false=>rfl);have:=Nd _ _ j hx hy h;simp[sM,this]|false=>(have hx:x.toNat.testBit j=N:=by cases hx:x.toNat.testBit j with|true=>rfl|false=>exact absurd (hx.trans hy.symm) hd);have:=Nd _ _ j hy hx (fun i hi=>(h i hi).symm);simp[sM];omega
theorem TI(a b:List UInt8)(m:Nat)(h:∀j,j<m->Zz a j=Zz b j)(hd:Zz a m≠Zz b m):Zz b m=sJ a b:=by
 have hone:m/9<a.length∨m/9<b.length:=by by_cases h1:m/9<a.length;(·exact .inl h1);·by_cases h2:m/9<b.length;(·exact .inr h2);·rw[Nx a m (by omega),Nx b m (by omega)]at hd;exact absurd rfl hd
 have hpre:∀i,i<m/9->i<a.length∧i<b.length∧a.getD i 0=b.getD i 0:=by intro i hi;have hh:=h (9*i) (by omega);rw[Ug,Ug]at hh;(have hl:i<a.length∧i<b.length:=by simp at hh;omega);refine⟨hl.1,hl.2,C8 _ _ fun j hj=>?_⟩;have:=h (9*i+(8-j)) (by omega);rw[Uh a i _ hl.1 (by omega) (by omega),Uh b i _ hl.2 (by omega) (by omega),show 8-(8-j)=j by omega]at this;exact this
 rw[N6 (m/9) a b hpre];by_cases hr:m%9=0;·(have em:m=9*(m/9):=by omega);have ha:=Ug a (m/9);have hb:=Ug b (m/9);rw[<-em]at ha hb;by_cases hlb:m/9<b.length;(·have hla:¬m/9<a.length:=fun hla=>hd (by rw[ha,hb];simp[hla,hlb]);rw[hb,tW (by omega),Fi b _ hlb];simp[hlb,sJ]);·rw[hb,tW (show b.length<=m/9by omega),Ct];simp[hlb]
 ·have hh:=h (9*(m/9)) (by omega);rw[Ug,Ug]at hh;(have hl:m/9<a.length∧m/9<b.length:=by simp at hh;omega);(have em:m=9*(m/9)+m%9:=by omega);have ha:=Uh a (m/9) (m%9) hl.1 (by omega) (by omega);have hb:=Uh b (m/9) (m%9) hl.2 (by omega) (by omega);rw[<-em]at ha hb;rw[Fi a _ hl.1,Fi b _ hl.2,PX,hb];rw[ha,hb]at hd;(have hne:(a.getD (m/9) 0==b.getD (m/9) 0)=V:=by rw[beq_eq_false_iff_ne];intro e;rw[e]at hd;exact hd rfl);rw[hne,Bool.false_and];have:=I1 (a.getD (m/9) 0) (b.getD (m/9) 0) (8-m%9) hd (fun i hi=>by by_cases hi8:i<8;(·have:=h (9*(m/9)+(8-i)) (by omega);rw[Uh a _ _ hl.1 (by omega) (by omega),Uh b _ _ hl.2 (by omega) (by omega),show 8-(8-i)=i by omega]at this;exact this);·rw[sY (tR (a.getD (m/9) 0).toNat_lt (rF (by decide) (by omega:8<=i))),sY (tR (b.getD (m/9) 0).toNat_lt (rF (by decide) (by omega:8<=i)))]);rw[Bool.and_false]at this;exact this.symm
def Qn(n:Nat):Int:=if 1<=n∧n<=16then 0 else 1
def vK(k:List UInt8)(i:Int):Bool×Int:=if 1<=k.length∧k.length<=16then(if 0<=i∧i<=144then(Zz k i.toNat,0)else(V,2))else(V,1)
def Tu(a b:List UInt8):Int×Int:=if 1<=a.length∧a.length<=16then(if 1<=b.length∧b.length<=16then(JY a b,0)else(0,1))else(0,1)
theorem eP(k:List UInt8)(i:Nat)(hk:1<=k.length∧k.length<=16)(hi:i<145):vK k (i:Int)=(Zz k i,0):=by
 rw[vK,if_pos hk,if_pos (by omega)];rfl
theorem aQ(a b:List UInt8)(ha:1<=a.length∧a.length<=16)(hb:1<=b.length∧b.length<=16):Tu a b=(JY a b,0):=by
 rw[Tu,if_pos ha,if_pos hb]
structure Zi where
  name : List UInt8
  key : List UInt8
  value : List UInt8
  gone : Bool
def Y0(p:Zi):Prop:=p.name.length<=140737488355328∧p.key.length<=140737488355328∧p.value.length<=140737488355328
def Qr:Zi:=⟨[],[],[],V⟩
theorem Qi{W w:I}{b:Nat}{x y z u:O}{t:rA}(hg:J W w H)(h:W.heap[b]?=F (tJ #[x,y,z,u] t)):(w.cell? ⟨b,0,H⟩=F x∧w.cell? ⟨b,1,H⟩=F y∧w.cell? ⟨b,2,H⟩=F z∧w.cell? ⟨b,3,H⟩=F u)∧w.frozen? ⟨b,0,H⟩=V∧w.frozen? ⟨b,1,H⟩=V∧w.frozen? ⟨b,2,H⟩=V∧w.frozen? ⟨b,3,H⟩=V∧w.heap[b]?=F (tJ #[x,y,z,u] t):=by
 have hb:w.heap[b]?=F (tJ #[x,y,z,u] t):=by rw[hg.block b (tL.1 h).1 (by simp)];exact h
 refine⟨⟨?_,?_,?_,?_⟩,?_,?_,?_,?_,hb⟩;all_goals simp[tZ,sZ,hb]
theorem JG{w:I}{b:Nat}{x y z u:O}{t:rA}(h:w.heap[b]?=F (tJ #[x,y,z,u] t))(x' y' z' u':O):((((tG w ⟨b,0,H⟩ x').setCell ⟨b,1,H⟩ y').setCell ⟨b,2,H⟩ z').setCell ⟨b,3,H⟩ u').heap[b]?=F (tJ #[x',y',z',u'] t)∧(tG w ⟨b,0,H⟩ x').cell? ⟨b,0,H⟩=F x'∧((tG w ⟨b,0,H⟩ x').setCell ⟨b,1,H⟩ y').cell? ⟨b,1,H⟩=F y'∧(((tG w ⟨b,0,H⟩ x').setCell ⟨b,1,H⟩ y').setCell ⟨b,2,H⟩ z').cell? ⟨b,2,H⟩=F z'∧((((tG w ⟨b,0,H⟩ x').setCell ⟨b,1,H⟩ y').setCell ⟨b,2,H⟩ z').setCell ⟨b,3,H⟩ u').cell? ⟨b,3,H⟩=F u':=by
 have h0:(tG w ⟨b,0,H⟩ x').heap[b]?=F (tJ #[x',y,z,u] t):=by simp only[tG,tQ,if_true,h,sR];first|rfl|simp
 have h1:((tG w ⟨b,0,H⟩ x').setCell ⟨b,1,H⟩ y').heap[b]?=F (tJ #[x',y',z,u] t):=by rw[tG,tQ,if_pos rfl,h0];first|rfl|simp
 have h2:(((tG w ⟨b,0,H⟩ x').setCell ⟨b,1,H⟩ y').setCell ⟨b,2,H⟩ z').heap[b]?=F (tJ #[x',y',z',u] t):=by rw[tG,tQ,if_pos rfl,h1];first|rfl|simp
 have h3:((((tG w ⟨b,0,H⟩ x').setCell ⟨b,1,H⟩ y').setCell ⟨b,2,H⟩ z').setCell ⟨b,3,H⟩ u').heap[b]?=F (tJ #[x',y',z',u'] t):=by rw[tG,tQ,if_pos rfl,h2];first|rfl|simp
 exact⟨h3,by simp[tZ,h0],by simp[tZ,h1],by simp[tZ,h2],by simp[tZ,h3]⟩
theorem Q9.setBlk{base:Nat}{w:I}{v:O}{bs:List UInt8}(h:Q9 base w v bs){b:Nat}{cur:Array O}{t:rA}{fz:Nat×Nat}(hb:w.heap[b]?=F (tJ cur t fz))(ht:t≠5)(i:Nat)(u:O):Q9 base (tG w ⟨b,i,H⟩ u) v bs:=by
 refine h.grown (row:=F b) (Qg (Qb _ _) i u) ?_;rcases h.2with⟨rfl,_⟩|⟨g,cap,cur2,rfl,_,hg,_⟩;·exact .inl rfl
 ·right;intro e;simp[oF]at e;subst e;rw[hg]at hb;simp at hb;exact ht hb.2.1.symm
theorem Jv{w w1:I}(h:J w w1 H)(b:Nat)(hb:w.heap.size<=b)(x y z u:O):J w ((((tG w1 ⟨b,0,H⟩ x).setCell ⟨b,1,H⟩ y).setCell ⟨b,2,H⟩ z).setCell ⟨b,3,H⟩ u) H:=Qc (Qc (Qc (Qc h _ hb _ _) _ hb _ _) _ hb _ _) _ hb _ _
abbrev Pr:=List UInt8×List UInt8
abbrev PL:=List Pr
abbrev YQ(a b:List UInt8):Bool:=sJ a b
theorem Tk(a:List UInt8):YQ a []=V:=Ct a
theorem Pi(x y:UInt8)(a b:List UInt8):YQ (x::a) (y::b)=(tI (x<y)||(x==y&&YQ a b)):=PX x y a b
theorem Ye:∀a:List UInt8,YQ a a=V|[]=>rfl|x::a=>by rw[Pi,Ye a];simp
theorem Kr:∀a b c:List UInt8,YQ a b=N->YQ b c=N->YQ a c=N|_,[],_,h,_=>by rw[Tk]at h;cases h|_,_::_,[],_,h=>by rw[Tk]at h;cases h|[],_::_,_::_,_,_=>rfl|x::a,y::b,z::c,h1,h2=>by rw[Pi]at h1 h2⊢;simp only[oG,decide_eq_true_eq,oD,beq_iff_eq,sM]at h1 h2⊢;rcases h1 with h1|⟨rfl,h1⟩;(·rcases h2 with h2|⟨rfl,h2⟩;(·left;omega);·left;exact h1);·rcases h2 with h2|⟨rfl,h2⟩;(·left;exact h2);·right;exact⟨rfl,Kr a b c h1 h2⟩
theorem UK:∀a b:List UInt8,YQ a b=V->a≠b->YQ b a=N|[],[],_,h=>absurd rfl h|[],_::_,h,_=>by cases h|_::_,[],_,_=>rfl|x::a,y::b,h1,h2=>by rw[Pi]at h1⊢;simp only[rU,decide_eq_false_iff_not,Bool.and_eq_false_iff,beq_eq_false_iff_ne,sM]at h1;simp only[oG,decide_eq_true_eq,oD,beq_iff_eq,sM];by_cases e:y=x;(·subst e;right;refine⟨rfl,UK a b ?_ (fun e=>h2 (by rw[e]))⟩;rcases h1.2with h|h;(·exact absurd rfl h);·exact h);·left;have:x.toNat≠y.toNat:=fun h=>e (oC.1 h.symm);omega
theorem Hs(a b:List UInt8)(h:YQ a b=N):YQ b a=V:=by
 cases hb:YQ b a with|false=>rfl|true=>have:=Kr a b a h hb;rw[Ye]at this;cases this
theorem Od{a b:List UInt8}(h:YQ a b=N):a≠b:=by
 rintro rfl;rw[Ye]at h;cases h
def QN(p:Pr):Int:=if 32<p.2.length then 1 else Qn p.1.length
def Xu(l:PL)(i:Nat):Int:=if QN (l.getD i ([],[]))=0then(if 0<i∧YQ (l.getD (i-1) ([],[])).1 (l.getD i ([],[])).1=V then 3 else 0)else QN (l.getD i ([],[]))
def Kk(l:PL):Nat->Nat->Int|0,_=>0|n+1,i=>if Xu l i=0then Kk l n (i+1)else Xu l i
def Qz(l:PL):Int:=if 60<l.length then 1 else Kk l l.length 0
theorem xA(l:PL)(n i:Nat)(hi:i<=n)(h:∀j,j<i->Xu l j=0):Kk l n 0=Kk l (n-i) i:=by
 induction i with|zero=>rfl|succ i ih=>rw[ih (by omega) (fun j hj=>h j (by omega)),show n-i=(n-(i+1))+1by omega,Kk,if_pos (h i (by omega))]
theorem GZ(l:PL)(i:Nat)(hi:i<l.length)(hl:l.length<=60)(h:∀j,j<i->Xu l j=0)(hf:Xu l i≠0):Qz l=Xu l i:=by
 rw[Qz,if_neg (by omega),xA l _ i (by omega) h,show l.length-i=(l.length-(i+1))+1by omega,Kk,if_neg hf]
theorem JF(l:PL)(hl:l.length<=60)(h:∀j,j<l.length->Xu l j=0):Qz l=0:=by
 rw[Qz,if_neg (by omega),xA l _ l.length (sA _) h,oK,Kk]
theorem zZ(l:PL)(hl:60<l.length):Qz l=1:=by
 rw[Qz,if_pos hl]
theorem xY(l:PL):∀(n i:Nat),Kk l n i=0->∀j,i<=j->j<i+n->Xu l j=0|0,i,_,j,h1,h2=>by omega|n+1,i,h,j,h1,h2=>by rw[Kk]at h;by_cases e:Xu l i=0;(·rw[if_pos e]at h;by_cases hj:j=i;(·subst hj;exact e);·exact xY l n (i+1) h j (by omega) (by omega));·rw[if_neg e]at h;exact absurd h e
def Uy(l:PL):Prop:=l.Pairwise fun p q=>YQ p.1 q.1=N
structure Zd(l:PL):Prop where room:l.length<=60pairs:∀p∈l,(1<=p.1.length∧p.1.length<=16)∧p.2.length<=32rises:Uy l
theorem Yq(p:Pr):QN p=0↔(1<=p.1.length∧p.1.length<=16)∧p.2.length<=32:=by
 unfold QN Qn;by_cases h:32<p.2.length;·rw[if_pos h];constructor;(·intro h;cases h);·intro h;omega
 ·rw[if_neg h];by_cases h2:1<=p.1.length∧p.1.length<=16;(·rw[if_pos h2];exact⟨fun _=>⟨h2,by omega⟩,fun _=>rfl⟩);·rw[if_neg h2];constructor;(·intro h;cases h);·intro h;exact absurd h.1 h2
theorem U9(l:PL)(i:Nat):Xu l i=0↔QN (l.getD i ([],[]))=0∧(0<i->YQ (l.getD (i-1) ([],[])).1 (l.getD i ([],[])).1=N):=by
 unfold Xu;by_cases h:QN (l.getD i ([],[]))=0;·rw[if_pos h];by_cases h2:0<i∧YQ (l.getD (i-1) ([],[])).1 (l.getD i ([],[])).1=V;(·rw[if_pos h2];constructor;(·intro h;cases h);·intro h3;have:=h3.2 h2.1;rw[h2.2]at this;cases this);·rw[if_neg h2];refine⟨fun _=>⟨h,fun hi=>?_⟩,fun _=>rfl⟩;cases hk:YQ (l.getD (i-1) ([],[])).1 (l.getD i ([],[])).1with|true=>rfl|false=>exact absurd ⟨hi,hk⟩ h2
 ·rw[if_neg h];constructor;(·intro h2;exact absurd h2 h);·intro h2;exact absurd h2.1 h
theorem xT:∀l:PL,(∀i,0<i->i<l.length->YQ (l.getD (i-1) ([],[])).1 (l.getD i ([],[])).1=N)->Uy l|[],_=>rD|[_],_=>sU _ _|p::q::r,h=>by(have ih:Uy (q::r):=xT (q::r) fun i h0 hi=>by have:=h (i+1) (by omega) (by simp at hi⊢;omega);rw[show i+1-1=(i-1)+1by omega]at this;simpa using this);(have h01:YQ p.1 q.1=N:=by have:=h 1 (by omega) (by simp);simpa using this);refine tU (fun x hx=>?_) ih;rcases tS.1 hx with rfl|hx;(·exact h01);·exact Kr _ _ _ h01 ((rJ.1 ih).1 x hx)
theorem K3(l:PL)(h:Uy l)(i j:Nat)(hij:i<j)(hj:j<l.length):YQ (l.getD i ([],[])).1 (l.getD j ([],[])).1=N:=by
 have:=pG.1 h i j (by omega) hj hij;simpa[hj,show i<l.length by omega]using this
theorem Yh(l:PL):Qz l=0↔Zd l:=by
 constructor;·intro h;(have hl:l.length<=60:=by by_cases hl:60<l.length;(·rw[zZ l hl]at h;cases h);·omega);rw[Qz,if_neg (by omega)]at h;have ha:=fun j(hj:j<l.length)=>(U9 l j).1 (xY l l.length 0 h j (by omega) (by omega));refine⟨hl,fun p hp=>?_,xT l fun i h0 hi=>(ha i hi).2 h0⟩;obtain⟨i,hi,rfl⟩:=L.1 hp;have:=(Yq _).1 (ha i hi).1;simpa[hi]using this
 ·intro h;refine JF l h.room fun j hj=>(U9 l j).2 ⟨(Yq _).2 ?_,fun h0=>K3 l h.rises _ _ (by omega) hj⟩;have:=h.pairs l[j] (sH hj);simpa[hj]using this
theorem C4:Zd []:=⟨by
 simp,by
 simp,rD⟩
def Ut(l:PL)(k:List UInt8):Option (List UInt8):=(l.find? fun p=>p.1==k).map (·.2)
theorem fM(k:List UInt8):Ut [] k=H:=rfl
theorem Pj(p:Pr)(l:PL)(k:List UInt8):Ut (p::l) k=if p.1=k then F p.2 else Ut l k:=by
 unfold Ut;by_cases h:p.1=k;·rw[pM (by simpa using h),if_pos h];rfl
 ·rw[pN (by simpa using h),if_neg h]
theorem AT:∀(l:PL)(k:List UInt8)(i:Nat),i<l.length->(∀j,j<i->(l.getD j ([],[])).1≠k)->(l.getD i ([],[])).1=k->Ut l k=F (l.getD i ([],[])).2|[],_,_,h,_,_=>by simp at h|p::l,k,0,_,_,h2=>by rw[Pj,if_pos (by simpa using h2)];simp|p::l,k,i+1,h,h1,h2=>by rw[Pj,if_neg (by simpa using h1 0 (by omega))];have:=AT l k i (by simpa using h) (fun j hj=>by simpa using h1 (j+1) (by omega)) (by simpa using h2);simpa using this
theorem Rg:∀(l:PL)(k:List UInt8),(∀j,j<l.length->(l.getD j ([],[])).1≠k)->Ut l k=H|[],_,_=>rfl|p::l,k,h=>by rw[Pj,if_neg (by simpa using h 0 (by simp))];exact Rg l k fun j hj=>by simpa using h (j+1) (by simpa using hj)
def Kn:PL->Pr->PL|[],p=>[p]|q::r,p=>if YQ q.1 p.1=N then q::Kn r p else if q.1=p.1then p::r else p::q::r
def kT(l:PL)(k:List UInt8):PL:=l.filter fun q=>!(q.1==k)
def Vm(l:PL)(a b:List UInt8):PL:=l.filter fun q=>!YQ q.1 a&&!YQ b q.1
theorem MJ(l:PL)(p x:Pr):x∈Kn l p->x=p∨x∈l:=by
 induction l with|nil=>intro h;simp[Kn]at h;exact .inl h|cons q r ih=>intro h;rw[Kn]at h;by_cases h1:YQ q.1 p.1=N;(·rw[if_pos h1]at h;rcases tS.1 h with rfl|h;(·exact .inr (by simp));·rcases ih h with h|h;(·exact .inl h);·exact .inr (tY _ h));·rw[if_neg h1]at h;by_cases h2:q.1=p.1;(·rw[if_pos h2]at h;rcases tS.1 h with h|h;(·exact .inl h);·exact .inr (tY _ h));·rw[if_neg h2]at h;rcases tS.1 h with h|h;(·exact .inl h);·exact .inr h
theorem Px(l:PL)(p:Pr)(h:Uy l):Uy (Kn l p):=by
 induction l with|nil=>exact sU _ _|cons q r ih=>have hr:=rJ.1 h;rw[Kn];by_cases h1:YQ q.1 p.1=N;(·rw[if_pos h1];refine tU (fun x hx=>?_) (ih hr.2);rcases MJ r p x hx with rfl|hx;(·exact h1);·exact hr.1 x hx);·rw[if_neg h1];by_cases h2:q.1=p.1;(·rw[if_pos h2];exact tU (fun x hx=>by rw[<-h2];exact hr.1 x hx) hr.2);·rw[if_neg h2];have hpq:=UK _ _ (by simpa using h1) h2;refine tU (fun x hx=>?_) h;rcases tS.1 hx with rfl|hx;(·exact hpq);·exact Kr _ _ _ hpq (hr.1 x hx)
theorem NS(l:PL)(k:List UInt8)(h:Uy l):Uy (kT l k):=sV _ h
theorem Bp(l:PL)(a b:List UInt8)(h:Uy l):Uy (Vm l a b):=sV _ h
def Xf(l:PL)(k:List UInt8):Int:=if Qz l=0then Qn k.length else Qz l
theorem jR{l:PL}{k:List UInt8}(h:Xf l k=0):Zd l:=by
 unfold Xf at h;by_cases h0:Qz l=0;·exact(Yh l).1 h0
 ·rw[if_neg h0]at h;exact absurd h h0
theorem Zc(n:Nat):Qn n=0↔1<=n∧n<=16:=by
 unfold Qn;by_cases h:1<=n∧n<=16;·rw[if_pos h];exact⟨fun _=>h,fun _=>rfl⟩
 ·rw[if_neg h];constructor;(·intro h2;cases h2);·intro h2;exact absurd h2 h
theorem O6{l:PL}{k:List UInt8}(h:Xf l k=0):1<=k.length∧k.length<=16:=by
 have ht:=(Yh l).2 (jR h);unfold Xf at h;rw[if_pos ht]at h;exact(Zc _).1 h
theorem Po{l:PL}{k:List UInt8}(h:Zd l)(hk:1<=k.length∧k.length<=16):Xf l k=0:=by
 unfold Xf;rw[if_pos ((Yh l).2 h)];exact(Zc _).2 hk
def EA(l:PL)(k:List UInt8):Bool:=Xf l k==0&&(Ut l k).isSome
def EB(l:PL)(k:List UInt8):List UInt8:=if Xf l k=0then(Ut l k).getD []else[]
def xH(l:PL)(k:List UInt8):PL:=if Xf l k=0then kT l k else[]
theorem Lm(l:PL)(k:List UInt8):(kT l k).length<=l.length:=rB _ _
def YI(l:PL)(f t:List UInt8):Int:=if Xf l f=0then Qn t.length else Xf l f
theorem Ah{l:PL}{f t:List UInt8}(h:YI l f t=0):Xf l f=0:=by
 unfold YI at h;by_cases h0:Xf l f=0;·exact h0
 ·rw[if_neg h0]at h;exact absurd h h0
def KZ(l:PL)(f t:List UInt8):PL:=if YI l f t=0then Vm l f t else[]
theorem WX(l:PL)(f t:List UInt8):(Vm l f t).length<=l.length:=rB _ _
def Gi(l:PL)(p:Pr):Int:=if Qz l=0then QN p else Qz l
def Kt(l:PL)(p:Pr):Int:=if Gi l p=0then(if 60<(Kn l p).length then 11 else 0)else Gi l p
def Vu(l:PL)(p:Pr):PL:=if Kt l p=0then Kn l p else[]
theorem fE(l:PL)(p:Pr):(Kn l p).length<=l.length+1:=by
 induction l with|nil=>simp[Kn]|cons q r ih=>rw[Kn];by_cases h1:YQ q.1 p.1=N;(·rw[if_pos h1];simp;omega);·rw[if_neg h1];by_cases h2:q.1=p.1;(·rw[if_pos h2];simp);·rw[if_neg h2];simp
structure kN (l : PL) : Prop where
  many : l.length * 48 <= 140737488355328
  each : ∀ i, i < l.length -> (l.getD i ([], [])).1.length <= 140737488355328 ∧ (l.getD i ([], [])).2.length <= 140737488355328
theorem kN.len{l:PL}(h:kN l):l.length<=140737488355328:=by
 have:=h.many;omega
theorem Zd.fits{l:PL}(h:Zd l):kN l:=by
 refine⟨by have:=h.room;omega,fun i hi=>?_⟩;have:=h.pairs l[i] (sH hi);rw[show l[i]=l.getD i ([],[])by simp[hi]]at this;omega
abbrev Tn:=List UInt8×PL
abbrev FL:=List Tn
def YJ(l:FL):Prop:=l.Pairwise fun p q=>YQ p.1 q.1=N
def GU(l:FL)(k:List UInt8):Option PL:=(l.find? fun p=>p.1==k).map (·.2)
theorem zC(p:Tn)(l:FL)(k:List UInt8):GU (p::l) k=if p.1=k then F p.2 else GU l k:=by
 unfold GU;by_cases h:p.1=k;·rw[pM (by simpa using h),if_pos h];rfl
 ·rw[pN (by simpa using h),if_neg h]
theorem Be:∀(l:FL)(k:List UInt8)(i:Nat),i<l.length->(∀j,j<i->(l.getD j ([],[])).1≠k)->(l.getD i ([],[])).1=k->GU l k=F (l.getD i ([],[])).2|[],_,_,h,_,_=>by simp at h|p::l,k,0,_,_,h2=>by rw[zC,if_pos (by simpa using h2)];simp|p::l,k,i+1,h,h1,h2=>by rw[zC,if_neg (by simpa using h1 0 (by omega))];have:=Be l k i (by simpa using h) (fun j hj=>by simpa using h1 (j+1) (by omega)) (by simpa using h2);simpa using this
theorem Rw:∀(l:FL)(k:List UInt8),(∀j,j<l.length->(l.getD j ([],[])).1≠k)->GU l k=H|[],_,_=>rfl|p::l,k,h=>by rw[zC,if_neg (by simpa using h 0 (by simp))];exact Rw l k fun j hj=>by simpa using h (j+1) (by simpa using hj)
def Jy:FL->Tn->FL|[],p=>[p]|q::r,p=>if YQ q.1 p.1=N then q::Jy r p else if q.1=p.1then p::r else p::q::r
def uA(l:FL)(k:List UInt8):FL:=l.filter fun q=>!(q.1==k)
theorem E7(l:FL)(p x:Tn):x∈Jy l p->x=p∨x∈l:=by
 induction l with|nil=>intro h;simp[Jy]at h;exact .inl h|cons q r ih=>intro h;rw[Jy]at h;by_cases h1:YQ q.1 p.1=N;(·rw[if_pos h1]at h;rcases tS.1 h with rfl|h;(·exact .inr (by simp));·rcases ih h with h|h;(·exact .inl h);·exact .inr (tY _ h));·rw[if_neg h1]at h;by_cases h2:q.1=p.1;(·rw[if_pos h2]at h;rcases tS.1 h with h|h;(·exact .inl h);·exact .inr (tY _ h));·rw[if_neg h2]at h;rcases tS.1 h with h|h;(·exact .inl h);·exact .inr h
theorem Dr(l:FL)(p:Tn)(h:YJ l):YJ (Jy l p):=by
 induction l with|nil=>exact sU _ _|cons q r ih=>have hr:=rJ.1 h;rw[Jy];by_cases h1:YQ q.1 p.1=N;(·rw[if_pos h1];refine tU (fun x hx=>?_) (ih hr.2);rcases E7 r p x hx with rfl|hx;(·exact h1);·exact hr.1 x hx);·rw[if_neg h1];by_cases h2:q.1=p.1;(·rw[if_pos h2];exact tU (fun x hx=>by rw[<-h2];exact hr.1 x hx) hr.2);·rw[if_neg h2];have hpq:=UK _ _ (by simpa using h1) h2;refine tU (fun x hx=>?_) h;rcases tS.1 hx with rfl|hx;(·exact hpq);·exact Kr _ _ _ hpq (hr.1 x hx)
theorem Bg(l:FL)(k:List UInt8)(h:YJ l):YJ (uA l k):=sV _ h
theorem WM(l:FL)(p:Tn):(Jy l p).length<=l.length+1:=by
 induction l with|nil=>simp[Jy]|cons q r ih=>rw[Jy];by_cases h1:YQ q.1 p.1=N;(·rw[if_pos h1];simp;omega);·rw[if_neg h1];by_cases h2:q.1=p.1;(·rw[if_pos h2];simp);·rw[if_neg h2];simp
theorem N8(l:FL)(k:List UInt8):(uA l k).length<=l.length:=rB _ _
def Qt(n:Nat):Int:=if 1<=n∧n<=8then 0 else 1
theorem Zj(n:Nat):Qt n=0↔1<=n∧n<=8:=by
 unfold Qt;by_cases h:1<=n∧n<=8;·rw[if_pos h];exact⟨fun _=>h,fun _=>rfl⟩
 ·rw[if_neg h];constructor;(·intro h2;cases h2);·intro h2;exact absurd h2 h
def XK(t:Tn):Int:=if Qt t.1.length=0then(if t.2.length=0then 4 else Qz t.2)else Qt t.1.length
theorem Pm(t:Tn):XK t=0↔(1<=t.1.length∧t.1.length<=8)∧t.2≠[]∧Zd t.2:=by
 unfold XK;by_cases h:Qt t.1.length=0;·rw[if_pos h];by_cases h2:t.2.length=0;(·rw[if_pos h2];constructor;(·intro h3;cases h3);·intro h3;exact absurd (tD h2) h3.2.1);·rw[if_neg h2,Yh];exact⟨fun h3=>⟨(Zj _).1 h,fun e=>h2 (by rw[e];rfl),h3⟩,fun h3=>h3.2.2⟩
 ·rw[if_neg h];constructor;(·intro h2;exact absurd h2 h);·intro h2;exact absurd ((Zj _).2 h2.1) h
def Kv(l:FL)(i:Nat):Int:=if XK (l.getD i ([],[]))=0then(if 0<i∧YQ (l.getD (i-1) ([],[])).1 (l.getD i ([],[])).1=V then 3 else 0)else XK (l.getD i ([],[]))
def VH(l:FL):Nat->Nat->Int|0,_=>0|n+1,i=>if Kv l i=0then VH l n (i+1)else Kv l i
def Q4(l:FL):Int:=if 8<l.length then 1 else VH l l.length 0
theorem kA(l:FL)(n i:Nat)(hi:i<=n)(h:∀j,j<i->Kv l j=0):VH l n 0=VH l (n-i) i:=by
 induction i with|zero=>rfl|succ i ih=>rw[ih (by omega) (fun j hj=>h j (by omega)),show n-i=(n-(i+1))+1by omega,VH,if_pos (h i (by omega))]
theorem Ei(l:FL)(i:Nat)(hi:i<l.length)(hl:l.length<=8)(h:∀j,j<i->Kv l j=0)(hf:Kv l i≠0):Q4 l=Kv l i:=by
 rw[Q4,if_neg (by omega),kA l _ i (by omega) h,show l.length-i=(l.length-(i+1))+1by omega,VH,if_neg hf]
theorem vA(l:FL)(hl:l.length<=8)(h:∀j,j<l.length->Kv l j=0):Q4 l=0:=by
 rw[Q4,if_neg (by omega),kA l _ l.length (sA _) h,oK,VH]
theorem Pg(l:FL)(hl:8<l.length):Q4 l=1:=by
 rw[Q4,if_pos hl]
theorem Pd(l:FL):∀(n i:Nat),VH l n i=0->∀j,i<=j->j<i+n->Kv l j=0|0,i,_,j,h1,h2=>by omega|n+1,i,h,j,h1,h2=>by rw[VH]at h;by_cases e:Kv l i=0;(·rw[if_pos e]at h;by_cases hj:j=i;(·subst hj;exact e);·exact Pd l n (i+1) h j (by omega) (by omega));·rw[if_neg e]at h;exact absurd h e
theorem EX(l:FL)(i:Nat):Kv l i=0↔XK (l.getD i ([],[]))=0∧(0<i->YQ (l.getD (i-1) ([],[])).1 (l.getD i ([],[])).1=N):=by
 unfold Kv;by_cases h:XK (l.getD i ([],[]))=0;·rw[if_pos h];by_cases h2:0<i∧YQ (l.getD (i-1) ([],[])).1 (l.getD i ([],[])).1=V;(·rw[if_pos h2];constructor;(·intro h;cases h);·intro h3;have:=h3.2 h2.1;rw[h2.2]at this;cases this);·rw[if_neg h2];refine⟨fun _=>⟨h,fun hi=>?_⟩,fun _=>rfl⟩;cases hk:YQ (l.getD (i-1) ([],[])).1 (l.getD i ([],[])).1with|true=>rfl|false=>exact absurd ⟨hi,hk⟩ h2
 ·rw[if_neg h];constructor;(·intro h2;exact absurd h2 h);·intro h2;exact absurd h2.1 h
theorem qP:∀l:FL,(∀i,0<i->i<l.length->YQ (l.getD (i-1) ([],[])).1 (l.getD i ([],[])).1=N)->YJ l|[],_=>rD|[_],_=>sU _ _|p::q::r,h=>by(have ih:YJ (q::r):=qP (q::r) fun i h0 hi=>by have:=h (i+1) (by omega) (by simp at hi⊢;omega);rw[show i+1-1=(i-1)+1by omega]at this;simpa using this);(have h01:YQ p.1 q.1=N:=by have:=h 1 (by omega) (by simp);simpa using this);refine tU (fun x hx=>?_) ih;rcases tS.1 hx with rfl|hx;(·exact h01);·exact Kr _ _ _ h01 ((rJ.1 ih).1 x hx)
theorem zO(l:FL)(h:YJ l)(i j:Nat)(hij:i<j)(hj:j<l.length):YQ (l.getD i ([],[])).1 (l.getD j ([],[])).1=N:=by
 have:=pG.1 h i j (by omega) hj hij;simpa[hj,show i<l.length by omega]using this
structure Z6(l:FL):Prop where room:l.length<=8tens:∀t∈l,(1<=t.1.length∧t.1.length<=8)∧t.2≠[]∧Zd t.2rises:YJ l
theorem Xb(l:FL):Q4 l=0↔Z6 l:=by
 constructor;·intro h;(have hl:l.length<=8:=by by_cases hl:8<l.length;(·rw[Pg l hl]at h;cases h);·omega);rw[Q4,if_neg (by omega)]at h;have ha:=fun j(hj:j<l.length)=>(EX l j).1 (Pd l l.length 0 h j (by omega) (by omega));refine⟨hl,fun p hp=>?_,qP l fun i h0 hi=>(ha i hi).2 h0⟩;obtain⟨i,hi,rfl⟩:=L.1 hp;have:=(Pm _).1 (ha i hi).1;simpa[hi]using this
 ·intro h;refine vA l h.room fun j hj=>(EX l j).2 ⟨(Pm _).2 ?_,fun h0=>zO l h.rises _ _ (by omega) hj⟩;have:=h.tens l[j] (sH hj);simpa[hj]using this
theorem UI:Z6 []:=⟨by
 simp,by
 simp,rD⟩
def YE(l:FL)(n:List UInt8):PL:=(GU l n).getD []
theorem iH(n:List UInt8):YE [] n=[]:=rfl
theorem Kj{l:FL}(h:Z6 l)(n:List UInt8):Zd (YE l n):=by
 unfold YE GU;cases hf:l.find? (fun p=>p.1==n)with|none=>exact C4|some t=>exact(h.tens t (List.mem_of_find?_eq_some hf)).2.2
def QC(w:Zi):Int:=if Qt w.name.length=0then(if w.gone=N then(if Qn w.key.length=0then(if 0<w.value.length then 4 else 0)else Qn w.key.length)else QN (w.key,w.value))else Qt w.name.length
def Yz(l:FL)(w:Zi):PL:=if w.gone=N then kT (YE l w.name) w.key else Kn (YE l w.name) (w.key,w.value)
def qU(l:FL)(w:Zi):Int:=if w.gone=N then Xf (YE l w.name) w.key else Kt (YE l w.name) (w.key,w.value)
def Zw(l:FL)(w:Zi):FL:=if(Yz l w).length=0then uA l w.name else Jy l (w.name,Yz l w)
def YH(l:FL)(w:Zi):Int:=if qU l w=0then(if 8<(Zw l w).length then 11 else 0)else qU l w
def Xh:FL->List Zi->Int|_,[]=>0|l,w::ws=>if QC w=0then(if YH l w=0then Xh (Zw l w) ws else YH l w)else QC w
def JB:FL->List Zi->FL|l,[]=>l|l,w::ws=>JB (Zw l w) ws
def QZ(l:FL)(ws:List Zi):Int:=if Q4 l=0then(if 10<ws.length then 1 else Xh l ws)else Q4 l
def XD(l:FL)(ws:List Zi):FL:=if QZ l ws=0then JB l ws else[]
theorem XT(w:Zi):QC w=0↔(1<=w.name.length∧w.name.length<=8)∧(1<=w.key.length∧w.key.length<=16)∧(if w.gone=N then w.value=[]else w.value.length<=32):=by
 unfold QC;by_cases hn:Qt w.name.length=0;·rw[if_pos hn];have hn':=(Zj _).1 hn;by_cases hg:w.gone=N;(·rw[if_pos hg,if_pos hg];by_cases hk:Qn w.key.length=0;(·rw[if_pos hk];have hk':=(Zc _).1 hk;by_cases hv:0<w.value.length;(·rw[if_pos hv];constructor;(·intro h;cases h);·intro h;rw[h.2.2]at hv;simp at hv);·rw[if_neg hv];exact⟨fun _=>⟨hn',hk',tD (by omega)⟩,fun _=>rfl⟩);·rw[if_neg hk];constructor;(·intro h;exact absurd h hk);·intro h;exact absurd ((Zc _).2 h.2.1) hk);·rw[if_neg hg,if_neg hg,Yq];exact⟨fun h=>⟨hn',h.1,h.2⟩,fun h=>⟨h.2.1,h.2.2⟩⟩
 ·rw[if_neg hn];constructor;(·intro h;exact absurd h hn);·intro h;exact absurd ((Zj _).2 h.1) hn
theorem I4{l:FL}(h:Z6 l){w:Zi}(hw:QC w=0)(he:qU l w=0):Zd (Yz l w):=by
 obtain⟨_,hk,hv⟩:=(XT w).1 hw;have hT:=Kj h w.name;unfold Yz;unfold qU at he;by_cases hg:w.gone=N;·rw[if_pos hg];exact⟨rH (Lm _ _) hT.room,fun p hp=>hT.pairs p (pB.1 hp).1,NS _ _ hT.rises⟩
 ·rw[if_neg hg]at he hv⊢;(have h60:¬60<(Kn (YE l w.name) (w.key,w.value)).length:=by intro h60;unfold Kt at he;by_cases h0:Gi (YE l w.name) (w.key,w.value)=0;(·rw[if_pos h0,if_pos h60]at he;cases he);·rw[if_neg h0]at he;exact h0 he);refine⟨by omega,fun q hq=>?_,Px _ _ hT.rises⟩;rcases MJ _ _ q hq with rfl|hq;(·exact⟨hk,hv⟩);·exact hT.pairs q hq
theorem Ex{l:FL}(h:YJ l)(w:Zi):YJ (Zw l w):=by
 unfold Zw;by_cases hn:(Yz l w).length=0;·rw[if_pos hn];exact Bg _ _ h
 ·rw[if_neg hn];exact Dr _ _ h
theorem yZ{l:FL}(h:Z6 l){w:Zi}(hw:QC w=0)(he:YH l w=0):Z6 (Zw l w):=by
 have hE:qU l w=0:=by by_cases h0:qU l w=0;(·exact h0);·unfold YH at he;rw[if_neg h0]at he;exact absurd he h0
 have hl:(Zw l w).length<=8:=by unfold YH at he;rw[if_pos hE]at he;by_cases h8:8<(Zw l w).length;(·rw[if_pos h8]at he;cases he);·omega
 obtain⟨hn,_,_⟩:=(XT w).1 hw;refine⟨hl,fun t ht=>?_,Ex h.rises w⟩;unfold Zw at ht;by_cases h0:(Yz l w).length=0;·rw[if_pos h0]at ht;exact h.tens t (pB.1 ht).1
 ·rw[if_neg h0]at ht;rcases E7 _ _ t ht with rfl|ht;(·exact⟨hn,fun e=>h0 (by rw[show Yz l w=[]from e];rfl),I4 h hw hE⟩);·exact h.tens t ht
structure Rd where
  name : List UInt8
  key : List UInt8
  wide : Bool
  last : List UInt8
def Zh:Rd:=⟨[],[],V,[]⟩
def XM(r:Rd):Int:=if Qt r.name.length=0then(if Qn r.key.length=0then(if r.wide=N then Qn r.last.length else(if 0<r.last.length then 4 else 0))else Qn r.key.length)else Qt r.name.length
theorem EW(r:Rd):XM r=0↔(1<=r.name.length∧r.name.length<=8)∧(1<=r.key.length∧r.key.length<=16)∧(if r.wide=N then 1<=r.last.length∧r.last.length<=16 else r.last=[]):=by
 unfold XM;by_cases hn:Qt r.name.length=0;·rw[if_pos hn];have hn':=(Zj _).1 hn;by_cases hk:Qn r.key.length=0;(·rw[if_pos hk];have hk':=(Zc _).1 hk;by_cases hw:r.wide=N;(·rw[if_pos hw,if_pos hw,Zc];exact⟨fun h=>⟨hn',hk',h⟩,fun h=>h.2.2⟩);·rw[if_neg hw,if_neg hw];by_cases hl:0<r.last.length;(·rw[if_pos hl];exact⟨fun h=>by omega,fun h=>by rw[h.2.2]at hl;simp at hl⟩);·rw[if_neg hl];exact⟨fun _=>⟨hn',hk',tD (by omega)⟩,fun _=>rfl⟩);·rw[if_neg hk];exact⟨fun h=>absurd h hk,fun h=>absurd ((Zc _).2 h.2.1) hk⟩
 ·rw[if_neg hn];exact⟨fun h=>absurd h hn,fun h=>absurd ((Zj _).2 h.1) hn⟩
def Xe(w:I)(v:O)(p:Zi):Prop:=∃vn vk vv,v=pR #[vn,vk,pS p.gone,vv]∧Qe w vn p.name∧Qe w vk p.key∧Qe w vv p.value
theorem Xe.grown{w w':I}{v:O}{p:Zi}(h:Xe w v p)(hg:J w w' H):Xe w' v p:=by
 obtain⟨vn,vk,vv,rfl,h1,h2,h3⟩:=h;exact⟨vn,vk,vv,rfl,h1.grown hg,h2.grown hg,h3.grown hg⟩
theorem Xe.aggW{w:I}{v:O}{p:Zi}(h:Xe w v p):∃na nc ka kc va vc,v=pR #[tH na p.name.length nc,tH ka p.key.length kc,pS p.gone,tH va p.value.length vc]:=by
 obtain⟨vn,vk,vv,rfl,h1,h2,h3⟩:=h;obtain⟨na,nc,rfl⟩:=h1.shape;obtain⟨ka,kc,rfl⟩:=h2.shape;obtain⟨va,vc,rfl⟩:=h3.shape;exact⟨na,nc,ka,kc,va,vc,rfl⟩
def vT(w:I)(b o:Nat)(p:Zi):Prop:=∃vn vk vv,w.cell? ⟨b,o,H⟩=F vn∧w.cell? ⟨b,o+1,H⟩=F vk∧w.cell? ⟨b,o+2,H⟩=F (pS p.gone)∧w.cell? ⟨b,o+3,H⟩=F vv∧Qe w vn p.name∧Qe w vk p.key∧Qe w vv p.value
theorem vT.grown{w w':I}{b o:Nat}{p:Zi}(h:vT w b o p)(hg:J w w' H):vT w' b o p:=by
 obtain⟨vn,vk,vv,c1,c2,c3,c4,h1,h2,h3⟩:=h;exact⟨vn,vk,vv,hg.cell c1 (by simp),hg.cell c2 (by simp),hg.cell c3 (by simp),hg.cell c4 (by simp),h1.grown hg,h2.grown hg,h3.grown hg⟩
def QS(w:I)(v:O)(l:List Zi):Prop:=∃a cap,v=tH a l.length cap∧l.length<=cap∧((l=[]∧(a=H->cap=0))∨∃b o,a=F ⟨b,o,H⟩∧∀i,i<l.length->vT w b (o+i*4) (l.getD i Qr))
theorem QS.shape{w:I}{v:O}{l:List Zi}(h:QS w v l):∃a cap,v=tH a l.length cap:=by
 obtain⟨a,cap,rfl,_⟩:=h;exact⟨a,cap,rfl⟩
theorem QS.grown{w w':I}{v:O}{l:List Zi}(h:QS w v l)(hg:J w w' H):QS w' v l:=by
 obtain⟨a,cap,rfl,hc,h⟩:=h;refine⟨a,cap,rfl,hc,?_⟩;rcases h with h|⟨b,o,rfl,h⟩;·exact .inl h
 ·exact .inr ⟨b,o,rfl,fun i hi=>(h i hi).grown hg⟩
theorem QS.at{w:I}{a:Option pH}{n cap:Nat}{l:List Zi}(h:QS w (tH a n cap) l)(i:Nat)(hi:i<l.length):∃b o,a=F ⟨b,o,H⟩∧vT w b (o+i*4) (l.getD i Qr):=by
 obtain⟨a',cap',e,hc,h⟩:=h;simp only[rG]at e;obtain⟨rfl,rfl,rfl⟩:=e;rcases h with⟨rfl,_⟩|⟨b,o,rfl,h⟩;·simp at hi
 ·exact⟨b,o,rfl,h i hi⟩
structure uQ (l : List Zi) : Prop where
  many : l.length * 80 <= 140737488355328
  each : ∀ i, i < l.length -> Y0 (l.getD i Qr)
theorem uQ.len{l:List Zi}(h:uQ l):l.length<=140737488355328:=by
 have:=h.many;omega
structure XO where
  turn : Int
  writes : List Zi
def Zr:XO:=⟨0,[]⟩
def Ai:Nat->List Zi->Int|_,[]=>0|i,w::ws=>if(if 10<=i then(1:Int)else QC w)=0then Ai (i+1) ws else(if 10<=i then(1:Int)else QC w)
def Za(c:XO):Int:=if 1<=c.turn∧c.turn<=1048576then(if c.writes.length=0then 1 else Ai 0 c.writes)else 2
theorem LJ:∀(ws:List Zi)(i:Nat),Ai i ws=0↔(ws=[]∨i+ws.length<=10)∧∀w∈ws,QC w=0|[],i=>by simp[Ai]|w::ws,i=>by have ih:=LJ ws (i+1);rw[Ai];by_cases h10:10<=i;(·rw[if_pos h10,if_neg (by omega)];constructor;(·intro h;omega);·rintro⟨h|h,_⟩;(·cases h);·simp at h;omega);·rw[if_neg h10];by_cases hw:QC w=0;(·rw[if_pos hw,ih];constructor;(·rintro⟨h1,h2⟩;refine⟨.inr ?_,?_⟩;(·rcases h1 with rfl|h1;(·simp;omega);·simp;omega);·intro x hx;rcases tS.1 hx with rfl|hx;(·exact hw);·exact h2 x hx);·rintro⟨h1,h2⟩;refine⟨.inr ?_,fun x hx=>h2 x (tY _ hx)⟩;rcases h1 with h1|h1;(·cases h1);·simp at h1;omega);·rw[if_neg hw];constructor;(·intro h;exact absurd h hw);·rintro⟨_,h2⟩;exact absurd (h2 w (rX ..)) hw
theorem K2(c:XO):Za c=0↔(1<=c.turn∧c.turn<=1048576)∧(1<=c.writes.length∧c.writes.length<=10)∧∀w∈c.writes,QC w=0:=by
 unfold Za;by_cases h1:1<=c.turn∧c.turn<=1048576;·rw[if_pos h1];by_cases h2:c.writes.length=0;(·rw[if_pos h2];constructor;(·intro h;omega);·rintro⟨_,h,_⟩;omega);·rw[if_neg h2,LJ];constructor;(·rintro⟨h3|h3,h4⟩;(·rw[h3]at h2;simp at h2);·exact⟨h1,⟨by omega,by omega⟩,h4⟩);·rintro⟨_,h3,h4⟩;exact⟨.inr (by omega),h4⟩
 ·rw[if_neg h1];constructor;(·intro h;omega);·rintro⟨h,_⟩;exact absurd h h1
theorem cZ(ws:List Zi)(i:Nat)(h:i<ws.length):Ai i (ws.drop i)=if(if 10<=i then(1:Int)else QC (ws.getD i Qr))=0then Ai (i+1) (ws.drop (i+1))else(if 10<=i then(1:Int)else QC (ws.getD i Qr)):=by
 rw[sD h,Ai,show ws[i]=ws.getD i Qr by simp[h]]
theorem eS(ws:List Zi):Ai ws.length (ws.drop ws.length)=0:=by
 rw[List.drop_length,Ai]
def XV(p:List UInt8):List UInt8:=tC p.length::p
theorem qZ(p:List UInt8):(XV p).length=p.length+1:=rfl
def GO(w:Zi):List UInt8:=if w.gone=N then[255]else XV w.value
def Ym(w:Zi):List UInt8:=XV w.name++XV w.key++GO w
def Va(t n:Nat):List UInt8:=[tC (t/65536),tC (t/256%256),tC (t%256),tC n]
def Zl(c:XO):List UInt8:=Va c.turn.toNat c.writes.length++c.writes.flatMap Ym
def Zy:List UInt8->Option (List UInt8×List UInt8)|[]=>H|x::r=>if x.toNat<=r.length then F (r.take x.toNat,r.drop x.toNat)else H
def vG(n k r:List UInt8):Option (Zi×List UInt8):=if r.head?=F 255then F (⟨n,k,[],N⟩,r.tail)else match Zy r with|F (v,r2)=>F (⟨n,k,v,V⟩,r2)|none=>H
def M5(n r:List UInt8):Option (Zi×List UInt8):=match Zy r with|F (k,r2)=>vG n k r2|none=>H
def Jj(r:List UInt8):Option (Zi×List UInt8):=match Zy r with|F (n,r2)=>M5 n r2|none=>H
def ZS:Nat->List UInt8->Option (List Zi×List UInt8)|0,r=>F ([],r)|n+1,r=>match Jj r with|F (w,r1)=>(match ZS n r1 with|F (ws,r2)=>F (w::ws,r2)|none=>H)|none=>H
theorem D7{p:List UInt8}(h:p.length<256):(tC p.length).toNat=p.length:=by
 simp;omega
theorem Vv(p r:List UInt8)(h:p.length<256):Zy (XV p++r)=F (p,r):=by
 show Zy (tC p.length::(p++r))=_;rw[Zy,D7 h,if_pos (by simp),rS,rT]<;>rfl
theorem GG{r p r2:List UInt8}(h:Zy r=F (p,r2)):r=XV p++r2:=by
 cases r with|nil=>cases h|cons x r=>rw[Zy]at h;by_cases hx:x.toNat<=r.length;(·rw[if_pos hx]at h;simp only[tP,sC]at h;obtain⟨rfl,rfl⟩:=h;(have hl:(r.take x.toNat).length=x.toNat:=by simp;omega);show x::r=tC (r.take x.toNat).length::(r.take x.toNat++r.drop x.toNat);rw[hl,tE];simp);·rw[if_neg hx]at h;cases h
theorem Ay{r p r2:List UInt8}(h:Zy r=F (p,r2))(x:List UInt8):Zy (r++x)=F (p,r2++x):=by
 cases r with|nil=>cases h|cons y r=>rw[Zy]at h;by_cases hy:y.toNat<=r.length;(·rw[if_pos hy]at h;simp only[tP,sC]at h;obtain⟨rfl,rfl⟩:=h;show Zy (y::(r++x))=_;rw[Zy,if_pos (by simp;omega),pC hy,pD hy]);·rw[if_neg hy]at h;cases h
theorem AU{w:Zi}(hw:QC w=0)(r:List UInt8):Jj (Ym w++r)=F (w,r):=by
 obtain⟨h1,h2,h3⟩:=(XT w).1 hw;unfold Jj Ym;rw[tB,tB,Vv _ _ (by omega)];show M5 w.name (XV w.key++(GO w++r))=_;unfold M5;rw[Vv _ _ (by omega)];show vG w.name w.key (GO w++r)=_;unfold vG GO;by_cases hg:w.gone=N;·rw[if_pos hg]at h3⊢;rw[if_pos (by rfl)];obtain⟨n,k,v,g⟩:=w;simp only at hg h3;subst hg h3;rfl
 ·rw[if_neg hg]at h3⊢;rw[if_neg,Vv _ _ (by omega)];(·obtain⟨n,k,v,g⟩:=w;simp only[Bool.not_eq_true]at hg;subst hg;rfl);·show¬(F (tC w.value.length)=F 255);intro e;have:=congrArg UInt8.toNat (pO e);rw[D7 (by omega)]at this;have h255:(255:UInt8).toNat=255:=rfl;omega
theorem FY:∀(ws:List Zi)(_:∀w∈ws,QC w=0)(r:List UInt8),ZS ws.length (ws.flatMap Ym++r)=F (ws,r)|[],_,r=>rfl|w::ws,h,r=>by show ZS (ws.length+1) ((w::ws).flatMap Ym++r)=_;rw[ZS,rM,tB,AU (h w (rX ..))];show(match ZS ws.length (ws.flatMap Ym++r)with|F (ws',r2)=>F (w::ws',r2)|none=>H)=_;rw[FY ws (fun x hx=>h x (tY _ hx)) r]
theorem DQ{r r2:List UInt8}{w:Zi}(h:Jj r=F (w,r2)):r=Ym w++r2:=by
 unfold Jj at h;cases h1:Zy r with|none=>rw[h1]at h;cases h|some q=>obtain⟨n,ra⟩:=q;rw[h1]at h;have h:M5 n ra=F (w,r2):=h;unfold M5 at h;cases h2:Zy ra with|none=>rw[h2]at h;cases h|some q=>obtain⟨k,rb⟩:=q;rw[h2]at h;have h:vG n k rb=F (w,r2):=h;rw[GG h1,GG h2];unfold vG at h;by_cases hg:rb.head?=F 255;(·rw[if_pos hg]at h;simp only[tP,sC]at h;obtain⟨rfl,rfl⟩:=h;cases rb with|nil=>cases hg|cons x rb=>obtain rfl:x=255:=pO hg;show XV n++(XV k++255::rb)=XV n++XV k++[255]++rb;simp[tB]);·rw[if_neg hg]at h;cases h3:Zy rb with|none=>rw[h3]at h;cases h|some q=>obtain⟨v,rc⟩:=q;rw[h3]at h;simp only[tP,sC]at h;obtain⟨rfl,rfl⟩:=h;rw[GG h3];show XV n++(XV k++(XV v++rc))=XV n++XV k++XV v++rc;simp[tB]
theorem Pq:∀(n:Nat){r r2:List UInt8}{ws:List Zi},ZS n r=F (ws,r2)->r=ws.flatMap Ym++r2∧ws.length=n|0,r,r2,ws,h=>by rw[ZS]at h;simp only[tP,sC]at h;obtain⟨rfl,rfl⟩:=h;exact⟨rfl,rfl⟩|n+1,r,r2,ws,h=>by rw[ZS]at h;cases h1:Jj r with|none=>rw[h1]at h;cases h|some q=>obtain⟨w,ra⟩:=q;rw[h1]at h;have h:(match ZS n ra with|F (ws,r2)=>F (w::ws,r2)|none=>H)=F (ws,r2):=h;cases h2:ZS n ra with|none=>rw[h2]at h;cases h|some q=>obtain⟨ws',rb⟩:=q;rw[h2]at h;simp only[tP,sC]at h;obtain⟨rfl,rfl⟩:=h;obtain⟨e1,e2⟩:=Pq n h2;exact⟨by rw[DQ h1,e1,rM,tB],by simp[e2]⟩
theorem xS : ∀ (n : Nat) (r : List UInt8), ZS (n + 1) r = match ZS n r with | F (ws, r1) => (match Jj r1 with | F (w, r2) => F (ws ++ [w], r2) | none => H) | none => H
  | 0, r => by
    rw [ZS]
    cases h : Jj r with
    | none => simp [ZS, h]
    | some q => obtain ⟨w, ra⟩ := q; simp [ZS, h]
  | n + 1, r => by
    rw [ZS]
    cases h : Jj r with
    | none =>
      show H = _
      rw [ZS, h]
    | some q =>
      obtain ⟨w, ra⟩ := q
      show (match ZS (n + 1) ra with | F (ws, r2) => F (w :: ws, r2) | none => H) = _
      rw [xS n ra, show ZS (n + 1) r = (match ZS n ra with | F (ws, r2) => F (w :: ws, r2) | none => H) by rw [ZS, h]]
      cases h2 : ZS n ra with
      | none => rfl
      | some q =>
        obtain ⟨ws, rb⟩ := q
        show (match (match Jj rb with | F (w, r2) => F (ws ++ [w], r2) | none => H) with | F (ws, r2) => F (w :: ws, r2) | none => H) = (match Jj rb with | F (w', r2) => F (w :: ws ++ [w'], r2) | none => H)
        cases Jj rb with
        | none => rfl
        | some q => rfl
def Gt(b:List UInt8):Nat:=65536*(b.getD 0 0).toNat+256*(b.getD 1 0).toNat+(b.getD 2 0).toNat
def qN(b:List UInt8):Option (List Zi×List UInt8):=ZS (b.getD 3 0).toNat (b.drop 4)
def YN(b:List UInt8):Int:=if 4000<b.length then 1 else if b.length<4then 14 else match qN b with|none=>14|F (ws,r)=>if r.length=0then Za ⟨(Gt b:Int),ws⟩else 4
def JS(b:List UInt8):XO:=if YN b=0then(match qN b with|F (ws,_)=>⟨(Gt b:Int),ws⟩|none=>Zr)else Zr
theorem Fc(t n:Nat):(Va t n).length=4:=rfl
theorem IC(t n:Nat)(x:List UInt8)(ht:t<=1048576):Gt (Va t n++x)=t:=by
 show 65536*(tC (t/65536)).toNat+256*(tC (t/256%256)).toNat+(tC (t%256)).toNat=t;simp only[pW];omega
theorem Hy(t n:Nat)(x:List UInt8)(hn:n<=10):((Va t n++x).getD 3 0).toNat=n:=by
 show(tC n).toNat=n;simp;omega
theorem Hd(t n:Nat)(x:List UInt8):(Va t n++x).drop 4=x:=rfl
theorem Su{w:Zi}(hw:QC w=0):(Ym w).length=3+w.name.length+w.key.length+w.value.length∧(Ym w).length<=59:=by
 obtain⟨h1,h2,h3⟩:=(XT w).1 hw;unfold Ym GO;by_cases hg:w.gone=N;·rw[if_pos hg]at h3⊢;rw[h3];simp only[T,qZ,pA,List.length_nil];omega
 ·rw[if_neg hg]at h3⊢;simp only[T,qZ];omega
def Li(ws:List Zi):Nat:=(ws.map fun w=>3+w.name.length+w.key.length+w.value.length).sum
theorem yB:∀(ws:List Zi)(_:∀w∈ws,QC w=0),(ws.flatMap Ym).length=Li ws∧(ws.flatMap Ym).length<=59*ws.length|[],_=>by simp[Li]|w::ws,h=>by obtain⟨i1,i2⟩:=yB ws (fun x hx=>h x (tY _ hx));obtain⟨j1,j2⟩:=Su (h w (rX ..));rw[rM,T];unfold Li at i1⊢;rw[oI,List.sum_cons,pA];omega
theorem U8{c:XO}(h:Za c=0):(Zl c).length=4+Li c.writes∧(Zl c).length<=594:=by
 obtain⟨_,h2,h3⟩:=(K2 c).1 h;obtain⟨i1,i2⟩:=yB c.writes h3;unfold Zl;rw[T,Fc];omega
theorem DU{c:XO}(h:Za c=0)(x:List UInt8):qN (Zl c++x)=F (c.writes,x)∧Gt (Zl c++x)=c.turn.toNat:=by
 obtain⟨h1,h2,h3⟩:=(K2 c).1 h;unfold qN Zl;rw[tB,Hy _ _ _ h2.2,Hd,IC _ _ _ (by omega)];exact⟨FY _ h3 _,rfl⟩
theorem Ds{c:XO}(h:Za c=0):YN (Zl c)=0∧JS (Zl c)=c:=by
 obtain⟨h1,h2,h3⟩:=(K2 c).1 h;obtain⟨s1,s2⟩:=U8 h;obtain⟨b1,b2⟩:=DU h [];rw[tV]at b1 b2;have hc:(⟨(Gt (Zl c):Int),c.writes⟩:XO)=c:=by rw[b2,Int.toNat_of_nonneg (by omega)]
 have hd:YN (Zl c)=0:=by rw[YN,if_neg (by omega),if_neg (by omega),b1];show(if([]:List UInt8).length=0then Za ⟨(Gt (Zl c):Int),c.writes⟩else 4)=0;rw[if_pos (show([]:List UInt8).length=0from rfl),hc,h]
 refine⟨hd,?_⟩;rw[JS,if_pos hd,b1];exact hc
theorem MB{b:List UInt8}(h:YN b=0):Za (JS b)=0∧Zl (JS b)=b:=by
 have hC:JS b=(match qN b with|F (ws,_)=>⟨(Gt b:Int),ws⟩|none=>Zr):=by rw[JS,if_pos h]
 rw[YN]at h;by_cases h1:4000<b.length;·rw[if_pos h1]at h;omega
 rw[if_neg h1]at h;by_cases h2:b.length<4;·rw[if_pos h2]at h;omega
 rw[if_neg h2]at h;cases hb:qN b with|none=>rw[hb]at h;simp at h|some q=>obtain⟨ws,r⟩:=q;rw[hb]at h hC;have h:(if r.length=0then Za ⟨(Gt b:Int),ws⟩else 4)=0:=h;have hC:JS b=⟨(Gt b:Int),ws⟩:=hC;by_cases hr:r.length=0;(·rw[if_pos hr]at h;obtain rfl:r=[]:=tD hr;rw[hC];refine⟨h,?_⟩;obtain⟨k1,k2,k3⟩:=(K2 _).1 h;unfold qN at hb;obtain⟨e1,e2⟩:=Pq _ hb;rw[tV]at e1;show Va ((Gt b:Int)).toNat ws.length++ws.flatMap Ym=b;rw[<-e1,e2,rN];match b,h2 with|x0::x1::x2::x3::t,_=>show Va (65536*x0.toNat+256*x1.toNat+x2.toNat) x3.toNat++t=_;have a0:=x0.toNat_lt;have a1:=x1.toNat_lt;have a2:=x2.toNat_lt;have a3:=x3.toNat_lt;unfold Va;rw[show(65536*x0.toNat+256*x1.toNat+x2.toNat)/65536=x0.toNat by omega,show(65536*x0.toNat+256*x1.toNat+x2.toNat)/256%256=x1.toNat by omega,show(65536*x0.toNat+256*x1.toNat+x2.toNat)%256=x2.toNat by omega];simp);·rw[if_neg hr]at h;omega
def Tc(b:List UInt8):List UInt8:=tC (b.length/256)::tC (b.length%256)::b
theorem xN(b:List UInt8):(Tc b).length=b.length+2:=rfl
def ZJ(D:List UInt8->List UInt8)(c:XO):List UInt8:=Tc (Zl c)++D (Tc (Zl c))
def Zk(r:List UInt8):Nat:=256*(r.getD 0 0).toNat+(r.getD 1 0).toNat
def XQ(D:List UInt8->List UInt8)(r:List UInt8):Option (XO×List UInt8):=if r.length<6then H else if r.length<Zk r+6∨4000<Zk r+2then H else if D (r.take (Zk r+2))=(r.drop (Zk r+2)).take 4then(if YN ((r.drop 2).take (Zk r))=0then F (JS ((r.drop 2).take (Zk r)),r.drop (Zk r+6))else H)else H
theorem Ao{D:List UInt8->List UInt8}{r r2:List UInt8}{c:XO}(h:XQ D r=F (c,r2)):∃m,6<=m∧m<=r.length∧r2=r.drop m∧Za c=0:=by
 unfold XQ at h;by_cases h1:r.length<6;·rw[if_pos h1]at h;cases h
 rw[if_neg h1]at h;by_cases h2:r.length<Zk r+6∨4000<Zk r+2;·rw[if_pos h2]at h;cases h
 rw[if_neg h2]at h;by_cases h3:D (r.take (Zk r+2))=(r.drop (Zk r+2)).take 4;·rw[if_pos h3]at h;by_cases h4:YN ((r.drop 2).take (Zk r))=0;(·rw[if_pos h4]at h;simp only[tP,sC]at h;obtain⟨rfl,rfl⟩:=h;exact⟨Zk r+6,by omega,by omega,rfl,(MB h4).1⟩);·rw[if_neg h4]at h;cases h
 ·rw[if_neg h3]at h;cases h
theorem Nk{b:List UInt8}(h:b.length<65536)(x:List UInt8):Zk (Tc b++x)=b.length:=by
 show 256*(tC (b.length/256)).toNat+(tC (b.length%256)).toNat=b.length;simp only[pW];omega
theorem P5{D:List UInt8->List UInt8}(hD:∀x,(D x).length=4)(c:XO):(ZJ D c).length=(Zl c).length+6:=by
 unfold ZJ;rw[T,hD,xN]
theorem Aj{D:List UInt8->List UInt8}(hD:∀x,(D x).length=4){c:XO}(h:Za c=0)(r:List UInt8):XQ D (ZJ D c++r)=F (c,r):=by
 obtain⟨s1,s2⟩:=U8 h;obtain⟨d1,d2⟩:=Ds h;have hl:=P5 hD c;have hz:Zk (ZJ D c++r)=(Zl c).length:=by unfold ZJ;rw[tB];exact Nk (by omega) _
 have ht:(ZJ D c++r).take ((Zl c).length+2)=Tc (Zl c):=by unfold ZJ;rw[tB];exact rS (xN _)
 have hd:(ZJ D c++r).drop ((Zl c).length+2)=D (Tc (Zl c))++r:=by unfold ZJ;rw[tB];exact rT (xN _)
 have hm:((ZJ D c++r).drop 2).take (Zl c).length=Zl c:=by unfold ZJ;rw[tB];exact rS rfl
 have he:(ZJ D c++r).drop ((Zl c).length+6)=r:=rT hl;have hlen:(ZJ D c++r).length=(Zl c).length+6+r.length:=by rw[T,hl]
 unfold XQ;rw[if_neg (by omega),hz,if_neg (by omega),ht,hd,hm,he,if_pos (rS (hD _)).symm,if_pos d1,d2]
theorem Lf{D:List UInt8->List UInt8}(hD:∀x,(D x).length=4){c:XO}(h:Za c=0)(k:Nat)(hk:k<(ZJ D c).length):XQ D ((ZJ D c).take k)=H:=by
 obtain⟨s1,s2⟩:=U8 h;have hl:=P5 hD c;have hkl:((ZJ D c).take k).length=k:=by simp;omega
 unfold XQ;by_cases h6:k<6;·rw[if_pos (by omega)]
 ·(have hz:Zk ((ZJ D c).take k)=(Zl c).length:=by(have hz:Zk (ZJ D c++[])=(Zl c).length:=by unfold ZJ;rw[tB];exact Nk (by omega) _);rw[tV]at hz;rw[<-hz];unfold Zk;simp only[List.getD_eq_getElem?_getD,pY];rw[if_pos (by omega),if_pos (by omega)]);rw[if_neg (by omega),hz,if_pos (by omega)]
def KR(D:List UInt8->List UInt8)(turn:Nat)(r:List UInt8):List XO×List UInt8:=match h:XQ D r with|F (c,r2)=>if c.turn=(turn:Int)then(c::(KR D (turn+1) r2).1,(KR D (turn+1) r2).2)else([],r)|none=>([],r)termination_by r.length decreasing_by
 all_goals obtain⟨m,h1,h2,h3,_⟩:=Ao h;rw[h3,oE];omega
theorem Ot{D:List UInt8->List UInt8}{turn:Nat}{r r2:List UInt8}{c:XO}(h:XQ D r=F (c,r2))(ht:c.turn=(turn:Int)):KR D turn r=(c::(KR D (turn+1) r2).1,(KR D (turn+1) r2).2):=by
 rw[KR];split;·next c' r' h'=>rw[h]at h';simp only[tP,sC]at h';obtain⟨rfl,rfl⟩:=h';rw[if_pos ht]
 ·next h'=>rw[h]at h';cases h'
theorem Ij{D:List UInt8->List UInt8}{turn:Nat}{r r2:List UInt8}{c:XO}(h:XQ D r=F (c,r2))(ht:c.turn≠(turn:Int)):KR D turn r=([],r):=by
 rw[KR];split;·next c' r' h'=>rw[h]at h';simp only[tP,sC]at h';obtain⟨rfl,rfl⟩:=h';rw[if_neg ht]
 ·rfl
theorem Rv{D:List UInt8->List UInt8}{turn:Nat}{r:List UInt8}(h:XQ D r=H):KR D turn r=([],r):=by
 rw[KR];split;·next c' r' h'=>rw[h]at h';cases h'
 ·rfl
theorem IJ(D:List UInt8->List UInt8):XQ D []=H:=by
 unfold XQ;rw[if_pos (by simp)]
def zQ:Nat->List XO->Prop|_,[]=>True|t,c::cs=>c.turn=(t:Int)∧Za c=0∧zQ (t+1) cs
theorem zQ.take:∀{t:Nat}{cs:List XO}(_:zQ t cs)(j:Nat),zQ t (cs.take j)|_,[],_,j=>by rw[oJ];trivial|_,c::cs,_,0=>trivial|t,c::cs,h,j+1=>⟨h.1,h.2.1,zQ.take h.2.2 j⟩
def Q6(D:List UInt8->List UInt8)(cs:List XO):List UInt8:=cs.flatMap (ZJ D)
theorem KV(D:List UInt8->List UInt8)(c:XO)(cs:List XO):Q6 D (c::cs)=ZJ D c++Q6 D cs:=rM
theorem VK(D:List UInt8->List UInt8)(a b:List XO):Q6 D (a++b)=Q6 D a++Q6 D b:=List.flatMap_append
theorem PW(D:List UInt8->List UInt8)(c:XO):Q6 D [c]=ZJ D c:=by
 simp[Q6]
def DV(D:List UInt8->List UInt8)(r:List UInt8):Nat:=r.length-(KR D 1 r).2.length
theorem Bo{D:List UInt8->List UInt8}(hD:∀x,(D x).length=4):∀{t:Nat}{cs:List XO}(_:zQ t cs)(k:Nat),∃j,j<=cs.length∧KR D t ((Q6 D cs).take k)=(cs.take j,((Q6 D cs).take k).drop (Q6 D (cs.take j)).length)∧(Q6 D (cs.take j)).length<=k∧(Q6 D (cs.take j)).length<=(Q6 D cs).length∧(j<cs.length->k<(Q6 D (cs.take (j+1))).length)|t,[],_,k=>⟨0,by simp,by show KR D t (([]:List UInt8).take k)=_;rw[oJ,Rv (IJ D)];simp[Q6],by simp[Q6],by simp[Q6],fun h=>by simp at h⟩|t,c::cs,h,k=>by by_cases hk:k<(ZJ D c).length;(·refine⟨0,by simp,?_,by simp[Q6],by simp[Q6],fun _=>?_⟩;(·rw[KV,pC (by omega),Rv (Lf hD h.2.1 k hk)];simp[Q6]);·show k<(Q6 D [c]).length;rw[PW];exact hk);·obtain⟨j,h1,h2,h3,h4,h5⟩:=Bo hD h.2.2 (k-(ZJ D c).length);(have ht:(Q6 D (c::cs)).take k=ZJ D c++(Q6 D cs).take (k-(ZJ D c).length):=by rw[KV,List.take_append,pK (by omega)]);refine⟨j+1,by simp;omega,?_,?_,?_,fun hj=>?_⟩;(·rw[ht,Ot (Aj hD h.2.1 _) h.1,h2,sI,KV];rw[T,<-List.drop_drop,rT rfl]);(·rw[sI,KV,T];omega);(·rw[sI,KV,KV,T,T];omega);·have:=h5 (by simpa using hj);rw[sI,KV,T];omega
theorem UZ(D:List UInt8->List UInt8)(cs:List XO)(i j:Nat)(h:i<=j):(Q6 D (cs.take i)).length<=(Q6 D (cs.take j)).length:=by
 have:cs.take i=(cs.take j).take i:=by rw[List.take_take,oH h]
 rw[this];conv=>rhs;rw[<-tE i (cs.take j),VK]
 rw[T];omega
theorem Ec{D:List UInt8->List UInt8}{cs:List XO}{k j i:Nat}(hi:i<=cs.length)(hj:j<cs.length->k<(Q6 D (cs.take (j+1))).length)(hk:(Q6 D (cs.take i)).length<=k):i<=j:=by
 by_cases h:i<=j;·exact h
 ·have:=UZ D cs (j+1) i (by omega);have:=hj (by omega);omega
theorem Nf(t:PL)(p:Pr)(h:∀q∈t,(1<=q.1.length∧q.1.length<=16)∧q.2.length<=32)(hp:(1<=p.1.length∧p.1.length<=16)∧p.2.length<=32):∀q∈Kn t p,(1<=q.1.length∧q.1.length<=16)∧q.2.length<=32:=by
 intro q hq;rcases MJ t p q hq with rfl|hq;·exact hp
 ·exact h q hq
theorem L0:∀(t:PL)(p:Pr)(k:Nat),k<=t.length->(∀j,j<k->YQ (t.getD j ([],[])).1 p.1=N)->(k<t.length->YQ (t.getD k ([],[])).1 p.1=V)->Kn t p=if k<t.length∧(t.getD k ([],[])).1=p.1then t.set k p else t.take k++([p]++t.drop k)|[],p,k,hk,_,_=>by(obtain rfl:k=0:=by simpa using hk);simp[Kn]|q::r,p,0,_,_,h2=>by have h:=h2 (by simp);simp only[tX]at h;rw[Kn,if_neg (by rw[h];simp)];by_cases e:q.1=p.1;(·rw[if_pos e,if_pos ⟨by simp,by simpa using e⟩];simp);·rw[if_neg e,if_neg (fun h=>e (by simpa using h.2))];simp|q::r,p,k+1,hk,h1,h2=>by have h:=h1 0 (by omega);simp only[tX]at h;rw[Kn,if_pos h,L0 r p k (by simpa using hk) (fun j hj=>by simpa using h1 (j+1) (by omega)) (fun hk=>by simpa using h2 (by simpa using hk))];by_cases e:k<r.length∧(r.getD k ([],[])).1=p.1;(·rw[if_pos e,if_pos ⟨by simpa using e.1,by simpa using e.2⟩];simp);·rw[if_neg e,if_neg (fun h=>e ⟨by simpa using h.1,by simpa using h.2⟩)];simp
theorem dK(t:PL)(p:Pr)(h:Zd t)(hp:(1<=p.1.length∧p.1.length<=16)∧p.2.length<=32)(hl:t.length<60):Kt t p=0∧Vu t p=Kn t p∧Zd (Kn t p):=by
 have h0:Gi t p=0:=by rw[Gi,if_pos ((Yh t).2 h)];exact(Yq p).2 hp
 have hlen:=fE t p;have h1:Kt t p=0:=by rw[Kt,if_pos h0,if_neg (by omega)]
 exact⟨h1,by rw[Vu,if_pos h1],⟨by omega,Nf t p h.pairs hp,Px t p h.rises⟩⟩
def aK(m:Nat)(l:FL):Prop:=∀n,(YE l n).length<=m
theorem Wz:aK 0 []:=fun n=>by
 rw[iH];simp
theorem fZ{l:FL}{m:Nat}(h:Z6 l){w:Zi}(hw:QC w=0)(hs:aK m l)(hm:m<60):qU l w=0:=by
 obtain⟨_,hk,hv⟩:=(XT w).1 hw;have hT:=Kj h w.name;have hl:=hs w.name;unfold qU;by_cases hg:w.gone=N;·rw[if_pos hg];exact Po hT hk
 ·rw[if_neg hg]at hv⊢;exact(dK _ _ hT ⟨hk,hv⟩ (by omega)).1
theorem TN{l:FL}{m:Nat}(h:Z6 l){w:Zi}(hw:QC w=0)(hs:aK m l)(hm:m<60):YH l w=if 8<(Zw l w).length then 11 else 0:=by
 rw[YH,if_pos (fZ h hw hs hm)]
theorem DJ(l:FL)(w:Zi):(Zw l w).length<=l.length+1:=by
 unfold Zw;by_cases hn:(Yz l w).length=0;·rw[if_pos hn];have:=N8 l w.name;omega
 ·rw[if_neg hn];exact WM _ _
theorem v8:∀(ws:List Zi)(l:FL),Z6 l->Xh l ws=0->Z6 (JB l ws)|[],l,h,_=>h|w::ws,l,h,he=>by rw[Xh]at he;by_cases hw:QC w=0;(·rw[if_pos hw]at he;by_cases h2:YH l w=0;(·rw[if_pos h2]at he;exact v8 ws _ (yZ h hw h2) he);·rw[if_neg h2]at he;exact absurd he h2);·rw[if_neg hw]at he;exact absurd he hw
def G4(l:FL)(n:List UInt8):Int:=if Q4 l=0then Qt n.length else Q4 l
theorem iO{l:FL}{n:List UInt8}(h:Z6 l)(hn:1<=n.length∧n.length<=8):G4 l n=0:=by
 rw[G4,if_pos ((Xb l).2 h)];exact(Zj _).2 hn
theorem zL{l:FL}{n:List UInt8}(h:G4 l n=0):Z6 l∧(1<=n.length∧n.length<=8):=by
 unfold G4 at h;by_cases h0:Q4 l=0;·rw[if_pos h0]at h;exact⟨(Xb l).1 h0,(Zj _).1 h⟩
 ·rw[if_neg h0]at h;exact absurd h h0
def VX(l:FL)(n k:List UInt8):Int:=if G4 l n=0then Xf (YE l n) k else G4 l n
def Ve(l:FL)(n k:List UInt8):Bool:=if G4 l n=0then EA (YE l n) k else V
def Vg(l:FL)(n k:List UInt8):List UInt8:=if G4 l n=0then EB (YE l n) k else[]
def YK(l:FL)(n f t:List UInt8):Int:=if G4 l n=0then YI (YE l n) f t else G4 l n
def Ku(l:FL)(n f t:List UInt8):PL:=if G4 l n=0then KZ (YE l n) f t else[]
structure Rq where
  kind : Int
  name : List UInt8
  key : List UInt8
  last : List UInt8
  value : List UInt8
def Gn:Rq:=⟨0,[],[],[],[]⟩
def QY(k:Int):Bool:=tI (2<=k∧k<=5)||tI (k=8)
def jH(r:Rq):Int:=if QY r.kind=N then(if Qt r.name.length=0then(if Qn r.key.length=0then(if r.kind=3then Qn r.last.length else 0)else Qn r.key.length)else Qt r.name.length)else 0
def Er(r:Rq):Int:=if QY r.kind=V∧0<r.name.length+r.key.length then 4 else if(r.kind≠3∧0<r.last.length)∨(r.kind≠4∧0<r.value.length)then 4 else 0
def Yn(r:Rq):Int:=if 1<=r.kind∧r.kind<=8then(if jH r=0then(if 32<r.value.length then 1 else Er r)else jH r)else 5
structure Y6(r:Rq):Prop where kind:1<=r.kind∧r.kind<=8name:QY r.kind=N->1<=r.name.length∧r.name.length<=8key:QY r.kind=N->1<=r.key.length∧r.key.length<=16last:r.kind=3->1<=r.last.length∧r.last.length<=16value:r.value.length<=32noName:QY r.kind=V->r.name=[]noKey:QY r.kind=V->r.key=[]noLast:r.kind≠3->r.last=[]noValue:r.kind≠4->r.value=[]
theorem FZ(r:Rq):jH r=0↔(QY r.kind=N->(1<=r.name.length∧r.name.length<=8)∧(1<=r.key.length∧r.key.length<=16)∧(r.kind=3->1<=r.last.length∧r.last.length<=16)):=by
 unfold jH;by_cases h:QY r.kind=N;·rw[if_pos h];by_cases h1:Qt r.name.length=0;(·rw[if_pos h1];by_cases h2:Qn r.key.length=0;(·rw[if_pos h2];by_cases h3:r.kind=3;(·rw[if_pos h3,Zc];exact⟨fun e _=>⟨(Zj _).1 h1,(Zc _).1 h2,fun _=>e⟩,fun e=>(e h).2.2 h3⟩);·rw[if_neg h3];exact⟨fun _ _=>⟨(Zj _).1 h1,(Zc _).1 h2,fun e=>absurd e h3⟩,fun _=>rfl⟩);·rw[if_neg h2];exact⟨fun e=>absurd e h2,fun e=>(Zc _).2 (e h).2.1⟩);·rw[if_neg h1];exact⟨fun e=>absurd e h1,fun e=>(Zj _).2 (e h).1⟩
 ·rw[if_neg h];exact⟨fun _ e=>absurd e h,fun _=>rfl⟩
theorem fN{l:List UInt8}(h:¬0<l.length):l=[]:=tD (by
 omega)
theorem Sp(r:Rq):Er r=0↔(QY r.kind=V->r.name=[]∧r.key=[])∧(r.kind≠3->r.last=[])∧(r.kind≠4->r.value=[]):=by
 unfold Er;by_cases h1:QY r.kind=V∧0<r.name.length+r.key.length;·rw[if_pos h1];refine⟨fun e=>(by cases e),fun e=>?_⟩;have:=e.1 h1.1;rw[this.1,this.2]at h1;simp at h1
 ·rw[if_neg h1];by_cases h2:(r.kind≠3∧0<r.last.length)∨(r.kind≠4∧0<r.value.length);(·rw[if_pos h2];refine⟨fun e=>(by cases e),fun e=>?_⟩;rcases h2 with h2|h2;(·rw[e.2.1 h2.1]at h2;simp at h2);·rw[e.2.2 h2.1]at h2;simp at h2);·rw[if_neg h2];refine⟨fun _=>⟨fun h=>?_,fun h=>fN fun e=>h2 (.inl ⟨h,e⟩),fun h=>fN fun e=>h2 (.inr ⟨h,e⟩)⟩,fun _=>rfl⟩;have hz:¬0<r.name.length+r.key.length:=fun e=>h1 ⟨h,e⟩;exact⟨fN (by omega),fN (by omega)⟩
theorem YM(r:Rq):Yn r=0↔Y6 r:=by
 unfold Yn;by_cases h0:1<=r.kind∧r.kind<=8;·rw[if_pos h0];by_cases h1:jH r=0;(·rw[if_pos h1];have hp:=(FZ r).1 h1;by_cases h2:32<r.value.length;(·rw[if_pos h2];exact⟨fun e=>(by cases e),fun e=>by have:=e.value;omega⟩);·rw[if_neg h2,Sp];refine⟨fun⟨e1,e2,e3⟩=>⟨h0,fun h=>(hp h).1,fun h=>(hp h).2.1,fun h=>(hp (by rw[h];decide)).2.2 h,by omega,fun h=>(e1 h).1,fun h=>(e1 h).2,e2,e3⟩,fun e=>⟨fun h=>⟨e.noName h,e.noKey h⟩,e.noLast,e.noValue⟩⟩);·rw[if_neg h1];refine⟨fun e=>absurd e h1,fun e=>(FZ r).2 fun h=>⟨e.name h,e.key h,e.last⟩⟩
 ·rw[if_neg h0];exact⟨fun e=>(by cases e),fun e=>absurd e.kind h0⟩
def Xt(c:Bool)(p:List UInt8):List UInt8:=if c=N then XV p else[]
def Jo(c:Bool)(r:List UInt8):Option (List UInt8×List UInt8):=if c=N then Zy r else F ([],r)
theorem jD(c:Bool)(p r:List UInt8)(h:c=N->p.length<256)(h0:c=V->p=[]):Jo c (Xt c p++r)=F (p,r):=by
 cases c with|true=>exact Vv p r (h rfl)|false=>rw[h0 rfl];rfl
theorem V8{c:Bool}{r p r2:List UInt8}(h:Jo c r=F (p,r2)):r=Xt c p++r2:=by
 cases c with|true=>exact GG h|false=>(obtain⟨rfl,rfl⟩:[]=p∧r=r2:=by simpa[Jo]using h);rfl
theorem jT{c:Bool}{r p r2:List UInt8}(h:Jo c r=F (p,r2))(x:List UInt8):Jo c (r++x)=F (p,r2++x):=by
 cases c with|true=>exact Ay h x|false=>(obtain⟨rfl,rfl⟩:[]=p∧r=r2:=by simpa[Jo]using h);rfl
theorem Ig{c:Bool}{r p r2:List UInt8}(h:Jo c r=F (p,r2))(hc:c=V):p=[]:=by
 subst hc;have:[]=p∧r=r2:=by simpa[Jo]using h
 exact this.1.symm
def xC(r:Rq):List UInt8:=Xt (QY r.kind) r.name++(Xt (QY r.kind) r.key++(Xt (tI (r.kind=3)) r.last++Xt (tI (r.kind=4)) r.value))
def KH(r:Rq):List UInt8:=tC r.kind.toNat::xC r
def Vr(k:Int)(n q l r:List UInt8):Option (Rq×List UInt8):=match Jo (tI (k=4)) r with|F (v,r2)=>F (⟨k,n,q,l,v⟩,r2)|none=>H
def Vs(k:Int)(n q r:List UInt8):Option (Rq×List UInt8):=match Jo (tI (k=3)) r with|F (l,r2)=>Vr k n q l r2|none=>H
def Vq(k:Int)(n r:List UInt8):Option (Rq×List UInt8):=match Jo (QY k) r with|F (q,r2)=>Vs k n q r2|none=>H
def Yk(k:Int)(r:List UInt8):Option (Rq×List UInt8):=match Jo (QY k) r with|F (n,r2)=>Vq k n r2|none=>H
theorem No{r:Rq}(h:Y6 r)(x:List UInt8):Yk r.kind (xC r++x)=F (r,x):=by
 have e1:=jD (QY r.kind) r.name (Xt (QY r.kind) r.key++(Xt (tI (r.kind=3)) r.last++(Xt (tI (r.kind=4)) r.value++x))) (fun e=>by have:=h.name e;omega) h.noName;have e2:=jD (QY r.kind) r.key (Xt (tI (r.kind=3)) r.last++(Xt (tI (r.kind=4)) r.value++x)) (fun e=>by have:=h.key e;omega) h.noKey;have e3:=jD (tI (r.kind=3)) r.last (Xt (tI (r.kind=4)) r.value++x) (fun e=>by have:=h.last (by simpa using e);omega) (fun e=>h.noLast (by simpa using e));have e4:=jD (tI (r.kind=4)) r.value x (fun _=>by have:=h.value;omega) (fun e=>h.noValue (by simpa using e));rw[xC,tB,tB,tB,Yk,e1];show Vq _ _ _=_;rw[Vq,e2];show Vs _ _ _ _=_;rw[Vs,e3];show Vr _ _ _ _ _=_;rw[Vr,e4]
theorem uI{k:Int}{b x:List UInt8}{r:Rq}(h:Yk k b=F (r,x)):r.kind=k∧∃r1 r2 r3,Jo (QY k) b=F (r.name,r1)∧Jo (QY k) r1=F (r.key,r2)∧Jo (tI (k=3)) r2=F (r.last,r3)∧Jo (tI (k=4)) r3=F (r.value,x):=by
 rw[Yk]at h;match h1:Jo (QY k) b with|none=>rw[h1]at h;cases h|F (n,r1)=>rw[h1]at h;replace h:Vq k n r1=F (r,x):=h;rw[Vq]at h;match h2:Jo (QY k) r1 with|none=>rw[h2]at h;cases h|F (q,r2)=>rw[h2]at h;replace h:Vs k n q r2=F (r,x):=h;rw[Vs]at h;match h3:Jo (tI (k=3)) r2 with|none=>rw[h3]at h;cases h|F (l,r3)=>rw[h3]at h;replace h:Vr k n q l r3=F (r,x):=h;rw[Vr]at h;match h4:Jo (tI (k=4)) r3 with|none=>rw[h4]at h;cases h|F (v,r4)=>rw[h4]at h;(obtain⟨rfl,rfl⟩:(⟨k,n,q,l,v⟩:Rq)=r∧r4=x:=by simpa using h);exact⟨rfl,r1,r2,r3,rfl,h2,h3,h4⟩
theorem dP{k:Int}{b r1 r2 r3 x n q l v:List UInt8}(h1:Jo (QY k) b=F (n,r1))(h2:Jo (QY k) r1=F (q,r2))(h3:Jo (tI (k=3)) r2=F (l,r3))(h4:Jo (tI (k=4)) r3=F (v,x)):Yk k b=F (⟨k,n,q,l,v⟩,x):=by
 rw[Yk,h1];show Vq _ _ _=_;rw[Vq,h2];show Vs _ _ _ _=_;rw[Vs,h3];show Vr _ _ _ _ _=_;rw[Vr,h4]
theorem T6{k:Int}{b x:List UInt8}{r:Rq}(h:Yk k b=F (r,x)):b=xC r++x∧r.kind=k:=by
 obtain⟨hk,r1,r2,r3,h1,h2,h3,h4⟩:=uI h;refine⟨?_,hk⟩;rw[xC,hk,V8 h1,V8 h2,V8 h3,V8 h4];simp[tB]
theorem Wp{k:Int}{b y:List UInt8}{r:Rq}(h:Yk k b=F (r,y))(x:List UInt8):Yk k (b++x)=F (r,y++x):=by
 obtain⟨hk,r1,r2,r3,h1,h2,h3,h4⟩:=uI h;have:=dP (jT h1 x) (jT h2 x) (jT h3 x) (jT h4 x);rw[this,<-hk]
def Uz(b:List UInt8):Int:=((b.getD 0 0).toNat:Int)
def QL(b:List UInt8):Int:=if 4000<b.length then 1 else if b.length=0then 14 else if 1<=Uz b∧Uz b<=8then(match Yk (Uz b) (b.drop 1)with|none=>14|F (r,x)=>if x.length=0then Yn r else 4)else 5
def Qw(b:List UInt8):Rq:=if QL b=0then(match Yk (Uz b) (b.drop 1)with|F (r,_)=>r|none=>Gn)else Gn
theorem ND{r:Rq}(h:Y6 r)(x:List UInt8):Uz (KH r++x)=r.kind∧(KH r++x).drop 1=xC r++x:=by
 have h0:=h.kind;refine⟨?_,rfl⟩;show(((tC r.kind.toNat).toNat:Nat):Int)=r.kind;simp;omega
theorem K9(c:Bool)(p:List UInt8):(Xt c p).length<=p.length+1:=by
 cases c with|true=>exact sA _|false=>exact Nat.zero_le _
theorem TH{r:Rq}(h:Y6 r):(KH r).length<=78∧1<=(KH r).length:=by
 have l1:=K9 (QY r.kind) r.name;have l2:=K9 (QY r.kind) r.key;have l3:=K9 (tI (r.kind=3)) r.last;have l4:=K9 (tI (r.kind=4)) r.value;have k1:r.name.length<=8:=by by_cases e:QY r.kind=N;(·exact(h.name e).2);·rw[h.noName (by simpa using e)];simp
 have k2:r.key.length<=16:=by by_cases e:QY r.kind=N;(·exact(h.key e).2);·rw[h.noKey (by simpa using e)];simp
 have k3:r.last.length<=16:=by by_cases e:r.kind=3;(·exact(h.last e).2);·rw[h.noLast e];simp
 have k4:=h.value;have e:(KH r).length=1+(Xt (QY r.kind) r.name).length+(Xt (QY r.kind) r.key).length+(Xt (tI (r.kind=3)) r.last).length+(Xt (tI (r.kind=4)) r.value).length:=by rw[KH,xC,pA,T,T,T];omega
 omega
theorem CY{r:Rq}(h:Y6 r):QL (KH r)=0∧Qw (KH r)=r:=by
 have hl:=TH h;obtain⟨e1,e2⟩:=ND h [];rw[tV]at e1 e2;have e3:=No h [];have e:QL (KH r)=0:=by rw[QL,if_neg (by omega),if_neg (by omega),e1,if_pos h.kind,e2,e3];show(if([]:List UInt8).length=0then Yn r else 4)=0;rw[if_pos (by simp)];exact(YM r).2 h
 refine⟨e,?_⟩;rw[Qw,if_pos e,e1,e2,e3]
theorem lX{r:Rq}(h:Y6 r)(k:Nat)(hk:k<(KH r).length):QL ((KH r).take k)=14:=by
 have hl2:=TH h;have hlen:((KH r).take k).length=k:=by rw[List.length_take];omega
 rw[QL,if_neg (by omega)];by_cases h0:k=0;·rw[if_pos (by omega)]
 ·rw[if_neg (by omega)];have hsp:(KH r).take k++(KH r).drop k=KH r:=tE _ _;(have hkd:Uz ((KH r).take k)=r.kind:=by obtain⟨e1,_⟩:=ND h [];rw[tV]at e1;rw[<-e1];match k,h0 with|k+1,_=>rfl);rw[hkd,if_pos h.kind];match hD:Yk r.kind (((KH r).take k).drop 1)with|none=>rfl|F (r',y)=>have hm:=Wp hD ((KH r).drop k);(have hd:((KH r).take k).drop 1++(KH r).drop k=xC r:=by match k,h0 with|k+1,_=>show(xC r).take k++(xC r).drop k=xC r;exact tE _ _);rw[hd]at hm;have hb:=No h [];rw[tV,hm]at hb;(have he:y++(KH r).drop k=[]:=by have:=congrArg (fun o=>o.map Prod.snd) hb;simpa using this);have:=congrArg List.length he;rw[T,oE]at this;simp at this;omega
theorem YY{b:List UInt8}(h:QL b=0):Yn (Qw b)=0∧KH (Qw b)=b:=by
 have h':=h;rw[QL]at h;by_cases h1:4000<b.length;·rw[if_pos h1]at h;cases h
 ·rw[if_neg h1]at h;by_cases h2:b.length=0;(·rw[if_pos h2]at h;cases h);·rw[if_neg h2]at h;by_cases h3:1<=Uz b∧Uz b<=8;(·rw[if_pos h3]at h;match hD:Yk (Uz b) (b.drop 1)with|none=>rw[hD]at h;cases h|F (r,x)=>rw[hD]at h;replace h:(if x.length=0then Yn r else 4)=0:=h;by_cases hx:x.length=0;(·rw[if_pos hx]at h;(have hr:Qw b=r:=by rw[Qw,if_pos h',hD]);rw[hr];refine⟨h,?_⟩;obtain⟨f1,f2⟩:=T6 hD;rw[tD hx,tV]at f1;rw[KH,<-f1,f2];match b,h2 with|c::b,_=>show tC ((c.toNat:Nat):Int).toNat::b=c::b;simp);·rw[if_neg hx]at h;cases h);·rw[if_neg h3]at h;cases h
theorem jS{b:List UInt8}(h:QL b≠0):Qw b=Gn:=by
 rw[Qw,if_neg h]
def Un(r:Rq):Int:=if Yn r=0then(if r.kind=2∨r.kind=3then 0 else 7)else Yn r
def Zx(r:Rq):Rd:=if Un r=0then⟨r.name,r.key,tI (r.kind=3),r.last⟩else Zh
def Jt(r:Rq):Int:=if Yn r=0then(if r.kind=4∨r.kind=5then 0 else 7)else Yn r
def XH(r:Rq):Zi:=if Jt r=0then⟨r.name,r.key,r.value,tI (r.kind=5)⟩else Qr
theorem bD{r:Rq}(h:Un r=0):XM (Zx r)=0:=by
 have h':=h;unfold Un at h;by_cases h0:Yn r=0;·rw[if_pos h0]at h;have ho:=(YM r).1 h0;by_cases h1:r.kind=2∨r.kind=3;(·(have hn:QY r.kind=N:=by rcases h1 with h1|h1<;>rw[h1]<;>decide);rw[Zx,if_pos h',EW];refine⟨ho.name hn,ho.key hn,?_⟩;show if tI (r.kind=3)=N then _ else _;by_cases h3:r.kind=3;(·rw[if_pos (by simpa using h3)];exact ho.last h3);·rw[if_neg (by simpa using h3)];exact ho.noLast h3);·rw[if_neg h1]at h;cases h
 ·rw[if_neg h0]at h;exact absurd h h0
theorem E9{r:Rq}(h:Jt r=0):QC (XH r)=0:=by
 have h':=h;unfold Jt at h;by_cases h0:Yn r=0;·rw[if_pos h0]at h;have ho:=(YM r).1 h0;by_cases h1:r.kind=4∨r.kind=5;(·(have hn:QY r.kind=N:=by rcases h1 with h1|h1<;>rw[h1]<;>decide);rw[XH,if_pos h',XT];refine⟨ho.name hn,ho.key hn,?_⟩;show if tI (r.kind=5)=N then _ else _;by_cases h3:r.kind=5;(·rw[if_pos (by simpa using h3)];exact ho.noValue (by omega));·rw[if_neg (by simpa using h3)];exact ho.value);·rw[if_neg h1]at h;cases h
 ·rw[if_neg h0]at h;exact absurd h h0
theorem D0{r:Rq}(h:Y6 r):Un r=(if r.kind=2∨r.kind=3then 0 else 7)∧Jt r=(if r.kind=4∨r.kind=5then 0 else 7):=by
 have:=(YM r).2 h;exact⟨by rw[Un,if_pos this],by rw[Jt,if_pos this]⟩
def OY(l:List Ac):List UInt8:=l.flatMap fun a=>mP a++[10]
def Ui:Nat->List Ac->Option (Nat×Int)|_,[]=>H|n,a::l=>if Ja a=0then Ui (n+1) l else F (n,Ja a)
def Gz(l:List Ac):Int:=if 100000<l.length then 1 else match Ui 0 l with|none=>0|F (_,e)=>e
def FA(l:List Ac):Nat:=if 100000<l.length then 0 else match Ui 0 l with|none=>0|F (i,_)=>i
def FF(l:List Ac):List UInt8:=if Gz l=0then OY l else[]
theorem NH:∀(l:List Ac)(n:Nat),Ui n l=H↔∀a∈l,K8 a|[],_=>by simp[Ui]|a::l,n=>by rw[Ui];by_cases ha:Ja a=0;(·rw[if_pos ha,NH l (n+1)];simp only[tS,forall_eq_or_imp];exact⟨fun h=>⟨(uO a).1 ha,h⟩,fun h=>h.2⟩);·rw[if_neg ha];exact⟨fun h=>(by cases h),fun h=>absurd ((uO a).2 (h a (by simp))) ha⟩
theorem Wh(l:List Ac)(m:Nat)(hm:m<l.length):Ui m (l.drop m)=if Ja (l.getD m US)=0then Ui (m+1) (l.drop (m+1))else F (m,Ja (l.getD m US)):=by
 rw[sD hm,Ui,show l[m]=l.getD m US by simp[hm]]
theorem mT{l:List Ac}(h:∀a∈l,K8 a)(hl:l.length<=100000):Gz l=0∧FA l=0∧FF l=OY l:=by
 have hb:=(NH l 0).2 h;have he:Gz l=0:=by rw[Gz,if_neg (by omega),hb]
 exact⟨he,by rw[FA,if_neg (by omega),hb],by rw[FF,if_pos he]⟩
theorem Hn{l:List Ac}(h:100000<l.length):Gz l=1∧FA l=0∧FF l=[]:=by
 have e:Gz l=1:=by rw[Gz,if_pos h]
 exact⟨e,by rw[FA,if_pos h],by rw[FF,e,if_neg (by decide)]⟩
theorem T5{l:List Ac}(h:l.length<=100000)(hb:Ui 0 l=H):Gz l=0∧FA l=0∧FF l=OY l:=by
 have e:Gz l=0:=by rw[Gz,if_neg (by omega),hb]
 exact⟨e,by rw[FA,if_neg (by omega),hb],by rw[FF,if_pos e]⟩
theorem cN{l:List Ac}(h:l.length<=100000){i:Nat}{e:Int}(hb:Ui 0 l=F (i,e))(he:e≠0):Gz l=e∧FA l=i∧FF l=[]:=by
 have h1:Gz l=e:=by rw[Gz,if_neg (by omega),hb]
 exact⟨h1,by rw[FA,if_neg (by omega),hb],by rw[FF,h1,if_neg he]⟩
theorem gA{l:List Ac}{m:Nat}(hm:m<l.length)(hb:Ui 0 l=Ui m (l.drop m)):(Ja (l.getD m US)=0->Ui 0 l=Ui (m+1) (l.drop (m+1)))∧(Ja (l.getD m US)≠0->Ui 0 l=F (m,Ja (l.getD m US))):=by
 rw[hb,Wh l m hm];exact⟨fun h=>by rw[if_pos h],fun h=>by rw[if_neg h]⟩
def X8(w:I)(v:O)(r:Rq):Prop:=∃vn vk vl vv,v=pR #[tK rC r.kind,vn,vk,vl,vv]∧Qe w vn r.name∧Qe w vk r.key∧Qe w vl r.last∧Qe w vv r.value
theorem X8.grown{w w':I}{v:O}{r:Rq}(h:X8 w v r)(hg:J w w' H):X8 w' v r:=by
 obtain⟨vn,vk,vl,vv,rfl,h1,h2,h3,h4⟩:=h;exact⟨vn,vk,vl,vv,rfl,h1.grown hg,h2.grown hg,h3.grown hg,h4.grown hg⟩
theorem X8.agg{w:I}{v:O}{r:Rq}(h:X8 w v r):∃n1 n2 k1 k2 l1 l2 v1 v2,v=pR #[tK rC r.kind,tH n1 r.name.length n2,tH k1 r.key.length k2,tH l1 r.last.length l2,tH v1 r.value.length v2]:=by
 obtain⟨vn,vk,vl,vv,rfl,h1,h2,h3,h4⟩:=h;obtain⟨n1,n2,rfl⟩:=h1.shape;obtain⟨k1,k2,rfl⟩:=h2.shape;obtain⟨l1,l2,rfl⟩:=h3.shape;obtain⟨v1,v2,rfl⟩:=h4.shape;exact⟨n1,n2,k1,k2,l1,l2,v1,v2,rfl⟩
theorem X8.parts{w:I}{r:Rq}{x a b c d:O}(h:X8 w (pR #[x,a,b,c,d]) r):x=tK rC r.kind∧Qe w a r.name∧Qe w b r.key∧Qe w c r.last∧Qe w d r.value:=by
 obtain⟨vn,vk,vl,vv,e,h1,h2,h3,h4⟩:=h;simp only[Value.agg.injEq,Array.mk.injEq,List.cons.injEq,and_true]at e;obtain⟨rfl,rfl,rfl,rfl,rfl⟩:=e;exact⟨rfl,h1,h2,h3,h4⟩
theorem vP(w:I):X8 w (pR #[tK rC 0,tH H 0 0,tH H 0 0,tH H 0 0,tH H 0 0]) Gn:=⟨_,_,_,_,rfl,QE w,QE w,QE w,QE w⟩
structure yY(r:Rq):Prop where kind:-9223372036854775808<=r.kind∧r.kind<=9223372036854775807name:r.name.length<=140737488355328key:r.key.length<=140737488355328last:r.last.length<=140737488355328value:r.value.length<=140737488355328
theorem uM{r:Rq}(h:Y6 r):yY r:=by
 have h0:=h.kind;have h5:=h.value;have k1:r.name.length<=8:=by by_cases e:QY r.kind=N;(·exact(h.name e).2);·rw[h.noName (by simpa using e)];simp
 have k2:r.key.length<=16:=by by_cases e:QY r.kind=N;(·exact(h.key e).2);·rw[h.noKey (by simpa using e)];simp
 have k3:r.last.length<=16:=by by_cases e:r.kind=3;(·exact(h.last e).2);·rw[h.noLast e];simp
 exact⟨by omega,by omega,by omega,by omega,by omega⟩
theorem Qp{W w:I}{b:Nat}{x y z u s:O}{t:rA}(hg:J W w H)(h:W.heap[b]?=F (tJ #[x,y,z,u,s] t)):(w.cell? ⟨b,0,H⟩=F x∧w.cell? ⟨b,1,H⟩=F y∧w.cell? ⟨b,2,H⟩=F z∧w.cell? ⟨b,3,H⟩=F u∧w.cell? ⟨b,4,H⟩=F s)∧(w.frozen? ⟨b,0,H⟩=V∧w.frozen? ⟨b,1,H⟩=V∧w.frozen? ⟨b,2,H⟩=V∧w.frozen? ⟨b,3,H⟩=V∧w.frozen? ⟨b,4,H⟩=V)∧w.heap[b]?=F (tJ #[x,y,z,u,s] t):=by
 have hb:w.heap[b]?=F (tJ #[x,y,z,u,s] t):=by rw[hg.block b (tL.1 h).1 (by simp)];exact h
 refine⟨⟨?_,?_,?_,?_,?_⟩,⟨?_,?_,?_,?_,?_⟩,hb⟩;all_goals simp[tZ,sZ,hb]
theorem Yt{w:I}{b i:Nat}{cs:Array O}{t:rA}{fz:Nat×Nat}{u:O}(h:w.heap[b]?=F (tJ cs t fz)):(tG w ⟨b,i,H⟩ u).heap[b]?=F (tJ (cs.setIfInBounds i u) t fz):=by
 simp only[tG,tQ,if_true,h,sR];rfl
theorem zK{w:I}{b c i:Nat}{o:Obj}{u:O}(h:w.heap[b]?=F o)(hne:b≠c):(tG w ⟨c,i,H⟩ u).heap[b]?=F o:=by
 simp only[tG,tQ];rw[if_neg (fun e=>hne e.symm)];exact h
abbrev Ox(w:I)(b:Nat)(x y z u s:O):I:=((((tG w ⟨b,0,H⟩ x).setCell ⟨b,1,H⟩ y).setCell ⟨b,2,H⟩ z).setCell ⟨b,3,H⟩ u).setCell ⟨b,4,H⟩ s
theorem vQ{w:I}{b:Nat}{x y z u s:O}{t:rA}(h:w.heap[b]?=F (tJ #[x,y,z,u,s] t))(x' y' z' u' s':O):(Ox w b x' y' z' u' s').heap[b]?=F (tJ #[x',y',z',u',s'] t):=Yt (Yt (Yt (Yt (Yt h))))
theorem zY{w W:I}{b:Nat}(hg:J w W H)(hb:w.heap.size<=b)(x y z u s:O):J w (Ox W b x y z u s) H:=Qc (Qc (Qc (Qc (Qc hg _ hb _ _) _ hb _ _) _ hb _ _) _ hb _ _) _ hb _ _
theorem Wb(W:I)(b:Nat)(x y z u s:O):J W (Ox W b x y z u s) (F b):=Qg (Qg (Qg (Qg (Qg (Qb W (F b)) _ _) _ _) _ _) _ _) _ _
abbrev Gl(w:I)(b:Nat)(x y z u:O):I:=(((tG w ⟨b,0,H⟩ x).setCell ⟨b,1,H⟩ y).setCell ⟨b,2,H⟩ z).setCell ⟨b,3,H⟩ u
theorem Yg{w:I}{b:Nat}{x y z u:O}{t:rA}(h:w.heap[b]?=F (tJ #[x,y,z,u] t))(x' y' z' u':O):(Gl w b x' y' z' u').heap[b]?=F (tJ #[x',y',z',u'] t):=Yt (Yt (Yt (Yt h)))
theorem Xc{w W:I}{b:Nat}(hg:J w W H)(hb:w.heap.size<=b)(x y z u:O):J w (Gl W b x y z u) H:=Qc (Qc (Qc (Qc hg _ hb _ _) _ hb _ _) _ hb _ _) _ hb _ _
theorem Yr(W:I)(b:Nat)(x y z u:O):J W (Gl W b x y z u) (F b):=Qg (Qg (Qg (Qg (Qb W (F b)) _ _) _ _) _ _) _ _
theorem Q9.later{base:Nat}{w w':I}{v:O}{bs:List UInt8}(h:Q9 base w v bs){b:Nat}(hg:J w w' (F b))(hb:b<base):Q9 base w' v bs:=by
 refine h.grown hg (.inr fun e=>?_);have:=(h.lt b e).1;omega
def Nv(i:Nat):Nat:=[0,0,3,7,11,3,0,0,3].getD i 0
def Vw(w:I):Prop:=∀i,i<9->w.cell? ⟨0,i,H⟩=F (tK rK ((Nv i:Nat):Int))
theorem Vw.grown{w w':I}(h:Vw w)(hg:J w w' H):Vw w':=fun i hi=>hg.cell (h i hi) (by
 simp)
def QT(k:Int):Nat->Bool|0=>QY k|1=>QY k|2=>tI (k=3)|_=>tI (k=4)
theorem gD(k j:Nat)(hk:k<9)(hj:j<4):(bits BinOp.and rK ((Nv k:Nat):Int) ((2^j:Nat):Int)!=0)=QT (k:Int) j:=(by
 decide+kernel:∀(k:Fin 9)(j:Fin 4),(bits BinOp.and rK ((Nv k.1:Nat):Int) ((2^j.1:Nat):Int)!=0)=QT (k.1:Int) j.1) ⟨k,hk⟩ ⟨j,hj⟩
def yK(r:Rq):List UInt8:=if Yn r=0then KH r else[]
def aI:Prop:=∀(w:I)(v:O)(r:Rq),Vw w->X8 w v r->yY r->r8 tA 15 #[v] w fun e w'=>∃x,e=sS (pZ #[x,tK rC (Yn r)])∧Qh 0 w' x (yK r)∧J w w' H
def Yx(w:I)(v:O)(r:Rd):Prop:=∃vn vk vl,v=pR #[vn,vk,pS r.wide,vl]∧Qe w vn r.name∧Qe w vk r.key∧Qe w vl r.last
theorem Yx.grown{w w':I}{v:O}{r:Rd}(h:Yx w v r)(hg:J w w' H):Yx w' v r:=by
 obtain⟨vn,vk,vl,rfl,h1,h2,h3⟩:=h;exact⟨vn,vk,vl,rfl,h1.grown hg,h2.grown hg,h3.grown hg⟩
theorem Yx.agg{w:I}{v:O}{r:Rd}(h:Yx w v r):∃na nc ka kc la lc,v=pR #[tH na r.name.length nc,tH ka r.key.length kc,pS r.wide,tH la r.last.length lc]:=by
 obtain⟨vn,vk,vl,rfl,h1,h2,h3⟩:=h;obtain⟨na,nc,rfl⟩:=h1.shape;obtain⟨ka,kc,rfl⟩:=h2.shape;obtain⟨la,lc,rfl⟩:=h3.shape;exact⟨na,nc,ka,kc,la,lc,rfl⟩
theorem Yx.parts{w:I}{r:Rd}{x y g z:O}(h:Yx w (pR #[x,y,g,z]) r):Qe w x r.name∧Qe w y r.key∧g=pS r.wide∧Qe w z r.last:=by
 obtain⟨vn,vk,vl,e,h1,h2,h3⟩:=h;simp only[Value.agg.injEq,Array.mk.injEq,List.cons.injEq,and_true]at e;obtain⟨rfl,rfl,rfl,rfl⟩:=e;exact⟨h1,h2,rfl,h3⟩
structure Fe(r:Rd):Prop where name:r.name.length<=140737488355328key:r.key.length<=140737488355328last:r.last.length<=140737488355328
structure Vl where
  bit : Int
  right : Bool
  other : List UInt8
structure Gw where
  empty : Bool
  steps : List Vl
  pair : Pr
def QV:Vl:=⟨0,V,[]⟩
def Vd:Gw:=⟨V,[],([],[])⟩
instance:Inhabited Vl:=⟨QV⟩
instance:Inhabited Gw:=⟨Vd⟩
def Jg(k q:List UInt8)(l:List Vl)(i:Nat):Prop:=(0<=(l.getD i QV).bit∧(l.getD i QV).bit<=144)∧(l.getD i QV).other.length=32∧(0<i->(l.getD (i-1) QV).bit<(l.getD i QV).bit)∧Zz k (l.getD i QV).bit.toNat=(l.getD i QV).right∧Zz q (l.getD i QV).bit.toNat=(l.getD i QV).right
instance(k q:List UInt8)(l:List Vl)(i:Nat):Decidable (Jg k q l i):=by
 unfold Jg;infer_instance
def lH(k:List UInt8)(p:Gw):Prop:=(p.empty=N∧p.steps=[]∧p.pair.1=[]∧p.pair.2=[])∨(p.empty=V∧QN p.pair=0∧∀i,i<p.steps.length->Jg k p.pair.1 p.steps i)
open Classical in noncomputable def Yf(k:List UInt8)(p:Gw):Int:=if Qn k.length=0then(if lH k p then 0 else 4)else Qn k.length
theorem Rl{k:List UInt8}{p:Gw}(h:Qn k.length≠0):Yf k p=Qn k.length:=by
 rw[Yf,if_neg h]
theorem kP{k:List UInt8}{p:Gw}(h:Qn k.length=0)(hm:lH k p):Yf k p=0:=by
 rw[Yf,if_pos h,if_pos hm]
theorem zH{k:List UInt8}{p:Gw}(h:Qn k.length=0)(hm:¬lH k p):Yf k p=4:=by
 rw[Yf,if_pos h,if_neg hm]
theorem WN{k:List UInt8}{p:Gw}(h:Yf k p=0):Qn k.length=0∧lH k p:=by
 by_cases hk:Qn k.length=0;·by_cases hm:lH k p;(·exact⟨hk,hm⟩);·rw[zH hk hm]at h;cases h
 ·rw[Rl hk]at h;exact absurd h hk
def UA(l:PL):Nat->Int|0=>999|1=>999|m+2=>if JY (l.getD 0 ([],[])).1 (l.getD (m+1) ([],[])).1<UA l (m+1)then JY (l.getD 0 ([],[])).1 (l.getD (m+1) ([],[])).1 else UA l (m+1)
def Qv(l:PL):Int:=UA l l.length
def Jc(l:PL)(b:Nat)(x:Bool):PL:=l.filter fun q=>Zz q.1 b==x
theorem Cs(l:PL)(b:Nat)(x:Bool):(Jc l b x).length<=l.length:=rB _ _
theorem Xr{l:PL}(h:Zd l)(b:Nat)(x:Bool):Zd (Jc l b x):=⟨rH (Cs l b x) h.room,fun p hp=>h.pairs p (pB.1 hp).1,sV _ h.rises⟩
theorem Cw{l:PL}(h:Zd l)(i j:Nat)(hij:i<j)(hj:j<l.length):0<=JY (l.getD i ([],[])).1 (l.getD j ([],[])).1:=by
 have hk:=K3 l h.rises i j hij hj;have h1:=(h.pairs l[i] (sH (by omega))).1;have h2:=(h.pairs l[j] (sH hj)).1;rw[show l[i]=l.getD i ([],[])by simp[show i<l.length by omega]]at h1;rw[show l[j]=l.getD j ([],[])by simp[hj]]at h2;have:=AQ (l.getD i ([],[])).1 (l.getD j ([],[])).1 h1.2 h2.2;have hne:=Od hk;by_cases hp:JY (l.getD i ([],[])).1 (l.getD j ([],[])).1<0;·exact absurd (this.1 hp) hne
 ·omega
theorem Fp{l:PL}(h:Zd l):∀m,m<=l.length->0<=UA l m∧(2<=m->UA l m<=144)∧UA l m<=999|0,_=>⟨by simp[UA],by omega,by simp[UA]⟩|1,_=>⟨by simp[UA],by omega,by simp[UA]⟩|m+2,hm=>by have ih:=Fp h (m+1) (by omega);have hp:=Cw h 0 (m+1) (by omega) (by omega);have hr:=Ft (l.getD 0 ([],[])).1 (l.getD (m+1) ([],[])).1;rw[UA];by_cases hlt:JY (l.getD 0 ([],[])).1 (l.getD (m+1) ([],[])).1<UA l (m+1);(·rw[if_pos hlt];omega);·rw[if_neg hlt];omega
theorem Xi{l:PL}(h:Zd l)(h2:2<=l.length):0<=Qv l∧Qv l<=144:=by
 have:=Fp h l.length (sA _);exact⟨this.1,this.2.1 h2⟩
theorem Ep{l:PL}(_h:Zd l):∀m,2<=m->m<=l.length->∃j,0<j∧j<m∧UA l m=JY (l.getD 0 ([],[])).1 (l.getD j ([],[])).1|0,h,_=>by omega|1,h,_=>by omega|m+2,_,hm=>by rw[UA];by_cases hlt:JY (l.getD 0 ([],[])).1 (l.getD (m+1) ([],[])).1<UA l (m+1);(·rw[if_pos hlt];exact⟨m+1,by omega,by omega,rfl⟩);·rw[if_neg hlt];by_cases h0:m=0;(·subst h0;have hr:=Ft (l.getD 0 ([],[])).1 (l.getD (0+1) ([],[])).1;simp only[UA]at hlt;omega);·obtain⟨j,h1,h2,h3⟩:=Ep _h (m+1) (by omega) (by omega);exact⟨j,h1,by omega,h3⟩
theorem kU{l:PL}(h:Zd l)(h2:2<=l.length):∀x,(Jc l (Qv l).toNat x).length<l.length:=by
 obtain⟨j,hj1,hj2,hj3⟩:=Ep h l.length h2 (sA _);have hr:=Xi h h2;have hd:Zz (l.getD 0 ([],[])).1 (Qv l).toNat≠Zz (l.getD j ([],[])).1 (Qv l).toNat:=by rcases J7 (l.getD 0 ([],[])).1 (l.getD j ([],[])).1with⟨e,_⟩|⟨m,e,_,_,hd⟩;(·rw[<-hj3]at e;unfold Qv at hr;omega);·(have:(Qv l).toNat=m:=by unfold Qv;omega);rw[this];exact hd
 intro x;by_cases hlt:(Jc l (Qv l).toNat x).length<l.length;·exact hlt
 ·(have he:(Jc l (Qv l).toNat x).length=l.length:=by have:=Cs l (Qv l).toNat x;omega);have hall:=List.length_filter_eq_length_iff.1 he;have h0:=hall l[0] (sH (by omega));have hj:=hall l[j] (sH hj2);rw[show l[0]=l.getD 0 ([],[])by simp[show 0<l.length by omega]]at h0;rw[show l[j]=l.getD j ([],[])by simp[hj2]]at hj;simp only[beq_iff_eq]at h0 hj;exact absurd (h0.trans hj.symm) hd
def JX(l:PL)(b:Nat):Nat:=(l.takeWhile fun q=>!Zz q.1 b).length
theorem yA(l:PL):∀m j,0<j->j<m->m<=l.length->UA l m<=JY (l.getD 0 ([],[])).1 (l.getD j ([],[])).1|0,j,_,h,_=>by omega|1,j,h0,h,_=>by omega|m+2,j,h0,h,hm=>by rw[UA];by_cases hlt:JY (l.getD 0 ([],[])).1 (l.getD (m+1) ([],[])).1<UA l (m+1);(·rw[if_pos hlt];by_cases e:j=m+1;(·subst e;exact oN _);·have:=yA l (m+1) j h0 (by omega) (by omega);omega);·rw[if_neg hlt];by_cases e:j=m+1;(·subst e;omega);·exact yA l (m+1) j h0 (by omega) (by omega)
theorem qH{l:PL}(h:Zd l)(h2:2<=l.length)(j:Nat)(hj:j<l.length)(b:Nat)(hb:b<(Qv l).toNat):Zz (l.getD 0 ([],[])).1 b=Zz (l.getD j ([],[])).1 b:=by
 by_cases h0:j=0;·subst h0;rfl
 ·have hm:=yA l l.length j (by omega) hj (sA _);have hr:=Xi h h2;rcases J7 (l.getD 0 ([],[])).1 (l.getD j ([],[])).1with⟨e,hs⟩|⟨m,e,hm1,hs,_⟩;(·exact hs b (by omega));·exact hs b (by unfold Qv at hb;omega)
theorem Mb{l:PL}(h:Zd l)(h2:2<=l.length)(i j:Nat)(hij:i<j)(hj:j<l.length)(hi:Zz (l.getD i ([],[])).1 (Qv l).toNat=N):Zz (l.getD j ([],[])).1 (Qv l).toNat=N:=by
 have hk:=K3 l h.rises i j hij hj;have hp:=Cw h i j hij hj;rcases J7 (l.getD i ([],[])).1 (l.getD j ([],[])).1with⟨e,_⟩|⟨m,e,hm,hs,hd⟩;·omega
 ·(have hge:(Qv l).toNat<=m:=by by_cases hlt:m<(Qv l).toNat;(·exact absurd ((qH h h2 i (by omega) m hlt).symm.trans (qH h h2 j hj m hlt)) hd);·omega);by_cases he:(Qv l).toNat=m;(·rw[he];have:=TI _ _ m hs hd;rw[this];exact hk);·rw[<-hs _ (by omega)];exact hi
theorem Ff{l:PL}(h:Zd l)(h2:2<=l.length):Zz (l.getD 0 ([],[])).1 (Qv l).toNat=V∧Zz (l.getD (l.length-1) ([],[])).1 (Qv l).toNat=N:=by
 obtain⟨j,hj1,hj2,hj3⟩:=Ep h l.length h2 (sA _);have hr:=Xi h h2;have hk:=K3 l h.rises 0 j hj1 hj2;rcases J7 (l.getD 0 ([],[])).1 (l.getD j ([],[])).1with⟨e,_⟩|⟨m,e,hm,hs,hd⟩;·rw[<-hj3]at e;unfold Qv at hr;omega
 ·(have em:(Qv l).toNat=m:=by unfold Qv;omega);have ho:=TI _ _ m hs hd;(have hjt:Zz (l.getD j ([],[])).1 m=N:=by rw[ho];exact hk);refine⟨?_,?_⟩;(·rw[em];cases hx:Zz (l.getD 0 ([],[])).1 m with|false=>rfl|true=>exact absurd (hx.trans hjt.symm) hd);·by_cases hl:j=l.length-1;(·rw[<-hl,em];exact hjt);·exact Mb h h2 j (l.length-1) (by omega) (by omega) (by rw[em];exact hjt)
theorem N5{l:PL}(h:Zd l)(h2:2<=l.length):JY (l.getD 0 ([],[])).1 (l.getD (l.length-1) ([],[])).1=Qv l:=by
 have hr:=Xi h h2;obtain⟨e1,e2⟩:=Ff h h2;rw[D6 _ _ (Qv l).toNat (by omega) (fun b hb=>qH h h2 _ (by omega) b hb) (by rw[e1,e2];simp)];omega
theorem Lw:∀(l:PL)(b j:Nat),j<JX l b->Zz (l.getD j ([],[])).1 b=V|[],b,j,h=>by simp[JX]at h|p::r,b,j,h=>by cases hk:Zz p.1 b with|true=>simp[JX,hk]at h|false=>cases j with|zero=>simpa using hk|succ j=>have:=Lw r b j (by unfold JX at h⊢;rw[tM (p:=fun q:Pr=>!Zz q.1 b) (by simp[hk])]at h;simpa using h);simpa using this
theorem Bt:∀(l:PL)(b:Nat),JX l b<l.length->Zz (l.getD (JX l b) ([],[])).1 b=N|[],b,h=>by simp at h|p::r,b,h=>by cases hk:Zz p.1 b with|true=>simp[JX,hk]|false=>(have e:JX (p::r) b=JX r b+1:=by unfold JX;rw[tM (p:=fun q:Pr=>!Zz q.1 b) (by simp[hk])];simp);rw[e]at h⊢;have:=Bt r b (by simpa using h);simpa using this
theorem G7{l:PL}(h:Zd l)(h2:2<=l.length)(j:Nat)(hj:j<l.length):Zz (l.getD j ([],[])).1 (Qv l).toNat=tI (JX l (Qv l).toNat<=j):=by
 by_cases hlt:j<JX l (Qv l).toNat;·rw[decide_eq_false (by omega)];exact Lw l _ j hlt
 ·rw[decide_eq_true (by omega)];have h0:=Bt l (Qv l).toNat (by omega);by_cases e:j=JX l (Qv l).toNat;(·rw[e];exact h0);·exact Mb h h2 _ j (by omega) hj h0
theorem UH{l:PL}(h:Zd l)(h2:2<=l.length):0<JX l (Qv l).toNat∧JX l (Qv l).toNat<l.length:=by
 obtain⟨e1,e2⟩:=Ff h h2;rw[G7 h h2 0 (by omega)]at e1;rw[G7 h h2 _ (by omega)]at e2;simp at e1 e2;omega
theorem uD{l:PL}(h:Zd l)(h2:2<=l.length):Jc l (Qv l).toNat V=l.take (JX l (Qv l).toNat):=by
 have hs:=UH h h2;have hb:=fun j hj=>G7 h h2 j hj;generalize(Qv l).toNat=b at*;generalize JX l b=n at*;have e:l=l.take n++l.drop n:=(tE n l).symm;rw[Jc];conv=>lhs;rw[e]
 rw[sK,tN.2,sL.2,tV];·intro q hq;obtain⟨j,hj,rfl⟩:=L.1 hq;(have hjn:n+j<l.length:=by simp at hj;omega);rw[sP,show l[n+j]=l.getD (n+j) ([],[])by simp[hjn],hb _ hjn];simp
 ·intro q hq;obtain⟨j,hj,rfl⟩:=L.1 hq;(have hjn:j<n:=by simp at hj;omega);rw[sE,show l[j]'(by omega)=l.getD j ([],[])by simp[show j<l.length by omega],hb _ (by omega)];simp[hjn]
theorem P9{l:PL}(h:Zd l)(h2:2<=l.length):Jc l (Qv l).toNat N=l.drop (JX l (Qv l).toNat):=by
 have hs:=UH h h2;have hb:=fun j hj=>G7 h h2 j hj;generalize(Qv l).toNat=b at*;generalize JX l b=n at*;have e:l=l.take n++l.drop n:=(tE n l).symm;rw[Jc];conv=>lhs;rw[e]
 rw[sK,sL.2,tN.2,pE];·intro q hq;obtain⟨j,hj,rfl⟩:=L.1 hq;(have hjn:n+j<l.length:=by simp at hj;omega);rw[sP,show l[n+j]=l.getD (n+j) ([],[])by simp[hjn],hb _ hjn];simp
 ·intro q hq;obtain⟨j,hj,rfl⟩:=L.1 hq;(have hjn:j<n:=by simp at hj;omega);rw[sE,show l[j]'(by omega)=l.getD j ([],[])by simp[show j<l.length by omega],hb _ (by omega)];simp[hjn]
def U(x:BitVec 64):Int:=(x.toNat:Int)
theorem jM(x:BitVec 64):sB 64 (U x)=x:=by
 unfold U;rw[pP];simp
theorem kV(x:BitVec 64):rI.wrap (x.toNat:Int)=U x:=by
 rw[rY];unfold U;have:=x.isLt;omega
theorem Zt(x y:BitVec 64):bits .xor .u64 (U x) (U y)=U (x^^^y):=by
 show rI.wrap ((sB 64 (U x)^^^sB 64 (U y)).toNat:Int)=_;rw[jM,jM,kV]
theorem Np(x y:BitVec 64):bits .or .u64 (U x) (U y)=U (x|||y):=by
 show rI.wrap ((sB 64 (U x)|||sB 64 (U y)).toNat:Int)=_;rw[jM,jM,kV]
theorem KO(x y:BitVec 64):bits .andNot .u64 (U x) (U y)=U (x&&&~~~y):=by
 show rI.wrap ((sB 64 (U x)&&&~~~sB 64 (U y)).toNat:Int)=_;rw[jM,jM,kV]
theorem J8(x:BitVec 64)(k:Nat):rI.wrap (U x*2^k)=U (x<<<k):=by
 rw[rY];unfold U;rw[BitVec.toNat_shiftLeft,Nat.shiftLeft_eq];have e:((x.toNat:Int)*2^k)=((x.toNat*2^k:Nat):Int):=by simp
 rw[e];omega
theorem Ma(x:BitVec 64)(k:Nat):U x/2^k=U (x>>>k):=by
 unfold U;rw[BitVec.toNat_ushiftRight,Nat.shiftRight_eq_div_pow];simp
theorem lQ(k:Int)(h0:0<=k)(h:k<64):bits .and .u64 k 63=k:=by
 obtain⟨n,rfl⟩:=Int.eq_ofNat_of_zero_le h0;show rI.wrap ((sB 64 (n:Int)&&&sB 64 63).toNat:Int)=_;rw[pP,BitVec.toNat_and];have h1:(BitVec.ofNat 64 n).toNat=n:=by rw[BitVec.toNat_ofNat];omega
 have h2:(sB 64 63).toNat=2^6-1:=by decide
 rw[h1,h2,Nat.and_two_pow_sub_one_eq_mod,rY];omega
def xV(x:BitVec 64)(k:Nat):BitVec 64:=(x<<<k)|||(x>>>(64-k))
section
theorem L5(x:BitVec 64)(k:Int)(h0:0<=k)(h:k<64)(w:I):r8 tA 138 #[tK .u64 (U x),tK rC k] w fun e w'=>e=sS (tK .u64 (U (xV x k.toNat)))∧w'=w:=by
 have h63:=lQ k h0 h;go_enter Tryz.func138,Tryz.ntmps138;go_wp2;go_ret;refine⟨?_,rfl⟩;rw[show(64-k).toNat=64-k.toNat by omega,J8,Ma,Np];rfl
def Ko(st:List (BitVec 64)):Array O:=(st.map fun x=>tK .u64 (U x)).toArray
structure Yb (n : Nat) (w : I) (b : Nat) (st : List (BitVec 64)) : Prop where
  len : st.length = n
  blk : ∃ t, w.heap[b]? = F (tJ (Ko st) t (0, 0))
section
variable{n:Nat}{w:I}{b:Nat}{st:List (BitVec 64)}
theorem Yb.cell(h:Yb n w b st)(i:Nat)(hi:i<n):w.cell? ⟨b,i,H⟩=F (tK .u64 (U (st.getD i 0))):=by
 obtain⟨t,hb⟩:=h.blk;simp[tZ,hb,Ko,sW,rP (show i<st.length by have:=h.len;omega)]
theorem Yb.frozen(h:Yb n w b st)(i:Nat):w.frozen? ⟨b,i,H⟩=V:=by
 obtain⟨t,hb⟩:=h.blk;simp[sZ,hb]
theorem Yb.lt(h:Yb n w b st):b<w.heap.size:=by
 obtain⟨t,hb⟩:=h.blk;exact(tL.1 hb).1
theorem DI(st:List (BitVec 64))(i:Nat)(x:BitVec 64):(Ko st).setIfInBounds i (tK .u64 (U x))=Ko (st.set i x):=by
 simp[Ko]
theorem Yb.set(h:Yb n w b st)(i:Nat)(x:BitVec 64):Yb n (tG w ⟨b,i,H⟩ (tK .u64 (U x))) b (st.set i x):=by
 obtain⟨t,hb⟩:=h.blk;refine⟨by simp[h.len],t,?_⟩;simp only[tG,tQ,if_true,hb,sR];simp[DI]
theorem Yb.setOther(h:Yb n w b st)(c:Nat)(hc:b≠c)(i:Nat)(v:O):Yb n (tG w ⟨c,i,H⟩ v) b st:=by
 obtain⟨t,hb⟩:=h.blk;exact⟨h.len,t,by rw[Below.heap_setCell _ _ _ _ hc];exact hb⟩
theorem Yb.drewN(h:Yb n w b st)(k:Nat):Yb n (w.drewN k) b st:=⟨h.len,h.blk⟩
theorem Yb.drew(h:Yb n w b st):Yb n w.drew b st:=⟨h.len,h.blk⟩
theorem Yb.alloc(h:Yb n w b st)(o:Obj):Yb n (w.alloc o) b st:=by
 obtain⟨t,hb⟩:=h.blk;exact⟨h.len,t,by rw[Below.heap_alloc _ _ _ h.lt];exact hb⟩
theorem Yb.grown(h:Yb n w b st){w':I}{r:Option Nat}(hg:J w w' r)(hr:F b≠r):Yb n w' b st:=by
 obtain⟨t,hb⟩:=h.blk;exact⟨h.len,t,by rw[hg.block b h.lt hr];exact hb⟩
theorem Yb.new(w:I)(t:rA)(st:List (BitVec 64))(hl:st.length=n):Yb n (w.alloc (tJ (Ko st) t)) w.heap.size st:=⟨hl,t,rO w _⟩
end
abbrev St:=Yb 25
def Lx(st:List (BitVec 64))(n:Nat):List (BitVec 64):=let a:=st.getD n 0;let b:=st.getD (n+1) 0;let c:=st.getD (n+2) 0;let d:=st.getD (n+3) 0;let e:=st.getD (n+4) 0;((((st.set n (a^^^(c&&&~~~b))).set (n+1) (b^^^(d&&&~~~c))).set (n+2) (c^^^(e&&&~~~d))).set (n+3) (d^^^(a&&&~~~e))).set (n+4) (e^^^(b&&&~~~a))
def VZ(st:List (BitVec 64)):Nat->List (BitVec 64)|0=>st|k+1=>Lx (VZ st k) (5*k)
theorem Oi(w:I)(b:Nat)(st:List (BitVec 64))(h:St w b st):r8 tA 116 #[.pointer (F ⟨b,0,H⟩)] w fun e w'=>e=sS (pZ #[])∧St w' b (VZ st 5)∧J w w' (F b):=by
 go_enter Tryz.func116,Tryz.ntmps116;go_wp2;go_loopw[2](fun y wr=>∃k:Nat,k<=5∧y=tK rC ((5*k:Nat):Int)∧St wr b (VZ st k)∧J w wr (F b))(fun y _=>25-(intOf y).toNat);case atStart=>exact⟨0,by omega,rfl,h,Qb _ _⟩
 case round=>obtain⟨k,hk,rfl,hst,hg⟩:=hrel;by_cases hlt:k<5;(·generalize hn:5*k=n;have HN:Hid (5*k=n):=hn;clear hn;(have h25:n+4<25:=by have:=HN.out;omega);have hc:=hst.cell;have hf:=hst.frozen;have c0:=hc n (by omega);have c1:=hc (n+1) (by omega);have c2:=hc (n+2) (by omega);have c3:=hc (n+3) (by omega);have c4:=hc (n+4) (by omega);clear hc;generalize hS:VZ st k=S at*;have HS:Hid (VZ st k=S):=hS;clear hS;generalize hA:S.getD n 0=A at*;generalize hB:S.getD (n+1) 0=B at*;generalize hC:S.getD (n+2) 0=C at*;generalize hD:S.getD (n+3) 0=D at*;generalize hE:S.getD (n+4) 0=E at*;have HA:Hid (S.getD n 0=A):=hA;have HB:Hid (S.getD (n+1) 0=B):=hB;have HC:Hid (S.getD (n+2) 0=C):=hC;have HD:Hid (S.getD (n+3) 0=D):=hD;have HE:Hid (S.getD (n+4) 0=E):=hE;clear hA hB hC hD hE;(have i1:(n:Int)+4<25:=by omega);go_wp2;go_quiet(fail);go_wp2;go_roundw;(case rel=>refine⟨k+1,by omega,by have:=HN.out;congr 1;omega,?_,?_⟩;(·rw[KO,KO,KO,KO,KO,Zt,Zt,Zt,Zt,Zt];(have e:VZ st (k+1)=((((S.set n (A^^^(C&&&~~~B))).set (n+1) (B^^^(D&&&~~~C))).set (n+2) (C^^^(E&&&~~~D))).set (n+3) (D^^^(A&&&~~~E))).set (n+4) (E^^^(B&&&~~~A)):=by simp only[VZ,Lx,HS.out,HN.out,HA.out,HB.out,HC.out,HD.out,HE.out]);rw[e];exact(((((hst.drewN nq).set n _).set (n+1) _).set (n+2) _).set (n+3) _).set (n+4) _);·exact Qg (Qg (Qg (Qg (Qg (Qs hg nq) n _) (n+1) _) (n+2) _) (n+3) _) (n+4) _);case measure=>simp[intOf];omega);·(obtain rfl:k=5:=by omega);go_wp2;go_end0;exact⟨rfl,hst,hg⟩
end
def Lg(st:List (BitVec 64))(x:Nat):BitVec 64:=st.getD x 0^^^st.getD (x+5) 0^^^st.getD (x+10) 0^^^st.getD (x+15) 0^^^st.getD (x+20) 0
def Vn(st:List (BitVec 64)):Nat->List (BitVec 64)|0=>[0,0,0,0,0]|k+1=>(Vn st k).set k (Lg st k)
def cQ(c:List (BitVec 64)):List (BitVec 64):=[c.getD 4 0^^^xV (c.getD 1 0) 1,c.getD 0 0^^^xV (c.getD 2 0) 1,c.getD 1 0^^^xV (c.getD 3 0) 1,c.getD 2 0^^^xV (c.getD 4 0) 1,c.getD 3 0^^^xV (c.getD 0 0) 1]
def Tj(d st:List (BitVec 64))(k:Nat):List (BitVec 64):=let y:=d.getD k 0;((((st.set k (st.getD k 0^^^y)).set (k+5) (st.getD (k+5) 0^^^y)).set (k+10) (st.getD (k+10) 0^^^y)).set (k+15) (st.getD (k+15) 0^^^y)).set (k+20) (st.getD (k+20) 0^^^y)
def kE(d st:List (BitVec 64)):Nat->List (BitVec 64)|0=>st|k+1=>Tj d (kE d st k) k
theorem cL(w:I)(b:Nat)(st:List (BitVec 64))(h:St w b st):r8 tA 114 #[.pointer (F ⟨b,0,H⟩)] w fun e w'=>e=sS (pZ #[])∧St w' b (kE (cQ (Vn st 5)) st 5)∧J w w' (F b):=by
 have hbn:b≠w.heap.size:=Nat.ne_of_lt h.lt;have h0:=h;go_enter Tryz.func114,Tryz.ntmps114;go_wp2_with fail;go_loopw[6](fun i wr=>∃k:Nat,k<=5∧i=tK rC (k:Int)∧St wr b st∧Yb 5 wr w.heap.size (Vn st k)∧J w wr (F b))(fun i _=>5-(intOf i).toNat);case atStart=>exact⟨0,by omega,rfl,h.alloc _,Yb.new w 232 [0,0,0,0,0] rfl,Qu (Qb _ _) _⟩
 case round=>obtain⟨k,hk,rfl,hst,hcl,hg⟩:=hrel;by_cases hlt:k<5;(·have c0:=hst.cell k (by omega);have c1:=hst.cell (k+5) (by omega);have c2:=hst.cell (k+10) (by omega);have c3:=hst.cell (k+15) (by omega);have c4:=hst.cell (k+20) (by omega);have d0:=hcl.cell k hlt;have hf:=hcl.frozen k;generalize hx0:st.getD k 0=x0 at*;generalize hx1:st.getD (k+5) 0=x1 at*;generalize hx2:st.getD (k+10) 0=x2 at*;generalize hx3:st.getD (k+15) 0=x3 at*;generalize hx4:st.getD (k+20) 0=x4 at*;(have HX:Hid (Lg st k=x0^^^x1^^^x2^^^x3^^^x4):=by show Lg st k=_;simp only[Lg,hx0,hx1,hx2,hx3,hx4]);generalize hcc:Vn st k=cc at*;have HC:Hid (Vn st k=cc):=hcc;generalize hy:cc.getD k 0=y at*;clear hx0 hx1 hx2 hx3 hx4 hcc hy h;(have i1:(k:Int)+20<25:=by omega);(have i2:(k:Int)<5:=by omega);go_wp2_with fail;go_region;(all_goals go_wp2);go_roundw;(case rel=>rw[Zt,Zt,Zt,Zt];have hlt':=hst.lt;have hlt2:=hcl.lt;refine⟨k+1,by omega,by go_num,(hst.setOther _ hbn _ _).drew,?_,Qk (Qc hg _ (sA _) _ _)⟩;simp only[Vn,HC.out,HX.out];exact(hcl.set k _).drew);case measure=>simp[intOf];omega);·(obtain rfl:k=5:=by omega);have e0:=hcl.cell 0 (by omega);have e1:=hcl.cell 1 (by omega);have e2:=hcl.cell 2 (by omega);have e3:=hcl.cell 3 (by omega);have e4:=hcl.cell 4 (by omega);generalize hcc:Vn st 5=cc at*;have HC:Hid (Vn st 5=cc):=hcc;generalize hx0:cc.getD 0 0=x0 at*;generalize hx1:cc.getD 1 0=x1 at*;generalize hx2:cc.getD 2 0=x2 at*;generalize hx3:cc.getD 3 0=x3 at*;generalize hx4:cc.getD 4 0=x4 at*;(have HD:Hid (cQ cc=[x4^^^xV x1 1,x0^^^xV x2 1,x1^^^xV x3 1,x2^^^xV x4 1,x3^^^xV x0 1]):=by show cQ cc=_;simp only[cQ,hx0,hx1,hx2,hx3,hx4]);clear hcc hx0 hx1 hx2 hx3 hx4 h;have hwr:=hcl.lt;go_upto_region 6with fail;go_cut[4](fun s4 wx=>s4=.pointer (F ⟨wr.heap.size,0,H⟩)∧St wx b st∧Yb 5 wx wr.heap.size (cQ cc)∧J w wx (F b));(case first=>go_region_held3(fun w'=>w'.cell? ⟨w.heap.size,0,H⟩=F (tK .u64 (U x0))∧w'.cell? ⟨w.heap.size,1,H⟩=F (tK .u64 (U x1))∧w'.cell? ⟨w.heap.size,2,H⟩=F (tK .u64 (U x2))∧w'.cell? ⟨w.heap.size,3,H⟩=F (tK .u64 (U x3))∧w'.cell? ⟨w.heap.size,4,H⟩=F (tK .u64 (U x4)))(go_keep)(first|(go_at_call 138;refine(L5 _ (1:Int) (by omega) (by omega) _).mono ?_;rintro e w'⟨rfl,rfl⟩));all_goals(go_wp2_with fail;go_meet;case rel=>(rw[HD.out,Zt,Zt,Zt,Zt,Zt];exact⟨rfl,(hst.alloc _).drew,(Yb.new wr 232 [x4^^^xV x1 1,x0^^^xV x2 1,x1^^^xV x3 1,x2^^^xV x4 1,x3^^^xV x0 1] rfl).drew,Qk (Qu hg _)⟩)));case rest=>obtain⟨rfl,hst2,hd2,hg2⟩:=hcut;clear e0 e1 e2 e3 e4 hst hcl hg;(have hbw:b≠wr.heap.size:=by have:=h0.lt;omega);generalize hD:cQ cc=dd at*;have HDD:Hid (cQ cc=dd):=hD;clear hD HD;generalize hdn:wr.heap.size=db at*;clear hdn hwr;go_wp2_with fail;go_loopw[76](fun i wr=>∃k:Nat,k<=5∧i=tK rC (k:Int)∧St wr b (kE dd st k)∧Yb 5 wr db dd∧J w wr (F b))(fun i _=>5-(intOf i).toNat);(case atStart=>exact⟨0,by omega,rfl,hst2,hd2,hg2⟩);case round=>clear hst2 hd2 hg2;obtain⟨k,hk,rfl,hst,hd,hg⟩:=hrel;by_cases hlt:k<5;(·have c0:=hst.cell k (by omega);have c1:=hst.cell (k+5) (by omega);have c2:=hst.cell (k+10) (by omega);have c3:=hst.cell (k+15) (by omega);have c4:=hst.cell (k+20) (by omega);have d0:=hd.cell k hlt;have hf:=hst.frozen;generalize hS:kE dd st k=S at*;have HS:Hid (kE dd st k=S):=hS;generalize hy:dd.getD k 0=y at*;generalize hx0:S.getD k 0=x0 at*;generalize hx1:S.getD (k+5) 0=x1 at*;generalize hx2:S.getD (k+10) 0=x2 at*;generalize hx3:S.getD (k+15) 0=x3 at*;generalize hx4:S.getD (k+20) 0=x4 at*;(have HX:Hid (Tj dd S k=((((S.set k (x0^^^y)).set (k+5) (x1^^^y)).set (k+10) (x2^^^y)).set (k+15) (x3^^^y)).set (k+20) (x4^^^y)):=by show Tj dd S k=_;simp only[Tj,hy,hx0,hx1,hx2,hx3,hx4]);clear hS hy hx0 hx1 hx2 hx3 hx4;(have i1:(k:Int)+20<25:=by omega);(have i2:(k:Int)<5:=by omega);go_wp2_with fail;go_region;go_wp2_with fail;go_region;go_wp2_with fail;go_region;go_wp2_with fail;go_region;go_wp2_with fail;go_region;go_wp2_with fail;go_roundw;(case rel=>rw[Zt,Zt,Zt,Zt,Zt];refine⟨k+1,by omega,by go_num,?_,?_,?_⟩;(·simp only[kE,HS.out,HX.out];exact(((((hst.set k _).set (k+5) _).set (k+10) _).set (k+15) _).set (k+20) _).drew.drew.drew.drew.drew);(·exact(((((hd.setOther b hbw.symm k _).setOther b hbw.symm (k+5) _).setOther b hbw.symm (k+10) _).setOther b hbw.symm (k+15) _).setOther b hbw.symm (k+20) _).drew.drew.drew.drew.drew);·exact Qk (Qk (Qk (Qk (Qk (Qg (Qg (Qg (Qg (Qg hg k _) (k+5) _) (k+10) _) (k+15) _) (k+20) _))))));case measure=>simp[intOf];omega);·(obtain rfl:k=5:=by omega);go_wp2;go_end0;refine⟨rfl,?_,hg⟩;rw[HC.out,HDD.out];exact hst
def JN:List Nat:=[10,7,11,17,18,3,5,16,8,21,24,4,15,23,19,13,12,2,20,14,22,9,6,1]
def Kh:List Nat:=[1,3,6,10,15,21,28,36,45,55,2,14,27,41,56,8,25,43,62,18,39,61,20,44]
def JP:List (BitVec 64):=[0x0000000000000001,0x0000000000008082,0x800000000000808a,0x8000000080008000,0x000000000000808b,0x0000000080000001,0x8000000080008081,0x8000000000008009,0x000000000000008a,0x0000000000000088,0x0000000080008009,0x000000008000000a,0x000000008000808b,0x800000000000008b,0x8000000000008089,0x8000000000008003,0x8000000000008002,0x8000000000000080,0x000000000000800a,0x800000008000000a,0x8000000080008081,0x8000000000008080,0x0000000080000001,0x8000000080008008]
theorem eZ(k:Nat)(h:k<24):JN.getD k 0<25:=(by
 decide:∀k:Fin 24,JN.getD k.1 0<25) ⟨k,h⟩
theorem OC(k:Nat)(h:k<24):Kh.getD k 0<64:=(by
 decide:∀k:Fin 24,Kh.getD k.1 0<64) ⟨k,h⟩
structure X5(w:I):Prop where nums:∀i,i<24->w.cell? ⟨2,i,H⟩=F (tK .u64 (U (JP.getD i 0)))walk:∀i,i<24->w.cell? ⟨3,i,H⟩=F (tK rC ((JN.getD i 0:Nat):Int))turns:∀i,i<24->w.cell? ⟨4,i,H⟩=F (tK rC ((Kh.getD i 0:Nat):Int))
theorem X5.grown{w w':I}{b:Nat}(h:X5 w)(hg:J w w' (F b))(hb:5<=b):X5 w':=⟨fun i hi=>hg.cell (h.nums i hi) (by
 simp;omega),fun i hi=>hg.cell (h.walk i hi) (by
 simp;omega),fun i hi=>hg.cell (h.turns i hi) (by
 simp;omega)⟩
def Kc(st:List (BitVec 64)):Nat->List (BitVec 64)×BitVec 64|0=>(st,st.getD 1 0)|k+1=>((Kc st k).1.set (JN.getD k 0) (xV (Kc st k).2 (Kh.getD k 0)),(Kc st k).1.getD (JN.getD k 0) 0)
theorem aX(w:I)(b:Nat)(hb:5<=b)(st:List (BitVec 64))(h:St w b st)(ht:X5 w):r8 tA 115 #[.pointer (F ⟨b,0,H⟩)] w fun e w'=>e=sS (pZ #[])∧St w' b (Kc st 24).1∧J w w' (F b):=by
 have c1:=h.cell 1 (by omega);go_enter Tryz.func115,Tryz.ntmps115;go_wp2;go_loopw[2,10](fun m i wr=>∃k:Nat,k<=24∧i=tK rC (k:Int)∧m=tK .u64 (U (Kc st k).2)∧St wr b (Kc st k).1∧J w wr (F b))(fun _ i _=>24-(intOf i).toNat);case atStart=>exact⟨0,by omega,rfl,by simp[Kc],h,Qb _ _⟩
 case round=>obtain⟨k,hk,rfl,rfl,hst,hg⟩:=hrel;clear c1;by_cases hlt:k<24;(·have hT:=ht.grown hg hb;have hw:=eZ k hlt;have hr:=OC k hlt;have t1:=hT.walk k hlt;have t2:=hT.turns k hlt;have c:=hst.cell (JN.getD k 0) hw;have hf:=hst.frozen;generalize hS:(Kc st k).1=S at*;have HS:Hid ((Kc st k).1=S):=hS;generalize hM:(Kc st k).2=M at*;have HM:Hid ((Kc st k).2=M):=hM;generalize hW:JN.getD k 0=W at*;have HW:Hid (JN.getD k 0=W):=hW;generalize hR:Kh.getD k 0=R at*;have HR:Hid (Kh.getD k 0=R):=hR;clear hS hM hW hR;generalize hX:S.getD W 0=X at*;have HX:Hid (S.getD W 0=X):=hX;clear hX hT ht h;(have i1:(W:Int)<25:=by omega);go_wp2_with fail;go_region_with(go_at_call 138;refine(L5 M (R:Int) (by omega) (by omega) _).mono ?_;rintro e w'⟨rfl,rfl⟩);(all_goals go_wp2);go_roundw;(case rel=>refine⟨k+1,by omega,by go_num,?_,?_,Qk (Qg hg _ _)⟩;(·simp only[Kc,HS.out,HW.out,HX.out]);·simp only[Kc,HS.out,HM.out,HW.out,HR.out];exact(hst.set W _).drew);case measure=>simp[intOf];omega);·(obtain rfl:k=24:=by omega);go_wp2;go_end0;exact⟨rfl,hst,hg⟩
def Ak(st:List (BitVec 64))(n:BitVec 64):List (BitVec 64):=let r:=VZ (Kc (kE (cQ (Vn st 5)) st 5) 24).1 5;r.set 0 (r.getD 0 0^^^n)
theorem Oa(w:I)(b:Nat)(hb:5<=b)(st:List (BitVec 64))(n:BitVec 64)(h:St w b st)(ht:X5 w):r8 tA 95 #[.pointer (F ⟨b,0,H⟩),tK .u64 (U n)] w fun e w'=>e=sS (pZ #[])∧St w' b (Ak st n)∧J w w' (F b):=by
 go_enter Tryz.func95,Tryz.ntmps95;go_wp2_with fail;refine(cL _ b st h).mono ?_;rintro e w1⟨rfl,h1,g1⟩;go_wp2_with fail;refine(aX _ b hb _ h1 (ht.grown g1 hb)).mono ?_;rintro e w2⟨rfl,h2,g2⟩;go_wp2_with fail;refine(Oi _ b _ h2).mono ?_;rintro e w3⟨rfl,h3,g3⟩;have g:=Qa g1 (Qa g2 g3);clear g1 g2 g3 h1 h2 h ht;have HR:Hid (Ak st n=(VZ (Kc (kE (cQ (Vn st 5)) st 5) 24).1 5).set 0 ((VZ (Kc (kE (cQ (Vn st 5)) st 5) 24).1 5).getD 0 0^^^n)):=rfl;generalize VZ (Kc (kE (cQ (Vn st 5)) st 5) 24).1 5=S at*;have c0:=h3.cell 0 (by omega);have hf:=h3.frozen 0;generalize hx:S.getD 0 0=x at*;clear hx;go_wp2_with fail;go_region;go_wp2_with fail;go_end0;refine⟨rfl,?_,Qk (Qg g 0 _)⟩;rw[HR.out,Zt];exact(h3.set 0 _).drew
def kS{α:Type}(p:α->Bool):List α->Option Nat|[]=>H|a::l=>if p a=N then F 0 else(kS p l).map (·+1)
def ZP{α:Type}(p:α->Bool)(l:List α):Int:=match kS p l with|F i=>(i:Int)|none=>-1
theorem TG{α:Type}(p:α->Bool)(d:α):∀(l:List α)(m:Nat),m<l.length->(l.take m).any p=V->p (l.getD m d)=N->kS p l=F m|[],_,h,_,_=>by simp at h|a::l,0,_,_,h=>by have h':p a=N:=h;rw[kS,if_pos h']|a::l,m+1,h0,h1,h2=>by rw[sI,rW,rU]at h1;rw[kS,if_neg (by rw[h1.1];decide),TG p d l m (by simpa using h0) h1.2 (by simpa using h2)];rfl
theorem Fw{α:Type}(p:α->Bool):∀(l:List α),l.any p=V->kS p l=H|[],_=>rfl|a::l,h=>by rw[rW,rU]at h;rw[kS,if_neg (by rw[h.1];decide),Fw p l h.2];rfl
theorem zI{α:Type}(p:α->Bool)(d:α)(l:List α)(m:Nat)(h:m<l.length)(h1:(l.take m).any p=V)(h2:p (l.getD m d)=N):ZP p l=(m:Int):=by
 rw[ZP,TG p d l m h h1 h2]
theorem K7{α:Type}(p:α->Bool)(l:List α)(h:l.any p=V):ZP p l=-1:=by
 rw[ZP,Fw p l h]
theorem Vc{α:Type}(p:α->Bool)(d:α):∀(l:List α),l.any p=N->∃m,m<l.length∧(l.take m).any p=V∧p (l.getD m d)=N∧ZP p l=(m:Int)|[],h=>by simp at h|a::l,h=>by by_cases ha:p a=N;(·exact⟨0,by simp,by simp,ha,zI p d (a::l) 0 (by simp) (by simp) ha⟩);·(have hf:p a=V:=by simpa using ha);rw[rW,hf,Bool.false_or]at h;obtain⟨m,h1,h2,h3,_⟩:=Vc p d l h;(have e1:m+1<(a::l).length:=by simp;omega);(have e2:((a::l).take (m+1)).any p=V:=by rw[sI,rW,hf,h2];rfl);(have e3:p ((a::l).getD (m+1) d)=N:=by simpa using h3);exact⟨m+1,e1,e2,e3,zI p d _ _ e1 e2 e3⟩
theorem uF{α:Type}(p:α->Bool)(l:List α):(ZP p l==-1)=!(l.any p):=by
 cases h:l.any p with|false=>rw[K7 p l h];rfl|true=>cases l with|nil=>simp at h|cons a l=>obtain⟨m,_,_,_,e⟩:=Vc p a (a::l) h;rw[e];(have:((m:Int)==-1)=V:=by simp);rw[this];rfl
theorem Re{α:Type}(p:α->Bool)(l:List α):tI (0<=ZP p l)=l.any p:=by
 cases h:l.any p with|false=>rw[K7 p l h];rfl|true=>cases l with|nil=>simp at h|cons a l=>obtain⟨m,_,_,_,e⟩:=Vc p a (a::l) h;rw[e];simp
theorem Jk(w:I)(v1 v2:O)(b1 b2:List UInt8)(h1:Qe w v1 b1)(h2:Qe w v2 b2):r8 tA 39 #[v1,v2] w fun e w'=>e=sS (pS (tI (b1=b2)))∧w'=w:=by
 have c1:=qY w v1 b1 h1;have c2:=qY w v2 b2 h2;go_enter Tryz.func39,Tryz.ntmps39;go_wp2;go_ret;refine⟨?_,rfl⟩;have e:((kY b1).toList==(kY b2).toList)=tI (b1=b2):=by rw[Fn,Fn];by_cases h:b1=b2<;>simp[h]
 rw[<-e];rfl
theorem Pn(p:Zi):QZ [] [p]=QC p:=by
 have h0:Q4 []=0:=(Xb []).2 UI;rw[QZ,if_pos h0,if_neg (by simp),Xh];by_cases h:QC p=0;·have h2:=TN UI h Wz (by omega);have h3:(Zw [] p).length<=1:=DJ [] p;rw[if_neg (by omega)]at h2;rw[if_pos h,if_pos h2,Xh,h]
 ·rw[if_neg h]
def Tq:Prop:=∀(w:I)(a:Option pH)(n cap:Nat),r8 tA 41 #[tH a n cap] w fun e w'=>e=sS (tK rC (Qn n))∧J w w' H
theorem Yw:Tq:=by
 intro w a n cap;by_cases h1:1<=n;·by_cases h2:n<=16;(·rw[Qn,if_pos ⟨h1,h2⟩];(have t1:¬(n:Int)<1:=by omega);(have t2:¬(n:Int)>16:=by omega);go_enter pT,pI;go_wp2;go_ret;exact⟨rfl,Qb _ _⟩);·rw[Qn,if_neg (by omega)];(have t1:¬(n:Int)<1:=by omega);(have t2:(n:Int)>16:=by omega);go_enter pT,pI;go_wp2;go_ret;exact⟨rfl,Qb _ _⟩
 ·rw[Qn,if_neg (by omega)];(have t1:(n:Int)<1:=by omega);go_enter pT,pI;go_wp2;go_ret;exact⟨rfl,Qb _ _⟩
def Zv(l:PL)(k:List UInt8):Nat:=(l.takeWhile fun p=>YQ p.1 k).length
def G9(l:PL)(k:List UInt8):Bool:=tI (Zv l k<l.length∧(l.getD (Zv l k) ([],[])).1=k)
def XY(l:PL)(k:List UInt8):Nat:=if G9 l k=N then Zv l k+1 else Zv l k
theorem yO(l:PL)(k:List UInt8):Zv l k<=l.length:=by
 induction l with|nil=>simp[Zv]|cons p r ih=>unfold Zv at ih⊢;rw[pX];cases h:YQ p.1 k with|true=>simpa using ih|false=>simp
theorem O0:∀(l:PL)(k:List UInt8)(i:Nat),i<=l.length->(∀j,j<i->YQ (l.getD j ([],[])).1 k=N)->(i<l.length->YQ (l.getD i ([],[])).1 k=V)->Zv l k=i|[],k,i,h,_,_=>by(obtain rfl:i=0:=by simpa using h);rfl|p::r,k,0,_,_,h2=>by have:=h2 (by simp);simp only[tX]at this;simp[Zv,this]|p::r,k,i+1,h,h1,h2=>by have h0:=h1 0 (by omega);simp only[tX]at h0;have:=O0 r k i (by simpa using h) (fun j hj=>by simpa using h1 (j+1) (by omega)) (fun hi=>by simpa using h2 (by simpa using hi));unfold Zv at this⊢;rw[tM (p:=fun p:Pr=>YQ p.1 k) h0];simpa using this
theorem Mq:∀(l:PL)(k:List UInt8)(j:Nat),j<Zv l k->YQ (l.getD j ([],[])).1 k=N|[],k,j,h=>by simp[Zv]at h|p::r,k,j,h=>by cases hk:YQ p.1 k with|false=>simp[Zv,hk]at h|true=>cases j with|zero=>simpa using hk|succ j=>unfold Zv at h;rw[tM (p:=fun p:Pr=>YQ p.1 k) hk]at h;have:=Mq r k j (by unfold Zv;simpa using h);simpa using this
theorem MQ:∀(l:PL)(k:List UInt8),Zv l k<l.length->YQ (l.getD (Zv l k) ([],[])).1 k=V|[],k,h=>by simp at h|p::r,k,h=>by cases hk:YQ p.1 k with|false=>simp[Zv,hk]|true=>(have e:Zv (p::r) k=Zv r k+1:=by unfold Zv;rw[tM (p:=fun p:Pr=>YQ p.1 k) hk];simp);rw[e]at h⊢;have:=MQ r k (by simpa using h);simpa using this
theorem uS(l:PL)(k:List UInt8)(hr:Uy l)(j:Nat)(hj:j<l.length):YQ (l.getD j ([],[])).1 k=tI (j<Zv l k):=by
 by_cases h:j<Zv l k;·rw[decide_eq_true h];exact Mq l k j h
 ·rw[decide_eq_false h];have h0:=MQ l k (by omega);by_cases e:j=Zv l k;(·rw[e];exact h0);·cases hk:YQ (l.getD j ([],[])).1 k with|false=>rfl|true=>have:=Kr _ _ _ (K3 l hr (Zv l k) j (by omega) hj) hk;rw[this]at h0;cases h0
theorem Pf{l:PL}{k:List UInt8}(h:G9 l k=N):Zv l k<l.length∧(l.getD (Zv l k) ([],[])).1=k:=by
 simpa only[G9,decide_eq_true_eq]using h
theorem jE(l:PL)(k:List UInt8):Zv l k<=XY l k∧XY l k<=l.length∧XY l k<=Zv l k+1:=by
 have:=yO l k;unfold XY;by_cases h:G9 l k=N;·rw[if_pos h];have:=(Pf h).1;omega
 ·rw[if_neg h];omega
theorem Ts(l:PL)(k:List UInt8)(hr:Uy l)(j:Nat)(hj:j<l.length)(he:(l.getD j ([],[])).1=k):G9 l k=N∧j=Zv l k:=by
 have hp:Zv l k=j:=by refine O0 l k j (by omega) (fun i hi=>?_) (fun _=>?_);(·rw[<-he];exact K3 l hr i j hi hj);·rw[he];exact Ye k
 refine⟨?_,hp.symm⟩;rw[G9,hp];exact decide_eq_true ⟨hj,he⟩
theorem dH(l:PL)(k:List UInt8)(hr:Uy l):Ut l k=if G9 l k=N then F (l.getD (Zv l k) ([],[])).2 else H:=by
 by_cases h:G9 l k=N;·rw[if_pos h];obtain⟨h1,h2⟩:=Pf h;refine AT l k _ h1 (fun j hj e=>?_) h2;have:=Mq l k j hj;rw[e,Ye]at this;cases this
 ·rw[if_neg h];exact Rg l k fun j hj e=>h (Ts l k hr j hj e).1
theorem Cj(l:PL)(p:Pr):Kn l p=l.take (Zv l p.1)++([p]++l.drop (XY l p.1)):=by
 rw[L0 l p (Zv l p.1) (yO l p.1) (fun j hj=>Mq l p.1 j hj) (MQ l p.1)];by_cases h:Zv l p.1<l.length∧(l.getD (Zv l p.1) ([],[])).1=p.1;·rw[if_pos h,XY,if_pos (by rw[G9];exact decide_eq_true h),r7,if_pos h.1];rfl
 ·rw[if_neg h,XY,if_neg (by rw[G9];simpa using h)]
theorem Oo(l:PL)(p:Pr):(Kn l p).length=Zv l p.1+1+(l.length-XY l p.1):=by
 rw[Cj];have h1:=yO l p.1;simp;omega
theorem Oe(l:PL)(p:Pr)(hl:l.length<=60):(60<(Kn l p).length)↔(Zv l p.1=XY l p.1∧l.length=60):=by
 rw[Oo];have:=jE l p.1;omega
theorem CD(l:PL)(f:Pr->Bool)(n:Nat)(hn:n<=l.length)(h1:∀j,j<n->f (l.getD j ([],[]))=V)(h2:∀j,n<=j->j<l.length->f (l.getD j ([],[]))=N):l.filter f=l.drop n:=by
 have e:l=l.take n++l.drop n:=(tE n l).symm;have ha:(l.take n).filter f=[]:=by rw[sL];intro q hq;obtain⟨j,hj,rfl⟩:=L.1 hq;(have hjn:j<n:=by simp at hj;omega);have:=h1 j hjn;rw[sE];rw[show l[j]'(by omega)=l.getD j ([],[])by simp[show j<l.length by omega],this];simp
 have hb:(l.drop n).filter f=l.drop n:=by rw[tN];intro q hq;obtain⟨j,hj,rfl⟩:=L.1 hq;(have hjn:n+j<l.length:=by simp at hj;omega);rw[sP,show l[n+j]=l.getD (n+j) ([],[])by simp[hjn]];exact h2 _ (by omega) hjn
 conv=>lhs;rw[e]
 rw[sK,ha,hb,pE]
theorem C3(l:PL)(f:Pr->Bool)(n:Nat)(hn:n<=l.length)(h1:∀j,j<n->f (l.getD j ([],[]))=N)(h2:∀j,n<=j->j<l.length->f (l.getD j ([],[]))=V):l.filter f=l.take n:=by
 have e:l=l.take n++l.drop n:=(tE n l).symm;have hb:(l.drop n).filter f=[]:=by rw[sL];intro q hq;obtain⟨j,hj,rfl⟩:=L.1 hq;(have hjn:n+j<l.length:=by simp at hj;omega);rw[sP,show l[n+j]=l.getD (n+j) ([],[])by simp[hjn],h2 _ (by omega) hjn];simp
 have ha:(l.take n).filter f=l.take n:=by rw[tN];intro q hq;obtain⟨j,hj,rfl⟩:=L.1 hq;(have hjn:j<n:=by simp at hj;omega);rw[sE,show l[j]'(by omega)=l.getD j ([],[])by simp[show j<l.length by omega]];exact h1 j hjn
 conv=>lhs;rw[e]
 rw[sK,ha,hb,tV]
theorem O9(l:PL)(k:List UInt8)(hr:Uy l):kT l k=l.take (Zv l k)++l.drop (XY l k):=by
 by_cases h:G9 l k=N;·obtain⟨h1,h2⟩:=Pf h;(have e:l=l.take (Zv l k)++(l.getD (Zv l k) ([],[])::l.drop (Zv l k+1)):=by(conv=>lhs;rw[<-tE (Zv l k) l,sD h1]);simp[h1]);have hne:∀j,j<l.length->j≠Zv l k->(l.getD j ([],[])).1≠k:=fun j hj hn e=>hn (Ts l k hr j hj e).2;(have ha:(l.take (Zv l k)).filter (fun q=>!(q.1==k))=l.take (Zv l k):=by rw[tN];intro q hq;obtain⟨j,hj,rfl⟩:=L.1 hq;(have hjn:j<Zv l k:=by simp at hj;omega);rw[sE,show l[j]'(by omega)=l.getD j ([],[])by simp[show j<l.length by omega]];simpa using hne j (by omega) (by omega));(have hb:(l.drop (Zv l k+1)).filter (fun q=>!(q.1==k))=l.drop (Zv l k+1):=by rw[tN];intro q hq;obtain⟨j,hj,rfl⟩:=L.1 hq;(have hjn:Zv l k+1+j<l.length:=by simp at hj;omega);rw[sP,show l[Zv l k+1+j]=l.getD (Zv l k+1+j) ([],[])by simp[hjn]];simpa using hne _ hjn (by omega));rw[XY,if_pos h,kT];(conv=>lhs;rw[e]);rw[sK,pJ (by simpa using h2),ha,hb]
 ·rw[XY,if_neg h,tE,kT,tN];intro q hq;obtain⟨j,hj,rfl⟩:=L.1 hq;have:=fun e=>h (Ts l k hr j hj e).1;rw[show l.getD j ([],[])=l[j]by simp[hj]]at this;simpa using this
theorem FJ(l:PL)(k:List UInt8)(hr:Uy l)(j:Nat)(hj:j<l.length):YQ k (l.getD j ([],[])).1=tI (XY l k<=j):=by
 have hp:=uS l k hr j hj;have hn:=jE l k;by_cases h1:j<Zv l k;·rw[decide_eq_true h1]at hp;rw[Hs _ _ hp,decide_eq_false (by omega)]
 ·rw[decide_eq_false h1]at hp;by_cases e:(l.getD j ([],[])).1=k;(·obtain⟨h2,h3⟩:=Ts l k hr j hj e;rw[e,Ye,XY,if_pos h2,decide_eq_false (by omega)]);·rw[UK _ _ hp e];by_cases h:G9 l k=N;(·rw[XY,if_pos h,decide_eq_true (by by_cases hjp:j=Zv l k;(·exact absurd (by rw[hjp];exact(Pf h).2) e);·omega)]);·rw[XY,if_neg h,decide_eq_true (by omega)]
theorem Am(l:PL)(f t:List UInt8)(hr:Uy l):Vm l f t=(l.take (max (Zv l f) (XY l t))).drop (Zv l f):=by
 have h1:=yO l f;have h2:=jE l t;have e:Vm l f t=(l.filter fun q=>!YQ t q.1).filter fun q=>!YQ q.1 f:=by rw[Vm,List.filter_filter]
 rw[e,C3 l _ (XY l t) h2.2.1 (fun j hj=>by rw[FJ l t hr j (by omega),decide_eq_false (by omega)];rfl) (fun j hj hjl=>by rw[FJ l t hr j hjl,decide_eq_true hj];rfl)];have hd:∀(n:Nat),n<=l.length->(l.take n).filter (fun q=>!YQ q.1 f)=(l.take n).drop (Zv l f):=by intro n hn;by_cases hc:Zv l f<=n;(·refine CD _ _ _ (by simp;omega) (fun j hj=>?_) (fun j hj hjl=>?_);(·(have:(l.take n).getD j ([],[])=l.getD j ([],[]):=by simp[show j<n by omega]);rw[this,uS l f hr j (by omega),decide_eq_true hj];rfl);·(have hjn:j<n:=by simp at hjl;omega);(have:(l.take n).getD j ([],[])=l.getD j ([],[]):=by simp[hjn]);rw[this,uS l f hr j (by omega),decide_eq_false (by omega)];rfl);·rw[tW (by simp;omega),sL];intro q hq;obtain⟨j,hj,rfl⟩:=L.1 hq;(have hjn:j<n:=by simp at hj;omega);rw[sE,show l[j]'(by omega)=l.getD j ([],[])by simp[show j<l.length by omega],uS l f hr j (by omega),decide_eq_true (by omega)];simp
 rw[hd _ h2.2.1];by_cases hc:Zv l f<=XY l t;·rw[Nat.max_eq_right hc]
 ·rw[Nat.max_eq_left (by omega),tW (by simp;omega),tW (by simp;omega)]
theorem Mf:∀(t:FL)(p:Tn)(k:Nat),k<=t.length->(∀j,j<k->YQ (t.getD j ([],[])).1 p.1=N)->(k<t.length->YQ (t.getD k ([],[])).1 p.1=V)->Jy t p=if k<t.length∧(t.getD k ([],[])).1=p.1then t.set k p else t.take k++([p]++t.drop k)|[],p,k,hk,_,_=>by(obtain rfl:k=0:=by simpa using hk);simp[Jy]|q::r,p,0,_,_,h2=>by have h:=h2 (by simp);simp only[tX]at h;rw[Jy,if_neg (by rw[h];simp)];by_cases e:q.1=p.1;(·rw[if_pos e,if_pos ⟨by simp,by simpa using e⟩];simp);·rw[if_neg e,if_neg (fun h=>e (by simpa using h.2))];simp|q::r,p,k+1,hk,h1,h2=>by have h:=h1 0 (by omega);simp only[tX]at h;rw[Jy,if_pos h,Mf r p k (by simpa using hk) (fun j hj=>by simpa using h1 (j+1) (by omega)) (fun hk=>by simpa using h2 (by simpa using hk))];by_cases e:k<r.length∧(r.getD k ([],[])).1=p.1;(·rw[if_pos e,if_pos ⟨by simpa using e.1,by simpa using e.2⟩];simp);·rw[if_neg e,if_neg (fun h=>e ⟨by simpa using h.1,by simpa using h.2⟩)];simp
def QA(l:FL)(k:List UInt8):Nat:=(l.takeWhile fun p=>YQ p.1 k).length
def Kg(l:FL)(k:List UInt8):Bool:=tI (QA l k<l.length∧(l.getD (QA l k) ([],[])).1=k)
def QQ(l:FL)(k:List UInt8):Nat:=if Kg l k=N then QA l k+1 else QA l k
theorem vM(l:FL)(k:List UInt8):QA l k<=l.length:=by
 induction l with|nil=>simp[QA]|cons p r ih=>unfold QA at ih⊢;rw[pX];cases h:YQ p.1 k with|true=>simpa using ih|false=>simp
theorem DG:∀(l:FL)(k:List UInt8)(i:Nat),i<=l.length->(∀j,j<i->YQ (l.getD j ([],[])).1 k=N)->(i<l.length->YQ (l.getD i ([],[])).1 k=V)->QA l k=i|[],k,i,h,_,_=>by(obtain rfl:i=0:=by simpa using h);rfl|p::r,k,0,_,_,h2=>by have:=h2 (by simp);simp only[tX]at this;simp[QA,this]|p::r,k,i+1,h,h1,h2=>by have h0:=h1 0 (by omega);simp only[tX]at h0;have:=DG r k i (by simpa using h) (fun j hj=>by simpa using h1 (j+1) (by omega)) (fun hi=>by simpa using h2 (by simpa using hi));unfold QA at this⊢;rw[tM (p:=fun p:Tn=>YQ p.1 k) h0];simpa using this
theorem vI:∀(l:FL)(k:List UInt8)(j:Nat),j<QA l k->YQ (l.getD j ([],[])).1 k=N|[],k,j,h=>by simp[QA]at h|p::r,k,j,h=>by cases hk:YQ p.1 k with|false=>simp[QA,hk]at h|true=>cases j with|zero=>simpa using hk|succ j=>unfold QA at h;rw[tM (p:=fun p:Tn=>YQ p.1 k) hk]at h;have:=vI r k j (by unfold QA;simpa using h);simpa using this
theorem P6:∀(l:FL)(k:List UInt8),QA l k<l.length->YQ (l.getD (QA l k) ([],[])).1 k=V|[],k,h=>by simp at h|p::r,k,h=>by cases hk:YQ p.1 k with|false=>simp[QA,hk]|true=>(have e:QA (p::r) k=QA r k+1:=by unfold QA;rw[tM (p:=fun p:Tn=>YQ p.1 k) hk];simp);rw[e]at h⊢;have:=P6 r k (by simpa using h);simpa using this
theorem Wv(l:FL)(k:List UInt8)(hr:YJ l)(j:Nat)(hj:j<l.length):YQ (l.getD j ([],[])).1 k=tI (j<QA l k):=by
 by_cases h:j<QA l k;·rw[decide_eq_true h];exact vI l k j h
 ·rw[decide_eq_false h];have h0:=P6 l k (by omega);by_cases e:j=QA l k;(·rw[e];exact h0);·cases hk:YQ (l.getD j ([],[])).1 k with|false=>rfl|true=>have:=Kr _ _ _ (zO l hr (QA l k) j (by omega) hj) hk;rw[this]at h0;cases h0
theorem jK{l:FL}{k:List UInt8}(h:Kg l k=N):QA l k<l.length∧(l.getD (QA l k) ([],[])).1=k:=by
 simpa only[Kg,decide_eq_true_eq]using h
theorem PQ(l:FL)(k:List UInt8):QA l k<=QQ l k∧QQ l k<=l.length∧QQ l k<=QA l k+1:=by
 have:=vM l k;unfold QQ;by_cases h:Kg l k=N;·rw[if_pos h];have:=(jK h).1;omega
 ·rw[if_neg h];omega
theorem Fh(l:FL)(k:List UInt8)(hr:YJ l)(j:Nat)(hj:j<l.length)(he:(l.getD j ([],[])).1=k):Kg l k=N∧j=QA l k:=by
 have hp:QA l k=j:=by refine DG l k j (by omega) (fun i hi=>?_) (fun _=>?_);(·rw[<-he];exact zO l hr i j hi hj);·rw[he];exact Ye k
 refine⟨?_,hp.symm⟩;rw[Kg,hp];exact decide_eq_true ⟨hj,he⟩
theorem Ww(l:FL)(k:List UInt8)(hr:YJ l):GU l k=if Kg l k=N then F (l.getD (QA l k) ([],[])).2 else H:=by
 by_cases h:Kg l k=N;·rw[if_pos h];obtain⟨h1,h2⟩:=jK h;refine Be l k _ h1 (fun j hj e=>?_) h2;have:=vI l k j hj;rw[e,Ye]at this;cases this
 ·rw[if_neg h];exact Rw l k fun j hj e=>h (Fh l k hr j hj e).1
theorem Ee(l:FL)(p:Tn):Jy l p=l.take (QA l p.1)++([p]++l.drop (QQ l p.1)):=by
 rw[Mf l p (QA l p.1) (vM l p.1) (fun j hj=>vI l p.1 j hj) (P6 l p.1)];by_cases h:QA l p.1<l.length∧(l.getD (QA l p.1) ([],[])).1=p.1;·rw[if_pos h,QQ,if_pos (by rw[Kg];exact decide_eq_true h),r7,if_pos h.1];rfl
 ·rw[if_neg h,QQ,if_neg (by rw[Kg];simpa using h)]
theorem S6(l:FL)(p:Tn):(Jy l p).length=QA l p.1+1+(l.length-QQ l p.1):=by
 rw[Ee];have h1:=vM l p.1;simp;omega
theorem Rj(l:FL)(p:Tn)(hl:l.length<=8):(8<(Jy l p).length)↔(QA l p.1=QQ l p.1∧l.length=8):=by
 rw[S6];have:=PQ l p.1;omega
theorem AG(l:FL)(k:List UInt8)(hr:YJ l):uA l k=l.take (QA l k)++l.drop (QQ l k):=by
 by_cases h:Kg l k=N;·obtain⟨h1,h2⟩:=jK h;(have e:l=l.take (QA l k)++(l.getD (QA l k) ([],[])::l.drop (QA l k+1)):=by(conv=>lhs;rw[<-tE (QA l k) l,sD h1]);simp[h1]);have hne:∀j,j<l.length->j≠QA l k->(l.getD j ([],[])).1≠k:=fun j hj hn e=>hn (Fh l k hr j hj e).2;(have ha:(l.take (QA l k)).filter (fun q=>!(q.1==k))=l.take (QA l k):=by rw[tN];intro q hq;obtain⟨j,hj,rfl⟩:=L.1 hq;(have hjn:j<QA l k:=by simp at hj;omega);rw[sE,show l[j]'(by omega)=l.getD j ([],[])by simp[show j<l.length by omega]];simpa using hne j (by omega) (by omega));(have hb:(l.drop (QA l k+1)).filter (fun q=>!(q.1==k))=l.drop (QA l k+1):=by rw[tN];intro q hq;obtain⟨j,hj,rfl⟩:=L.1 hq;(have hjn:QA l k+1+j<l.length:=by simp at hj;omega);rw[sP,show l[QA l k+1+j]=l.getD (QA l k+1+j) ([],[])by simp[hjn]];simpa using hne _ hjn (by omega));rw[QQ,if_pos h,uA];(conv=>lhs;rw[e]);rw[sK,pJ (by simpa using h2),ha,hb]
 ·rw[QQ,if_neg h,tE,uA,tN];intro q hq;obtain⟨j,hj,rfl⟩:=L.1 hq;have:=fun e=>h (Fh l k hr j hj e).1;rw[show l.getD j ([],[])=l[j]by simp[hj]]at this;simpa using this
theorem iR(l:FL)(k:List UInt8)(hr:YJ l):YE l k=if Kg l k=N then(l.getD (QA l k) ([],[])).2 else[]:=by
 unfold YE;rw[Ww l k hr];by_cases h:Kg l k=N;·rw[if_pos h,if_pos h];rfl
 ·rw[if_neg h,if_neg h];rfl
theorem D8(l:FL)(k:List UInt8)(hr:YJ l):((l.take (QQ l k)).drop (QA l k)=[]∧YE l k=[]∧QQ l k=QA l k)∨(∃t,(l.take (QQ l k)).drop (QA l k)=[t]∧YE l k=t.2∧QQ l k=QA l k+1):=by
 rw[iR l k hr];by_cases h:Kg l k=N;·right;obtain⟨h1,h2⟩:=jK h;refine⟨l.getD (QA l k) ([],[]),?_,by rw[if_pos h],by rw[QQ,if_pos h]⟩;rw[QQ,if_pos h,List.take_succ_eq_append_getElem h1,pD (by simp;omega),tW (by simp;omega),pE];simp[h1]
 ·left;refine⟨?_,by rw[if_neg h],by rw[QQ,if_neg h]⟩;rw[QQ,if_neg h,tW (by simp;omega)]
def dW:Prop:=∀(w:I)(a:Option pH)(n cap:Nat),r8 tA 19 #[tH a n cap] w fun e w'=>e=sS (tK rC (Qt n))∧J w w' H
def L9:Prop:=∀(w:I)(v:O)(r:Rq),Vw w->X8 w v r->yY r->r8 tA 24 #[v] w fun e w'=>e=sS (tK rC (Yn r))∧J w w' H
end Go.Proofs.YtahggnmfofgddaaGreatDoor
