/-
  Texts of this proof, joined, with few blanks: Base, LineF, SlM, PartM, Keys, PlaceM, Trees, TreeF, FitsF, ForestF, RdF, WrM0, TapeF, TapeG, KTree, KPure, ForestK, ForestE, WireF, WireG, LineG, RqMem, RqBox, RqEn, RdM0, ProofM, Sides, ForkF, Bits, Lanes, Cols, Move, Round, IdxF, EqB, ApplyOne, CheckC, CheckP, PosF, FPosF, FCName, RqCk.
-/
import Derived.WalkKit
import Derived.WalkSpells
import Derived.WalkLawsBesides
import Derived.BigRegion
import Derived.Deep.QuietTactic
import Derived.BigQuiet
import Derived.Deep.RegionHeld3
import Derived.Deep.DeepCutAuto
import Derived.Lib.Strings
import Derived.Test.YteohkbehnmjliaaGreatDoorChecked
set_option maxRecDepth 100000
set_option maxHeartbeats 8000000
open Array renaming getElem?_eq_some_iff->tL,getElem?_modify->tQ,ext->oI
open BitVec renaming ofInt->sB,ofInt_natCast->pL
open Bool renaming true->O,false->V,or_eq_false_iff->rO,and_eq_true->pX,or_eq_true->oC
open Classical renaming byContradiction->sN
open Decidable renaming decide->tI
open Go renaming World->I,Value->N,TypeId->sW,heap_alloc_new->rJ,Calls->rW,Addr->pD,maxLen->oK,info_parts->oL
open Go.Ending renaming returned->sP
open Go.IntKind renaming i64->sY,u64->rD,u8->rG,wrap_u64->rU
open Go.Obj renaming cells->tJ
open Go.Op renaming bytesLess->sH
open Go.Proofs.Tryz renaming prog->tA,underlying25->sL,ntmps53->pE,func53->pP
open Go.Value renaming slice->tH,int->tK,agg->pN,bool->pO,tuple->pV,ownBlock->pZ
open Go.Value.slice renaming injEq->rB
open Go.World renaming grownBy->J,setCell->tG,cell?->tZ,frozen?->sV,grownBy_alloc->rP
open Int renaming toNat_natCast->rI,le_refl->oJ
open List renaming mem_iff_getElem->L,length_append->T,append_assoc->tB,eq_nil_of_length_eq_zero->tD,take_append_drop->tE,takeWhile_cons_of_pos->tM,filter_eq_self->tN,mem_cons->tS,append_nil->tV,drop_eq_nil_of_le->tW,getD_cons_zero->tX,mem_cons_of_mem->tY,drop_eq_getElem_cons->sD,getElem_take->sE,getElem_mem->sF,take_succ_cons->sG,filter_append->sI,filter_eq_nil_iff->sJ,getElem_drop->sM,pairwise_singleton->sQ,getElem?_map->sS,length_filter_le->sX,pairwise_cons->rF,flatMap_cons->rH,getElem?_eq_getElem->rK,take_left'->rM,drop_left'->rN,any_cons->rS,mem_cons_self->rT,set_eq_take_append_cons_drop->rV,length_cons->rX,mem_filter->rY,take_append_of_le_length->r7,drop_append_of_le_length->r8,nil_append->pA,getElem?_eq_some_iff->pB,pairwise_iff_getElem->pC,filter_cons_of_neg->pF,take_of_length_le->pG,find?_cons_of_pos->pI,find?_cons_of_neg->pJ,drop_succ_cons->pR,takeWhile_cons->pT,getElem?_take->pU,length_drop->pY,map_cons->oE,take_nil->oF
open List.Pairwise renaming cons->tU,filter->sR,nil->sZ
open Nat renaming lt_of_lt_of_le->tR,le_refl->sA,testBit_lt_two_pow->sU,pow_le_pow_right->rA,le_trans->rC,testBit_div_two_pow->pH,div_div_eq_div_mul->pM,eq_of_testBit_eq->pQ,min_eq_left->oD,sub_self->oG,mul_one->oH
open Option renaming some->F,none->H,map_some->sO
open Option.some renaming injEq->tP,inj->pK
open Prod.mk renaming injEq->sC
open UInt8 renaming ofNat->tC,lt_iff_toNat_lt->sK,toNat_ofNat'->pS,toNat_inj->pW
namespace Go.Proofs.YteohkbehnmjliaaGreatDoor
open Go.RowKit
section
theorem Qb(w:I)(r:Option Nat):J w w r:=⟨rfl,rfl,rfl,sA _,fun _ _ _=>rfl⟩
theorem Qa{w w1 w2:I}{r:Option Nat}(h:J w w1 r)(k:J w1 w2 r):J w w2 r:=⟨k.os.trans h.os,k.tape.trans h.tape,k.output.trans h.output,rC h.size k.size,fun i hi hn=>(k.block i (tR hi h.size) hn).trans (h.block i hi hn)⟩
theorem Ql{w w1:I}{r:Option Nat}(h:J w w1 r):J w w1.drew r:=⟨h.os,h.tape,h.output,h.size,h.block⟩
theorem Qp{w w1:I}{r:Option Nat}(h:J w w1 r)(n:Nat):J w (w1.drewN n) r:=⟨h.os,h.tape,h.output,h.size,h.block⟩
theorem Qh{w w1:I}{b:Nat}(h:J w w1 (F b))(i:Nat)(v:N):J w (tG w1 ⟨b,i,H⟩ v) (F b):=Qa h ⟨rfl,rfl,rfl,by
 simp[tG],fun k _ hn=>Below.heap_setCell _ _ _ _ (by
 intro e;exact hn (by rw[e]))⟩
theorem Qw{w w1:I}{r:Option Nat}(h:J w w1 r)(o:Obj):J w (w1.alloc o) r:=Qa h (rP _ _ _)
theorem JK{w w1 w2:I}{r:Option Nat}{c:Nat}(h:J w w1 r)(hc:w.heap.size<=c)(k:J w1 w2 (F c)):J w w2 r:=⟨k.os.trans h.os,k.tape.trans h.tape,k.output.trans h.output,rC h.size k.size,fun i hi hn=>(k.block i (tR hi h.size) (by
 simp;omega)).trans (h.block i hi hn)⟩
theorem Qd{w w1:I}{r:Option Nat}(h:J w w1 r)(c:Nat)(hc:w.heap.size<=c)(i:Nat)(v:N):J w (tG w1 ⟨c,i,H⟩ v) r:=JK h hc (Qh (Qb _ _) i v)
theorem Z4(b o n:Nat):(⟨b,o,H⟩:pD).add n=⟨b,o+n,H⟩:=by
 unfold Addr.add;split;·simp_all
 ·rfl
theorem cQ(w:I):(sizeOf (tA.elem 25)).run tA w=.ok 1 w:=by
 kernel_rfl
theorem dE(W:I)(pb o len cap:Nat)(l:Int)(n:Nat)(hn:l=(n:Int))(h1:n<=len)(hc:n<cap):(Instr.slice 25 (tH (F ⟨pb,o,H⟩) len cap) (F (tK sY l)) H H).run tA W=.ok (tH (F ⟨pb,o+n,H⟩) (len-n) (cap-n)) W:=by
 subst hn;rw[run_slice_l _ _ _ _ _ (by kernel_rfl) _ _ (by omega) (by omega),cQ];simp only[Result.andThen,sliced,rI,sO,oH,Z4];rw[if_neg (by omega)]
theorem Ll(W:I)(pb o len cap:Nat)(l:Int)(n:Nat)(hn:l=(n:Int))(hc:n<=cap)(h0:0<cap):(Instr.slice 25 (tH (F ⟨pb,o,H⟩) len cap) H (F (tK sY l)) H).run tA W=.ok (tH (F ⟨pb,o,H⟩) n cap) W:=by
 subst hn;rw[run_slice_h _ _ _ _ _ (by kernel_rfl) _ _ (by omega) (by omega),cQ];simp only[Result.andThen,sliced,rI,sO,oH,Z4];rw[if_neg (by omega)];simp
def KY(w:I)(pb o:Nat)(bs:List UInt8):Prop:=∀i,i<bs.length->w.cell? ⟨pb,o+i,H⟩=F (tK rG ((bs.getD i 0).toNat:Int))
theorem KY.drew{w:I}{pb o:Nat}{bs:List UInt8}(h:KY w pb o bs):KY w.drew pb o bs:=h
theorem KY.grown{w w':I}{pb o:Nat}{bs:List UInt8}{r:Option Nat}(h:KY w pb o bs)(hg:J w w' r)(hr:F pb≠r):KY w' pb o bs:=fun i hi=>hg.cell (h i hi) hr
def ZU(bs:List UInt8):Array N:=(bs.map fun c=>tK rG (c.toNat:Int)).toArray
def ZI(w:I)(b:Nat)(bs:List UInt8):Prop:=∃t,w.heap[b]?=F (tJ (ZU bs) t (0,0))
section
variable{w:I}{b:Nat}{bs:List UInt8}
theorem ZI.cell(h:ZI w b bs)(i:Nat)(hi:i<bs.length):w.cell? ⟨b,i,H⟩=F (tK rG ((bs.getD i 0).toNat:Int)):=by
 obtain⟨t,hb⟩:=h;simp[tZ,hb,ZU,sS,rK hi]
theorem ZI.frozen(h:ZI w b bs)(i:Nat):w.frozen? ⟨b,i,H⟩=V:=by
 obtain⟨t,hb⟩:=h;simp[sV,hb]
theorem ZI.lt(h:ZI w b bs):b<w.heap.size:=by
 obtain⟨t,hb⟩:=h;exact(tL.1 hb).1
theorem BJ(bs:List UInt8)(i:Nat)(x:UInt8):(ZU bs).setIfInBounds i (tK rG (x.toNat:Int))=ZU (bs.set i x):=by
 simp[ZU]
theorem ZI.set(h:ZI w b bs)(i:Nat)(x:UInt8):ZI (tG w ⟨b,i,H⟩ (tK rG (x.toNat:Int))) b (bs.set i x):=by
 obtain⟨t,hb⟩:=h;refine⟨t,?_⟩;simp only[tG,tQ,if_true,hb,sO];simp[BJ]
theorem ZI.drewN(h:ZI w b bs)(k:Nat):ZI (w.drewN k) b bs:=h
theorem ZI.drew(h:ZI w b bs):ZI w.drew b bs:=h
theorem ZI.alloc(h:ZI w b bs)(o:Obj):ZI (w.alloc o) b bs:=by
 have hl:=h.lt;obtain⟨t,hb⟩:=h;exact⟨t,by rw[Below.heap_alloc _ _ _ hl];exact hb⟩
theorem ZI.grown(h:ZI w b bs){w':I}{r:Option Nat}(hg:J w w' r)(hr:F b≠r):ZI w' b bs:=by
 have hl:=h.lt;obtain⟨t,hb⟩:=h;exact⟨t,by rw[hg.block b hl hr];exact hb⟩
theorem ZI.new(w:I)(t:sW)(bs:List UInt8):ZI (w.alloc (tJ (ZU bs) t)) w.heap.size bs:=⟨t,rJ w _⟩
theorem ZI.at(h:ZI w b bs)(o:Nat)(cs:List UInt8)(hc:∀i,i<cs.length->o+i<bs.length∧bs.getD (o+i) 0=cs.getD i 0):KY w b o cs:=by
 intro i hi;rw[h.cell (o+i) (hc i hi).1,(hc i hi).2]
end
def Qe(w:I)(v:N)(bs:List UInt8):Prop:=∃a cap,v=tH a bs.length cap∧bs.length<=cap∧((bs=[]∧(a=H->cap=0))∨∃b o,a=F ⟨b,o,H⟩∧KY w b o bs)
theorem Qe.grown{w w':I}{v:N}{bs:List UInt8}(h:Qe w v bs)(hg:J w w' H):Qe w' v bs:=by
 obtain⟨a,cap,rfl,hc,h⟩:=h;refine⟨a,cap,rfl,hc,?_⟩;rcases h with h|⟨b,o,rfl,h⟩;·exact .inl h
 ·exact .inr ⟨b,o,rfl,h.grown hg (by simp)⟩
theorem Qe.alloc{w:I}{v:N}{bs:List UInt8}(h:Qe w v bs)(o:Obj):Qe (w.alloc o) v bs:=h.grown (rP _ _ _)
theorem Qe.drew{w:I}{v:N}{bs:List UInt8}(h:Qe w v bs):Qe w.drew v bs:=h
theorem Qe.drewN{w:I}{v:N}{bs:List UInt8}(h:Qe w v bs)(n:Nat):Qe (w.drewN n) v bs:=h
theorem ZI.slice{w:I}{b:Nat}{bs:List UInt8}(h:ZI w b bs)(cap:Nat)(hc:bs.length<=cap):Qe w (tH (F ⟨b,0,H⟩) bs.length cap) bs:=⟨_,cap,rfl,hc,.inr ⟨b,0,rfl,h.at 0 bs fun i hi=>by
 simpa using hi⟩⟩
theorem Qx(w:I):Qe w (tH H 0 0) []:=⟨H,0,rfl,sA _,.inl ⟨rfl,fun _=>rfl⟩⟩
def Ut(n:Nat):List UInt8:=List.replicate n 0
theorem Nv(n:Nat):(Ut n).length=n:=by
 simp[Ut]
theorem Sy(n:Nat):madeCells (tK rG 0).cells (n*1)=ZU (Ut n):=by
 apply oI;·simp[size_madeCells,ZU,Ut]
 ·intro i h1 h2;simp[madeCells,ZU,Ut,Value.cells,Nat.mod_one]
theorem gQ:(tA.info? 5).map (fun i=>(i.zero,i.size,i.bytes))=F (F (tK rG 0),1,1):=by
 kernel_rfl
theorem gN:(tA.info? 5).map (·.size)=F 1:=by
 kernel_rfl
theorem So(W:I)(c:Int)(n:Nat)(hc:c=(n:Int))(hn:n<=1000000):(Instr.makeSlice 25 (tK sY c) (tK sY c)).run tA W=.ok (tH (F ⟨W.heap.size,0,H⟩) n n) (W.alloc (tJ (ZU (Ut n)) 5)):=by
 subst hc;obtain⟨i0,hi,hz0,hz1,hz2⟩:=oL gQ;have h:=run_make (P:=tA) W 25 5 i0 (tK rG 0) sL hi hz0 sY sY (n:Int) (n:Int) (by omega) (oJ _) (by rw[hz2];omega) (by omega);rw[h,hz1,rI,Sy]
theorem jZ(bs:List UInt8):∀v∈(bs.map fun c=>tK rG (c.toNat:Int)),v.oneCell'=O:=by
 intro v hv;obtain⟨c,_,rfl⟩:=List.mem_map.1 hv;rfl
theorem Mt(w:I)(X Y:Array N)(t:sW):(w.alloc (tJ X t)).setRow w.heap.size Y=w.alloc (tJ Y t):=by
 simp only[World.setRow,World.alloc];congr 1;apply oI;·simp
 ·intro i h1 h2;simp only[Array.getElem_modify,Array.getElem_push];(have hi:i<w.heap.size+1:=by simpa using h2);split<;>split<;>first|rfl|omega|(exfalso;omega)|simp_all
theorem S7(w:I)(a:Option pD)(bs:List UInt8)(cap n m ty:Nat)(hn:bs.length<=n)(hs:Qe w (tH a bs.length cap) bs):(Builtin.copy_ #[25,25] ty #[tH (F ⟨w.heap.size,0,H⟩) n m,tH a bs.length cap]).run tA (w.alloc (tJ (ZU (Ut n)) 5))=.ok (tK sY (bs.length:Int)) (w.alloc (tJ (ZU (bs++Ut (n-bs.length))) 5)):=by
 obtain⟨a',cap',e,hc,h⟩:=hs.alloc (tJ (ZU (Ut n)) 5);simp only[rB,true_and]at e;obtain⟨rfl,rfl⟩:=e;by_cases h0:bs=[];·subst h0;have:=run_copy_none (P:=tA) (w.alloc (tJ (ZU (Ut n)) 5)) 25 25 ty 5 (F ⟨w.heap.size,0,H⟩) a n m 0 cap sL gN (by simp);simpa[goInt]using this
 ·rcases h with h|⟨b,o,rfl,h⟩;(·exact absurd h.1 h0);·have:=run_copy_row (P:=tA) (w.alloc (tJ (ZU (Ut n)) 5)) 25 25 ty 5 w.heap.size 0 n m ⟨b,o,H⟩ bs.length cap (ZU (Ut n)) 5 (bs.map fun c=>tK rG (c.toNat:Int)) sL gN (rJ w _) (by simp only[List.length_map];exact(oD hn).symm) (by intro j v hj;rw[sS]at hj;cases hb:bs[j]?with|none=>rw[hb]at hj;simp at hj|some c=>rw[hb]at hj;simp at hj;subst hj;rw[Z4];have hlt:j<bs.length:=(pB.1 hb).1;rw[h j hlt];simp[hb]) (by simp[ZU,Ut];exact hn) (jZ bs);rw[this,Mt];simp[goInt,ZU,Ut]
def VO(bs:List UInt8):List N:=bs.map fun c=>tK rG (c.toNat:Int)
theorem bG(bs:List UInt8):(VO bs).length=bs.length:=by
 simp[VO]
theorem DD(a b:List UInt8):VO (a++b)=VO a++VO b:=by
 simp[VO]
theorem Bw(bs:List UInt8)(j:Nat)(u:N)(h:(VO bs)[j]?=F u):j<bs.length∧u=tK rG ((bs.getD j 0).toNat:Int):=by
 rw[VO,sS]at h;cases hb:bs[j]?with|none=>rw[hb]at h;simp at h|some c=>rw[hb]at h;simp at h;exact⟨(pB.1 hb).1,by simp[hb,<-h]⟩
def Q9(base:Nat)(w:I)(v:N)(bs:List UInt8):Prop:=w.ownsRow base 5 1 v bs.length (VO bs)
theorem QU(base:Nat)(w:I):Q9 base w (tH H 0 0) []:=World.ownsRow_nil _ _ _ _
theorem Q9.grown{base:Nat}{w w':I}{v:N}{bs:List UInt8}(h:Q9 base w v bs){row:Option Nat}(hg:J w w' row)(hne:v.ownBlock=H∨v.ownBlock≠row):Q9 base w' v bs:=World.ownsRow.kept h hg hne
theorem Q9.grownNone{base:Nat}{w w':I}{v:N}{bs:List UInt8}(h:Q9 base w v bs)(hg:J w w' H):Q9 base w' v bs:=by
 refine h.grown hg ?_;cases hv:v.ownBlock with|none=>exact .inl rfl|some k=>exact .inr (by simp)
theorem Q9.alloc{base:Nat}{w:I}{v:N}{bs:List UInt8}(h:Q9 base w v bs)(o:Obj):Q9 base (w.alloc o) v bs:=World.ownsRow.alloc h o
theorem Q9.slice{base:Nat}{w:I}{v:N}{bs:List UInt8}(h:Q9 base w v bs):Qe w v bs:=by
 obtain⟨h1,h2⟩:=h;rcases h2 with⟨rfl,h0⟩|⟨g,cap,cur,rfl,hb,hg,hn,hm,hs,ht⟩;·obtain rfl:=tD h0;exact Qx w
 ·refine⟨_,cap,rfl,hn,.inr ⟨g,0,rfl,?_⟩⟩;intro i hi;(have hc:cur.toList[i]?=F (tK rG ((bs.getD i 0).toNat:Int)):=by(have e:(cur.toList.take (bs.length*1))[i]?=(VO bs)[i]?:=by rw[ht]);rw[pU,if_pos (by omega)]at e;rw[e,VO,sS,rK hi];simp[hi]);simp[tZ,hg];simpa using hc
theorem Q9.lt{base:Nat}{w:I}{v:N}{bs:List UInt8}(h:Q9 base w v bs):∀k,v.ownBlock=F k->base<=k∧k<w.heap.size:=World.ownsRow.lt h
theorem Q9.shape{base:Nat}{w:I}{v:N}{bs:List UInt8}(h:Q9 base w v bs):∃a cap,v=tH a bs.length cap:=by
 obtain⟨a,cap,e,_⟩:=h.slice;exact⟨a,cap,e⟩
theorem Td(base:Nat)(w:I)(bs:List UInt8)(hb:base<=w.heap.size)(hm:bs.length<=oK):Q9 base (w.alloc (tJ (ZU bs) 5)) (tH (F ⟨w.heap.size,0,H⟩) bs.length bs.length) bs:=⟨by
 simp[VO],.inr ⟨w.heap.size,bs.length,ZU bs,rfl,hb,rJ w _,sA _,hm,by
 simp[ZU],by
 simp[ZU,VO,pG]⟩⟩
theorem Xl{w W w1:I}{v:N}{bs:List UInt8}(h:J w W H)(ho:Q9 w.heap.size W v bs)(hg:J W w1 v.ownBlock):J w w1 H:=⟨hg.os.trans h.os,hg.tape.trans h.tape,hg.output.trans h.output,rC h.size hg.size,fun i hi hn=>(hg.block i (tR hi h.size) (fun e=>by
 have:=(ho.lt i e.symm).1;omega)).trans (h.block i hi hn)⟩
theorem MC(w:I)(base ty:Nat)(v:N)(bs:List UInt8)(hown:Q9 base w v bs)(a:Option pD)(m cap:Nat)(cs:List UInt8)(hs:Qe w (tH a m cap) cs)(hbytes:bs.length+m<=140737488355328)(hbase:base<=w.heap.size):∃v' w',(Builtin.append_ #[25,25] ty #[v,tH a m cap]).run tA w=.ok v' w'∧Q9 base w' v' (bs++cs)∧J w w' v.ownBlock:=by
 obtain⟨i0,hi,hz0,hz1,hz2⟩:=oL gQ;obtain⟨a',cap',e,hc,h⟩:=hs;simp only[rB]at e;obtain⟨rfl,rfl,rfl⟩:=e;have h63:bs.length+cs.length<=oK:=by unfold oK;omega
 have key:∀ad:pD,(∀j u,(VO cs)[j]?=F u->w.cell? (ad.add j)=F u)->∃v' w',(Builtin.append_ #[25,25] ty #[v,tH (F ad) cs.length cap]).run tA w=.ok v' w'∧Q9 base w' v' (bs++cs)∧J w w' v.ownBlock:=by intro ad hnews;obtain⟨v',w',hr,ho,hg,_⟩:=run_append_own (P:=tA) w base 25 ty 5 i0 (tK rG 0) 1 1 sL hi hz0 hz1 hz2 rfl (by decide) v bs.length (VO bs) hown ad cs.length cap (VO cs) (by simp[VO]) hnews (jZ cs) h63 (by omega) hbase;refine⟨v',w',hr,?_,hg⟩;unfold Q9;rw[DD,T];exact ho
 rcases h with⟨rfl,hz⟩|⟨b,o,rfl,h⟩;·cases a with|none=>obtain rfl:=hz rfl;refine⟨v,w,run_append_owned_none (P:=tA) (w:=w) base 25 ty 5 i0 1 sL hi v bs.length (VO bs) hown,?_,Qb _ _⟩;rw[tV];exact hown|some ad=>exact key ad (by simp[VO])
 ·refine key ⟨b,o,H⟩ fun j u hj=>?_;obtain⟨hlt,rfl⟩:=Bw cs j u hj;rw[Z4];exact h j hlt
theorem QL{w:I}{ops:Array Oper}{rest:List Oper}{o:Oper}{a:Act}{Q:Exit->Act->I->Prop}(hgd:o.guard=H)(s x:Operand)(ho:o.op=.call {callee:=.builtin .append,args:=#[s,x],argTypes:=#[25,25]})(base:Nat)(v:N)(bs:List UInt8)(hs:a.eval s=v)(hown:Q9 base w v bs)(xa:Option pD)(m cap:Nat)(cs:List UInt8)(hx:a.eval x=tH xa m cap)(hsl:Qe w (tH xa m cap) cs)(hbytes:bs.length+m<=140737488355328)(hbase:base<=w.heap.size)(h:∀v' w',Q9 base w' v' (bs++cs)->J w w' v.ownBlock->wpList tA ops Q rest (a.put o.dst v') w'):wpList tA ops Q (o::rest) a w:=by
 refine wpList_plain hgd fun K hK=>?_;obtain⟨v',w',hrun,ho',hg⟩:=MC w base o.type v bs hown xa m cap cs hsl hbytes hbase;unfold Oper.wp;simp[execOp,ho,resolve,invoke,builtin,hs,hx,hrun,Result.andThen];exact hK _ _ (h v' w' ho' hg)
theorem Qe.take{w:I}{a:Option pD}{m cap:Nat}{bs:List UInt8}(h:Qe w (tH a m cap) bs)(k:Nat)(hk:k<=m):Qe w (tH a k cap) (bs.take k):=by
 obtain⟨a',cap',e,hc,h⟩:=h;simp only[rB]at e;obtain⟨rfl,rfl,rfl⟩:=e;have hl:(bs.take k).length=k:=by simp;omega
 refine⟨a,cap,by rw[hl],by omega,?_⟩;rcases h with⟨rfl,hz⟩|⟨b,o,rfl,h⟩;·exact .inl ⟨by simp,hz⟩
 ·refine .inr ⟨b,o,rfl,fun i hi=>?_⟩;rw[h i (by omega)];rw[hl]at hi;simp[hi]
theorem Wz(bs:List UInt8)(s:ByteArray):((bs.map fun c=>((c.toNat:Nat):Int)).foldl (fun r n=>r.push (tC n.toNat)) s)=⟨s.data++bs.toArray⟩:=by
 induction bs generalizing s with|nil=>simp|cons c bs ih=>simp only[oE,List.foldl_cons];rw[ih];congr 1;simp[ByteArray.push]
def UU(bs:List UInt8):ByteArray:=⟨bs.toArray⟩
theorem Gj(bs:List UInt8):(UU bs).toList=bs:=by
 rw[Lib.toList_data];rfl
theorem Yb(W:I)(v:N)(bs:List UInt8)(hs:Qe W v bs):(convert 25 9 v).run tA W=.ok (.string (UU bs)) W:=by
 obtain⟨a,cap,rfl,hc,h⟩:=hs;rw[run_convert_bytes_string W 25 9 5 a bs.length cap sL Tryz.underlying5 Tryz.underlying9];have key:∀ad:pD,(∀j u,(VO bs)[j]?=F u->W.cell? (ad.add j)=F u)->(Conv.bytesToString (tH (F ad) bs.length cap)).run tA W=.ok (.string (UU bs)) W:=by intro ad hcells;have hl:=run_loadCells_list (P:=tA) W ad (VO bs) hcells;rw[bG]at hl;have:=run_bytesToString (P:=tA) W ad bs.length cap (bs.map fun c=>((c.toNat:Nat):Int)) (by rw[hl];simp[VO]);rw[this,Wz];simp[UU]
 rcases h with⟨rfl,hz⟩|⟨b,o,rfl,h⟩;·cases a with|none=>simp[Conv.bytesToString,UU];rfl|some ad=>exact key ad (by simp[VO])
 ·refine key ⟨b,o,H⟩ fun j u hj=>?_;obtain⟨hlt,rfl⟩:=Bw bs j u hj;rw[Z4];exact h j hlt
theorem ZI.slice32{w:I}{b:Nat}{bs:List UInt8}(h:ZI w b bs)(hl:bs.length=32):Qe w (tH (F ⟨b,0,H⟩) 32 32) bs:=by
 have:=h.slice 32 (by omega);rw[hl]at this;exact this
theorem UW(w:I)(x:UInt8)(t:sW):Qe (w.alloc (tJ #[tK rG (x.toNat:Int)] t)) (tH (F ⟨w.heap.size,0,H⟩) 1 1) [x]:=(ZI.new w t [x]).slice 1 (by
 simp)
theorem NZ(w:I)(x y:UInt8)(t:sW):Qe (w.alloc (tJ #[tK rG (x.toNat:Int),tK rG (y.toNat:Int)] t)) (tH (F ⟨w.heap.size,0,H⟩) 2 2) [x,y]:=(ZI.new w t [x,y]).slice 2 (by
 simp)
theorem KJ{base base':Nat}{w:I}{v:N}{bs:List UInt8}(h:Q9 base w v bs)(hb:base'<=base):Q9 base' w v bs:=by
 refine⟨h.1,?_⟩;rcases h.2with h2|⟨g,cap,cur,h1,h2,h3⟩;·exact .inl h2
 ·exact .inr ⟨g,cap,cur,h1,rC hb h2,h3⟩
end
structure Ac where
  kind : Int
  sess : Int
  keep : Int
  data : List UInt8
def UY:Ac:=⟨0,0,0,[]⟩
def Jc(a:Ac):Int:=if 1<=a.kind∧a.kind<=4then(if(a.kind=1∧¬(0<=a.sess∧a.sess<=7))∨(a.kind=3∧¬(0<=a.keep∧a.keep<=200000))then 2 else if 4000<a.data.length then 1 else if(a.kind≠1∧a.sess≠0)∨(a.kind≠3∧a.keep≠0)∨(a.kind≠1∧0<a.data.length)then 4 else 0)else 5
structure Xt(a:Ac):Prop where kind:1<=a.kind∧a.kind<=4sess:a.kind=1->0<=a.sess∧a.sess<=7keep:a.kind=3->0<=a.keep∧a.keep<=200000data:a.data.length<=4000noSess:a.kind≠1->a.sess=0noKeep:a.kind≠3->a.keep=0noData:a.kind≠1->a.data=[]
theorem uG(a:Ac):Jc a=0↔Xt a:=by
 unfold Jc;by_cases h0:1<=a.kind∧a.kind<=4;·rw[if_pos h0];by_cases h1:(a.kind=1∧¬(0<=a.sess∧a.sess<=7))∨(a.kind=3∧¬(0<=a.keep∧a.keep<=200000));(·rw[if_pos h1];refine⟨fun e=>(by cases e),fun h=>?_⟩;rcases h1 with⟨h1,h2⟩|⟨h1,h2⟩;(·exact absurd (h.sess h1) h2);·exact absurd (h.keep h1) h2);·rw[if_neg h1];by_cases h2:4000<a.data.length;(·rw[if_pos h2];exact⟨fun e=>(by cases e),fun h=>by have:=h.data;omega⟩);·rw[if_neg h2];by_cases h3:(a.kind≠1∧a.sess≠0)∨(a.kind≠3∧a.keep≠0)∨(a.kind≠1∧0<a.data.length);(·rw[if_pos h3];refine⟨fun e=>(by cases e),fun h=>?_⟩;rcases h3 with⟨h3,h4⟩|⟨h3,h4⟩|⟨h3,h4⟩;(·exact absurd (h.noSess h3) h4);(·exact absurd (h.noKeep h3) h4);·rw[h.noData h3]at h4;simp at h4);·rw[if_neg h3];refine⟨fun _=>⟨h0,fun h=>?_,fun h=>?_,by omega,fun h=>?_,fun h=>?_,fun h=>?_⟩,fun _=>rfl⟩;(·exact sN fun e=>h1 (.inl ⟨h,e⟩));(·exact sN fun e=>h1 (.inr ⟨h,e⟩));(·exact sN fun e=>h3 (.inl ⟨h,e⟩));(·exact sN fun e=>h3 (.inr (.inl ⟨h,e⟩)));·refine tD ?_;have:¬0<a.data.length:=fun e=>h3 (.inr (.inr ⟨h,e⟩));omega
 ·rw[if_neg h0];exact⟨fun e=>(by cases e),fun h=>absurd h.kind h0⟩
def lS(n:Nat):UInt8:=tC (48+n)
def iC(n:Nat):List UInt8:=if n<10then[lS n]else iC (n/10)++[lS (n%10)]termination_by n decreasing_by
 omega
def lK(n:Nat):UInt8:=if n<10then tC (48+n)else tC (87+n)
def mC(bs:List UInt8):List UInt8:=bs.flatMap fun c=>[lK (c.toNat/16),lK (c.toNat%16)]
def mD:List UInt8:=[97,115,107]
def i8:List UInt8:=[115,121,110,99]
def iL:List UInt8:=[99,114,97,115,104]
def gW:List UInt8:=[115,116,97,114,116]
def lZ(a:Ac):List UInt8:=if a.kind=1then mD++32::(iC a.sess.toNat++32::mC a.data)else if a.kind=2then i8 else if a.kind=3then iL++32::iC a.keep.toNat else if a.kind=4then gW else[]
theorem Zl(w:I)(o:Obj):∃W:I,Hid (W=w.alloc o)∧J w W H∧Hid (W.heap[w.heap.size]?=F o):=⟨w.alloc o,rfl,rP _ _ _,rJ w o⟩
theorem Qe.shape{w:I}{v:N}{bs:List UInt8}(h:Qe w v bs):∃a cap,v=tH a bs.length cap:=by
 obtain⟨a,cap,rfl,_⟩:=h;exact⟨a,cap,rfl⟩
theorem QR{W w:I}{b:Nat}{x y:N}{t:sW}(hg:J W w H)(h:W.heap[b]?=F (tJ #[x,y] t)):w.cell? ⟨b,0,H⟩=F x∧w.cell? ⟨b,1,H⟩=F y∧w.frozen? ⟨b,0,H⟩=V∧w.frozen? ⟨b,1,H⟩=V:=by
 have hb:w.heap[b]?=F (tJ #[x,y] t):=by rw[hg.block b (tL.1 h).1 (by simp)];exact h
 refine⟨by simp[tZ,hb],by simp[tZ,hb],by simp[sV,hb],by simp[sV,hb]⟩
theorem xB{W w:I}{b:Nat}{x y:N}{t:sW}(hg:J W w H)(h:W.heap[b]?=F (tJ #[x,y] t)){G:Prop}(k:w.heap[b]?=F (tJ #[x,y] t)->w.cell? ⟨b,0,H⟩=F x->w.cell? ⟨b,1,H⟩=F y->w.frozen? ⟨b,0,H⟩=V->w.frozen? ⟨b,1,H⟩=V->G):G:=by
 obtain⟨h1,h2,h3,h4⟩:=QR hg h;exact k (by rw[hg.block b (tL.1 h).1 (by simp)];exact h) h1 h2 h3 h4
theorem Qc{W w:I}{b:Nat}{o:Obj}(hg:J W w H)(h:W.heap[b]?=F o):w.heap[b]?=F o:=by
 rw[hg.block b (tL.1 h).1 (by simp)];exact h
def Qi(base:Nat)(w:I)(v:N)(bs:List UInt8):Prop:=Qe w v bs∧(bs=[]∨∃b,v.ownBlock=F b∧b<w.heap.size∧(b<base∨∃cur fz,w.heap[b]?=F (tJ cur 5 fz)))
theorem Qi.slice{base:Nat}{w:I}{v:N}{bs:List UInt8}(h:Qi base w v bs):Qe w v bs:=h.1
theorem Q9.part{base base':Nat}{w:I}{v:N}{bs:List UInt8}(h:Q9 base' w v bs):Qi base w v bs:=by
 refine⟨h.slice,?_⟩;rcases h.2with⟨rfl,h0⟩|⟨g,cap,cur,rfl,hb,hg,_⟩;·exact .inl (tD h0)
 ·exact .inr ⟨g,rfl,(tL.1 hg).1,.inr ⟨cur,_,hg⟩⟩
theorem VK{w:I}{b o:Nat}{v:N}(h:w.cell? ⟨b,o,H⟩=F v):b<w.heap.size:=by
 by_cases hb:b<w.heap.size;·exact hb
 ·simp[tZ,Array.getElem?_eq_none (Nat.le_of_not_lt hb)]at h
theorem Qe.part{w w':I}{v:N}{bs:List UInt8}(h:Qe w v bs)(hg:J w w' H)(base:Nat)(hb:w.heap.size<=base):Qi base w' v bs:=by
 refine⟨h.grown hg,?_⟩;obtain⟨a,cap,rfl,hc,h⟩:=h;rcases h with⟨rfl,_⟩|⟨b,o,rfl,h⟩;·exact .inl rfl
 ·by_cases h0:bs=[];(·exact .inl h0);·have hl:0<bs.length:=List.length_pos_iff.2 h0;have:=VK (h 0 hl);exact .inr ⟨b,rfl,tR this hg.size,.inl (by omega)⟩
theorem Qi.mono{base base':Nat}{w:I}{v:N}{bs:List UInt8}(h:Qi base w v bs)(hb:base<=base'):Qi base' w v bs:=by
 refine⟨h.1,?_⟩;rcases h.2with h|⟨b,h1,h2,h3⟩;·exact .inl h
 ·refine .inr ⟨b,h1,h2,?_⟩;rcases h3 with h3|h3;(·exact .inl (by omega));·exact .inr h3
theorem Zv{base:Nat}{w:I}{v:N}{bs:List UInt8}(h:Qi base w v bs):v.oneCell'=O:=by
 obtain⟨⟨a,cap,rfl,_⟩,_⟩:=h;rfl
theorem Qi.keptT{base:Nat}{w w':I}{v:N}{bs:List UInt8}(h:Qi base w v bs){row:Option Nat}(hg:J w w' row)(hrow:row=H∨∃g cur t fz,row=F g∧base<=g∧w.heap[g]?=F (tJ cur t fz)∧t≠5):Qi base w' v bs:=by
 obtain⟨hs,ho⟩:=h;rcases ho with rfl|⟨b,hb,hlt,hc⟩;·obtain⟨a,cap,rfl,hc,h⟩:=hs;refine⟨⟨a,cap,rfl,hc,?_⟩,.inl rfl⟩;rcases h with h|⟨b,o,rfl,h⟩;(·exact .inl h);·exact .inr ⟨b,o,rfl,fun i hi=>by simp at hi⟩
 ·(have hne:F b≠row:=by intro e;rcases hrow with rfl|⟨g,cur,t,fz,rfl,hbg,hgc,ht⟩;(·cases e);·cases e;rcases hc with hc|⟨cur2,fz2,hc⟩;(·omega);·rw[hc]at hgc;simp only[tP,Obj.cells.injEq]at hgc;exact ht hgc.2.1.symm);have hblk:=hg.block b hlt hne;refine⟨?_,.inr ⟨b,hb,tR hlt hg.size,?_⟩⟩;(·obtain⟨a,cap,rfl,hcp,h⟩:=hs;refine⟨a,cap,rfl,hcp,?_⟩;rcases h with h|⟨b',o,rfl,h⟩;(·exact .inl h);·refine .inr ⟨b',o,rfl,fun i hi=>?_⟩;simp[pZ]at hb;subst hb;exact hg.cell (h i hi) (by simpa using hne));·rcases hc with hc|⟨cur,fz,hc⟩;(·exact .inl hc);·exact .inr ⟨cur,fz,by rw[hblk];exact hc⟩
def ZQ(k:List UInt8)(i:Nat):Bool:=if i/9<k.length then(if i%9=0then O else(k.getD (i/9) 0).toNat.testBit (8-i%9))else V
theorem Ul(k:List UInt8)(p:Nat):ZQ k (9*p)=tI (p<k.length):=by
 unfold ZQ;rw[show 9*p/9=p by omega,show 9*p%9=0 by omega];by_cases h:p<k.length<;>simp[h]
theorem Um(k:List UInt8)(p r:Nat)(hp:p<k.length)(hr:1<=r)(hr8:r<=8):ZQ k (9*p+r)=(k.getD p 0).toNat.testBit (8-r):=by
 unfold ZQ;rw[show(9*p+r)/9=p by omega,show(9*p+r)%9=r by omega,if_pos hp,if_neg (by omega)]
theorem NA(k:List UInt8)(i:Nat)(h:k.length<=i/9):ZQ k i=V:=by
 unfold ZQ;rw[if_neg (by omega)]
theorem Be(x y:UInt8)(h:∀j,j<8->x.toNat.testBit j=y.toNat.testBit j):x=y:=by
 apply pW.1;apply pQ;intro j;by_cases hj:j<8;·exact h j hj
 ·rw[sU (tR x.toNat_lt (rA (by decide) (by omega:8<=j))),sU (tR y.toNat_lt (rA (by decide) (by omega:8<=j)))]
theorem It(a b:List UInt8)(ha:a.length<=16)(hb:b.length<=16)(h:∀i,i<145->ZQ a i=ZQ b i):a=b:=by
 have hl:a.length=b.length:=by have h1:=h (9*a.length) (by omega);have h2:=h (9*b.length) (by omega);rw[Ul,Ul]at h1 h2;simp at h1 h2;omega
 apply List.ext_getElem hl;intro p h1 h2;have e:a.getD p 0=b.getD p 0:=by apply Be;intro j hj;have:=h (9*p+(8-j)) (by omega);rw[Um a p _ h1 (by omega) (by omega),Um b p _ h2 (by omega) (by omega),show 8-(8-j)=j by omega]at this;exact this
 simpa[h1,h2]using e
def yC(a b:List UInt8):Nat->Nat->Int|0,_=>-1|n+1,i=>if ZQ a i=ZQ b i then yC a b n (i+1)else(i:Int)
def JU(a b:List UInt8):Int:=yC a b 145 0
theorem Er(a b:List UInt8)(n i:Nat):(yC a b n i=-1∧∀j,i<=j->j<i+n->ZQ a j=ZQ b j)∨∃m:Nat,yC a b n i=(m:Int)∧i<=m∧m<i+n∧(∀j,i<=j->j<m->ZQ a j=ZQ b j)∧ZQ a m≠ZQ b m:=by
 induction n generalizing i with|zero=>exact .inl ⟨rfl,fun j _ h=>by omega⟩|succ n ih=>unfold yC;by_cases he:ZQ a i=ZQ b i;(·rw[if_pos he];rcases ih (i+1)with⟨h1,h2⟩|⟨m,h1,h2,h3,h4,h5⟩;(·refine .inl ⟨h1,fun j hj hj2=>?_⟩;by_cases hji:j=i;(·subst hji;exact he);·exact h2 j (by omega) (by omega));·refine .inr ⟨m,h1,by omega,by omega,fun j hj hj2=>?_,h5⟩;by_cases hji:j=i;(·subst hji;exact he);·exact h4 j (by omega) hj2);·rw[if_neg he];exact .inr ⟨i,rfl,sA _,by omega,fun j h1 h2=>by omega,he⟩
theorem J0(a b:List UInt8):(JU a b=-1∧∀j,j<145->ZQ a j=ZQ b j)∨∃m:Nat,JU a b=(m:Int)∧m<145∧(∀j,j<m->ZQ a j=ZQ b j)∧ZQ a m≠ZQ b m:=by
 rcases Er a b 145 0with⟨h1,h2⟩|⟨m,h1,_,h3,h4,h5⟩;·exact .inl ⟨h1,fun j hj=>h2 j (by omega) (by omega)⟩
 ·exact .inr ⟨m,h1,by omega,fun j hj=>h4 j (by omega) hj,h5⟩
theorem Cb(a b:List UInt8)(m:Nat)(hm:m<145)(h:∀j,j<m->ZQ a j=ZQ b j)(hd:ZQ a m≠ZQ b m):JU a b=(m:Int):=by
 rcases J0 a b with⟨_,h2⟩|⟨m',h1,h2,h3,h4⟩;·exact absurd (h2 m hm) hd
 ·by_cases hlt:m'<m;(·exact absurd (h m' hlt) h4);·by_cases hgt:m<m';(·exact absurd (h3 m hgt) hd);·rw[h1];omega
theorem T5(a b:List UInt8)(h:∀j,j<145->ZQ a j=ZQ b j):JU a b=-1:=by
 rcases J0 a b with⟨h1,_⟩|⟨m',_,h2,_,h4⟩;·exact h1
 ·exact absurd (h m' h2) h4
theorem Fi(a b:List UInt8):-1<=JU a b∧JU a b<=144:=by
 rcases J0 a b with⟨h,_⟩|⟨m,h,hm,_⟩<;>omega
theorem AR(a b:List UInt8)(ha:a.length<=16)(hb:b.length<=16):JU a b<0↔a=b:=by
 constructor;·intro h;rcases J0 a b with⟨_,h2⟩|⟨m,h1,_⟩;(·exact It a b ha hb h2);·omega
 ·rintro rfl;rw[T5 a a fun _ _=>rfl];decide
theorem PA(x y:UInt8)(a b:List UInt8):sH (x::a) (y::b)=(tI (x<y)||(x==y&&sH a b)):=by
 simp[sH]
theorem N6:∀(p:Nat)(a b:List UInt8),(∀i,i<p->i<a.length∧i<b.length∧a.getD i 0=b.getD i 0)->sH a b=sH (a.drop p) (b.drop p)|0,a,b,_=>by simp|p+1,[],b,h=>by have:=(h 0 (by omega)).1;simp at this|p+1,x::a,[],h=>by have:=(h 0 (by omega)).2.1;simp at this|p+1,x::a,y::b,h=>by have h0:=(h 0 (by omega)).2.2;simp at h0;subst h0;rw[PA,pR,pR,<-N6 p a b fun i hi=>by have:=h (i+1) (by omega);simp at this;simpa using this];simp
theorem CD(a:List UInt8):sH a []=V:=by
 cases a<;>rfl
theorem Fb(a:List UInt8)(p:Nat)(h:p<a.length):a.drop p=a.getD p 0::a.drop (p+1):=by
 rw[sD h];simp[h]
theorem Nh(x y j:Nat)(hx:x.testBit j=V)(hy:y.testBit j=O)(h:∀i,j<i->x.testBit i=y.testBit i):x<y:=by
 have hq:x/2^(j+1)=y/2^(j+1):=by apply pQ;intro i;rw[pH,pH];exact h _ (by omega)
 rw[Nat.testBit_eq_decide_div_mod_eq]at hx hy;simp at hx hy;rw[Nat.pow_succ,<-pM,<-pM]at hq;exact Nat.lt_of_div_lt_div (c:=2^j) (by omega)
theorem IV(x y:UInt8)(j:Nat)(hd:x.toNat.testBit j≠y.toNat.testBit j)(h:∀i,j<i->x.toNat.testBit i=y.toNat.testBit i):(tI (x<y)||(x==y&&V))=y.toNat.testBit j:=by
 cases hy:y.toNat.testBit j with|true=>(have hx:x.toNat.testBit j=V:=by cases hx:x.toNat.testBit j with|true=>exact absurd (hx.trans hy.symm) hd|false=>rfl);have:=Nh _ _ j hx hy h;simp[sK,this]|false=>(have hx:x.toNat.testBit j=O:=by cases hx:x.toNat.testBit j with|true=>rfl|false=>exact absurd (hx.trans hy.symm) hd);have:=Nh _ _ j hy hx (fun i hi=>(h i hi).symm);simp[sK];omega
theorem To(a b:List UInt8)(m:Nat)(h:∀j,j<m->ZQ a j=ZQ b j)(hd:ZQ a m≠ZQ b m):ZQ b m=sH a b:=by
 have hone:m/9<a.length∨m/9<b.length:=by by_cases h1:m/9<a.length;(·exact .inl h1);·by_cases h2:m/9<b.length;(·exact .inr h2);·rw[NA a m (by omega),NA b m (by omega)]at hd;exact absurd rfl hd
 have hpre:∀i,i<m/9->i<a.length∧i<b.length∧a.getD i 0=b.getD i 0:=by intro i hi;have hh:=h (9*i) (by omega);rw[Ul,Ul]at hh;(have hl:i<a.length∧i<b.length:=by simp at hh;omega);refine⟨hl.1,hl.2,Be _ _ fun j hj=>?_⟩;have:=h (9*i+(8-j)) (by omega);rw[Um a i _ hl.1 (by omega) (by omega),Um b i _ hl.2 (by omega) (by omega),show 8-(8-j)=j by omega]at this;exact this
 rw[N6 (m/9) a b hpre];by_cases hr:m%9=0;·(have em:m=9*(m/9):=by omega);have ha:=Ul a (m/9);have hb:=Ul b (m/9);rw[<-em]at ha hb;by_cases hlb:m/9<b.length;(·have hla:¬m/9<a.length:=fun hla=>hd (by rw[ha,hb];simp[hla,hlb]);rw[hb,tW (by omega),Fb b _ hlb];simp[hlb,sH]);·rw[hb,tW (show b.length<=m/9by omega),CD];simp[hlb]
 ·have hh:=h (9*(m/9)) (by omega);rw[Ul,Ul]at hh;(have hl:m/9<a.length∧m/9<b.length:=by simp at hh;omega);(have em:m=9*(m/9)+m%9:=by omega);have ha:=Um a (m/9) (m%9) hl.1 (by omega) (by omega);have hb:=Um b (m/9) (m%9) hl.2 (by omega) (by omega);rw[<-em]at ha hb;rw[Fb a _ hl.1,Fb b _ hl.2,PA,hb];rw[ha,hb]at hd;(have hne:(a.getD (m/9) 0==b.getD (m/9) 0)=V:=by rw[beq_eq_false_iff_ne];intro e;rw[e]at hd;exact hd rfl);rw[hne,Bool.false_and];have:=IV (a.getD (m/9) 0) (b.getD (m/9) 0) (8-m%9) hd (fun i hi=>by by_cases hi8:i<8;(·have:=h (9*(m/9)+(8-i)) (by omega);rw[Um a _ _ hl.1 (by omega) (by omega),Um b _ _ hl.2 (by omega) (by omega),show 8-(8-i)=i by omega]at this;exact this);·rw[sU (tR (a.getD (m/9) 0).toNat_lt (rA (by decide) (by omega:8<=i))),sU (tR (b.getD (m/9) 0).toNat_lt (rA (by decide) (by omega:8<=i)))]);rw[Bool.and_false]at this;exact this.symm
def Qq(n:Nat):Int:=if 1<=n∧n<=16then 0 else 1
def AQ(k:List UInt8)(i:Int):Bool×Int:=if 1<=k.length∧k.length<=16then(if 0<=i∧i<=144then(ZQ k i.toNat,0)else(V,2))else(V,1)
def Tg(a b:List UInt8):Int×Int:=if 1<=a.length∧a.length<=16then(if 1<=b.length∧b.length<=16then(JU a b,0)else(0,1))else(0,1)
theorem eI(k:List UInt8)(i:Nat)(hk:1<=k.length∧k.length<=16)(hi:i<145):AQ k (i:Int)=(ZQ k i,0):=by
 rw[AQ,if_pos hk,if_pos (by omega)];rfl
theorem aR(a b:List UInt8)(ha:1<=a.length∧a.length<=16)(hb:1<=b.length∧b.length<=16):Tg a b=(JU a b,0):=by
 rw[Tg,if_pos ha,if_pos hb]
structure Ze where
  name : List UInt8
  key : List UInt8
  value : List UInt8
  gone : Bool
def Y1(p:Ze):Prop:=p.name.length<=140737488355328∧p.key.length<=140737488355328∧p.value.length<=140737488355328
def Qs:Ze:=⟨[],[],[],V⟩
theorem Qj{W w:I}{b:Nat}{x y z u:N}{t:sW}(hg:J W w H)(h:W.heap[b]?=F (tJ #[x,y,z,u] t)):(w.cell? ⟨b,0,H⟩=F x∧w.cell? ⟨b,1,H⟩=F y∧w.cell? ⟨b,2,H⟩=F z∧w.cell? ⟨b,3,H⟩=F u)∧w.frozen? ⟨b,0,H⟩=V∧w.frozen? ⟨b,1,H⟩=V∧w.frozen? ⟨b,2,H⟩=V∧w.frozen? ⟨b,3,H⟩=V∧w.heap[b]?=F (tJ #[x,y,z,u] t):=by
 have hb:w.heap[b]?=F (tJ #[x,y,z,u] t):=by rw[hg.block b (tL.1 h).1 (by simp)];exact h
 refine⟨⟨?_,?_,?_,?_⟩,?_,?_,?_,?_,hb⟩;all_goals simp[tZ,sV,hb]
theorem JE{w:I}{b:Nat}{x y z u:N}{t:sW}(h:w.heap[b]?=F (tJ #[x,y,z,u] t))(x' y' z' u':N):((((tG w ⟨b,0,H⟩ x').setCell ⟨b,1,H⟩ y').setCell ⟨b,2,H⟩ z').setCell ⟨b,3,H⟩ u').heap[b]?=F (tJ #[x',y',z',u'] t)∧(tG w ⟨b,0,H⟩ x').cell? ⟨b,0,H⟩=F x'∧((tG w ⟨b,0,H⟩ x').setCell ⟨b,1,H⟩ y').cell? ⟨b,1,H⟩=F y'∧(((tG w ⟨b,0,H⟩ x').setCell ⟨b,1,H⟩ y').setCell ⟨b,2,H⟩ z').cell? ⟨b,2,H⟩=F z'∧((((tG w ⟨b,0,H⟩ x').setCell ⟨b,1,H⟩ y').setCell ⟨b,2,H⟩ z').setCell ⟨b,3,H⟩ u').cell? ⟨b,3,H⟩=F u':=by
 have h0:(tG w ⟨b,0,H⟩ x').heap[b]?=F (tJ #[x',y,z,u] t):=by simp only[tG,tQ,if_true,h,sO];first|rfl|simp
 have h1:((tG w ⟨b,0,H⟩ x').setCell ⟨b,1,H⟩ y').heap[b]?=F (tJ #[x',y',z,u] t):=by rw[tG,tQ,if_pos rfl,h0];first|rfl|simp
 have h2:(((tG w ⟨b,0,H⟩ x').setCell ⟨b,1,H⟩ y').setCell ⟨b,2,H⟩ z').heap[b]?=F (tJ #[x',y',z',u] t):=by rw[tG,tQ,if_pos rfl,h1];first|rfl|simp
 have h3:((((tG w ⟨b,0,H⟩ x').setCell ⟨b,1,H⟩ y').setCell ⟨b,2,H⟩ z').setCell ⟨b,3,H⟩ u').heap[b]?=F (tJ #[x',y',z',u'] t):=by rw[tG,tQ,if_pos rfl,h2];first|rfl|simp
 exact⟨h3,by simp[tZ,h0],by simp[tZ,h1],by simp[tZ,h2],by simp[tZ,h3]⟩
theorem Q9.setBlk{base:Nat}{w:I}{v:N}{bs:List UInt8}(h:Q9 base w v bs){b:Nat}{cur:Array N}{t:sW}{fz:Nat×Nat}(hb:w.heap[b]?=F (tJ cur t fz))(ht:t≠5)(i:Nat)(u:N):Q9 base (tG w ⟨b,i,H⟩ u) v bs:=by
 refine h.grown (row:=F b) (Qh (Qb _ _) i u) ?_;rcases h.2with⟨rfl,_⟩|⟨g,cap,cur2,rfl,_,hg,_⟩;·exact .inl rfl
 ·right;intro e;simp[pZ]at e;subst e;rw[hg]at hb;simp at hb;exact ht hb.2.1.symm
theorem JA{w w1:I}(h:J w w1 H)(b:Nat)(hb:w.heap.size<=b)(x y z u:N):J w ((((tG w1 ⟨b,0,H⟩ x).setCell ⟨b,1,H⟩ y).setCell ⟨b,2,H⟩ z).setCell ⟨b,3,H⟩ u) H:=Qd (Qd (Qd (Qd h _ hb _ _) _ hb _ _) _ hb _ _) _ hb _ _
abbrev Pr:=List UInt8×List UInt8
abbrev PL:=List Pr
abbrev YW(a b:List UInt8):Bool:=sH a b
theorem F7(a:List UInt8):YW a []=V:=CD a
theorem vY(x y:UInt8)(a b:List UInt8):YW (x::a) (y::b)=(tI (x<y)||(x==y&&YW a b)):=PA x y a b
theorem Yd:∀a:List UInt8,YW a a=V|[]=>rfl|x::a=>by rw[vY,Yd a];simp
theorem Ko:∀a b c:List UInt8,YW a b=O->YW b c=O->YW a c=O|_,[],_,h,_=>by rw[F7]at h;cases h|_,_::_,[],_,h=>by rw[F7]at h;cases h|[],_::_,_::_,_,_=>rfl|x::a,y::b,z::c,h1,h2=>by rw[vY]at h1 h2⊢;simp only[oC,decide_eq_true_eq,pX,beq_iff_eq,sK]at h1 h2⊢;rcases h1 with h1|⟨rfl,h1⟩;(·rcases h2 with h2|⟨rfl,h2⟩;(·left;omega);·left;exact h1);·rcases h2 with h2|⟨rfl,h2⟩;(·left;exact h2);·right;exact⟨rfl,Ko a b c h1 h2⟩
theorem UN:∀a b:List UInt8,YW a b=V->a≠b->YW b a=O|[],[],_,h=>absurd rfl h|[],_::_,h,_=>by cases h|_::_,[],_,_=>rfl|x::a,y::b,h1,h2=>by rw[vY]at h1⊢;simp only[rO,decide_eq_false_iff_not,Bool.and_eq_false_iff,beq_eq_false_iff_ne,sK]at h1;simp only[oC,decide_eq_true_eq,pX,beq_iff_eq,sK];by_cases e:y=x;(·subst e;right;refine⟨rfl,UN a b ?_ (fun e=>h2 (by rw[e]))⟩;rcases h1.2with h|h;(·exact absurd rfl h);·exact h);·left;have:x.toNat≠y.toNat:=fun h=>e (pW.1 h.symm);omega
theorem Hy(a b:List UInt8)(h:YW a b=O):YW b a=V:=by
 cases hb:YW b a with|false=>rfl|true=>have:=Ko a b a h hb;rw[Yd]at this;cases this
theorem gS{a b:List UInt8}(h:YW a b=O):a≠b:=by
 rintro rfl;rw[Yd]at h;cases h
def QV(p:Pr):Int:=if 32<p.2.length then 1 else Qq p.1.length
def XN(l:PL)(i:Nat):Int:=if QV (l.getD i ([],[]))=0then(if 0<i∧YW (l.getD (i-1) ([],[])).1 (l.getD i ([],[])).1=V then 3 else 0)else QV (l.getD i ([],[]))
def Kk(l:PL):Nat->Nat->Int|0,_=>0|n+1,i=>if XN l i=0then Kk l n (i+1)else XN l i
def QC(l:PL):Int:=if 60<l.length then 1 else Kk l l.length 0
theorem zS(l:PL)(n i:Nat)(hi:i<=n)(h:∀j,j<i->XN l j=0):Kk l n 0=Kk l (n-i) i:=by
 induction i with|zero=>rfl|succ i ih=>rw[ih (by omega) (fun j hj=>h j (by omega)),show n-i=(n-(i+1))+1by omega,Kk,if_pos (h i (by omega))]
theorem jX(l:PL)(i:Nat)(hi:i<l.length)(hl:l.length<=60)(h:∀j,j<i->XN l j=0)(hf:XN l i≠0):QC l=XN l i:=by
 rw[QC,if_neg (by omega),zS l _ i (by omega) h,show l.length-i=(l.length-(i+1))+1by omega,Kk,if_neg hf]
theorem zR(l:PL)(hl:l.length<=60)(h:∀j,j<l.length->XN l j=0):QC l=0:=by
 rw[QC,if_neg (by omega),zS l _ l.length (sA _) h,oG,Kk]
theorem zO(l:PL)(hl:60<l.length):QC l=1:=by
 rw[QC,if_pos hl]
theorem xQ(l:PL):∀(n i:Nat),Kk l n i=0->∀j,i<=j->j<i+n->XN l j=0|0,i,_,j,h1,h2=>by omega|n+1,i,h,j,h1,h2=>by rw[Kk]at h;by_cases e:XN l i=0;(·rw[if_pos e]at h;by_cases hj:j=i;(·subst hj;exact e);·exact xQ l n (i+1) h j (by omega) (by omega));·rw[if_neg e]at h;exact absurd h e
def UD(l:PL):Prop:=l.Pairwise fun p q=>YW p.1 q.1=O
structure ZA(l:PL):Prop where room:l.length<=60pairs:∀p∈l,(1<=p.1.length∧p.1.length<=16)∧p.2.length<=32rises:UD l
theorem JM(p:Pr):QV p=0↔(1<=p.1.length∧p.1.length<=16)∧p.2.length<=32:=by
 unfold QV Qq;by_cases h:32<p.2.length;·rw[if_pos h];constructor;(·intro h;cases h);·intro h;omega
 ·rw[if_neg h];by_cases h2:1<=p.1.length∧p.1.length<=16;(·rw[if_pos h2];exact⟨fun _=>⟨h2,by omega⟩,fun _=>rfl⟩);·rw[if_neg h2];constructor;(·intro h;cases h);·intro h;exact absurd h.1 h2
theorem Fn(l:PL)(i:Nat):XN l i=0↔QV (l.getD i ([],[]))=0∧(0<i->YW (l.getD (i-1) ([],[])).1 (l.getD i ([],[])).1=O):=by
 unfold XN;by_cases h:QV (l.getD i ([],[]))=0;·rw[if_pos h];by_cases h2:0<i∧YW (l.getD (i-1) ([],[])).1 (l.getD i ([],[])).1=V;(·rw[if_pos h2];constructor;(·intro h;cases h);·intro h3;have:=h3.2 h2.1;rw[h2.2]at this;cases this);·rw[if_neg h2];refine⟨fun _=>⟨h,fun hi=>?_⟩,fun _=>rfl⟩;cases hk:YW (l.getD (i-1) ([],[])).1 (l.getD i ([],[])).1with|true=>rfl|false=>exact absurd ⟨hi,hk⟩ h2
 ·rw[if_neg h];constructor;(·intro h2;exact absurd h2 h);·intro h2;exact absurd h2.1 h
theorem xK:∀l:PL,(∀i,0<i->i<l.length->YW (l.getD (i-1) ([],[])).1 (l.getD i ([],[])).1=O)->UD l|[],_=>sZ|[_],_=>sQ _ _|p::q::r,h=>by(have ih:UD (q::r):=xK (q::r) fun i h0 hi=>by have:=h (i+1) (by omega) (by simp at hi⊢;omega);rw[show i+1-1=(i-1)+1by omega]at this;simpa using this);(have h01:YW p.1 q.1=O:=by have:=h 1 (by omega) (by simp);simpa using this);refine tU (fun x hx=>?_) ih;rcases tS.1 hx with rfl|hx;(·exact h01);·exact Ko _ _ _ h01 ((rF.1 ih).1 x hx)
theorem UV(l:PL)(h:UD l)(i j:Nat)(hij:i<j)(hj:j<l.length):YW (l.getD i ([],[])).1 (l.getD j ([],[])).1=O:=by
 have:=pC.1 h i j (by omega) hj hij;simpa[hj,show i<l.length by omega]using this
theorem Y0(l:PL):QC l=0↔ZA l:=by
 constructor;·intro h;(have hl:l.length<=60:=by by_cases hl:60<l.length;(·rw[zO l hl]at h;cases h);·omega);rw[QC,if_neg (by omega)]at h;have ha:=fun j(hj:j<l.length)=>(Fn l j).1 (xQ l l.length 0 h j (by omega) (by omega));refine⟨hl,fun p hp=>?_,xK l fun i h0 hi=>(ha i hi).2 h0⟩;obtain⟨i,hi,rfl⟩:=L.1 hp;have:=(JM _).1 (ha i hi).1;simpa[hi]using this
 ·intro h;refine zR l h.room fun j hj=>(Fn l j).2 ⟨(JM _).2 ?_,fun h0=>UV l h.rises _ _ (by omega) hj⟩;have:=h.pairs l[j] (sF hj);simpa[hj]using this
theorem bC:ZA []:=⟨by
 simp,by
 simp,sZ⟩
def Ex(l:PL)(k:List UInt8):Option (List UInt8):=(l.find? fun p=>p.1==k).map (·.2)
theorem Eb(p:Pr)(l:PL)(k:List UInt8):Ex (p::l) k=if p.1=k then F p.2 else Ex l k:=by
 unfold Ex;by_cases h:p.1=k;·rw[pI (by simpa using h),if_pos h];rfl
 ·rw[pJ (by simpa using h),if_neg h]
theorem OS:∀(l:PL)(k:List UInt8)(i:Nat),i<l.length->(∀j,j<i->(l.getD j ([],[])).1≠k)->(l.getD i ([],[])).1=k->Ex l k=F (l.getD i ([],[])).2|[],_,_,h,_,_=>by simp at h|p::l,k,0,_,_,h2=>by rw[Eb,if_pos (by simpa using h2)];simp|p::l,k,i+1,h,h1,h2=>by rw[Eb,if_neg (by simpa using h1 0 (by omega))];have:=OS l k i (by simpa using h) (fun j hj=>by simpa using h1 (j+1) (by omega)) (by simpa using h2);simpa using this
theorem Cd:∀(l:PL)(k:List UInt8),(∀j,j<l.length->(l.getD j ([],[])).1≠k)->Ex l k=H|[],_,_=>rfl|p::l,k,h=>by rw[Eb,if_neg (by simpa using h 0 (by simp))];exact Cd l k fun j hj=>by simpa using h (j+1) (by simpa using hj)
def Km:PL->Pr->PL|[],p=>[p]|q::r,p=>if YW q.1 p.1=O then q::Km r p else if q.1=p.1then p::r else p::q::r
def kK(l:PL)(k:List UInt8):PL:=l.filter fun q=>!(q.1==k)
def Vq(l:PL)(a b:List UInt8):PL:=l.filter fun q=>!YW q.1 a&&!YW b q.1
theorem MI(l:PL)(p x:Pr):x∈Km l p->x=p∨x∈l:=by
 induction l with|nil=>intro h;simp[Km]at h;exact .inl h|cons q r ih=>intro h;rw[Km]at h;by_cases h1:YW q.1 p.1=O;(·rw[if_pos h1]at h;rcases tS.1 h with rfl|h;(·exact .inr (by simp));·rcases ih h with h|h;(·exact .inl h);·exact .inr (tY _ h));·rw[if_neg h1]at h;by_cases h2:q.1=p.1;(·rw[if_pos h2]at h;rcases tS.1 h with h|h;(·exact .inl h);·exact .inr (tY _ h));·rw[if_neg h2]at h;rcases tS.1 h with h|h;(·exact .inl h);·exact .inr h
theorem Po(l:PL)(p:Pr)(h:UD l):UD (Km l p):=by
 induction l with|nil=>exact sQ _ _|cons q r ih=>have hr:=rF.1 h;rw[Km];by_cases h1:YW q.1 p.1=O;(·rw[if_pos h1];refine tU (fun x hx=>?_) (ih hr.2);rcases MI r p x hx with rfl|hx;(·exact h1);·exact hr.1 x hx);·rw[if_neg h1];by_cases h2:q.1=p.1;(·rw[if_pos h2];exact tU (fun x hx=>by rw[<-h2];exact hr.1 x hx) hr.2);·rw[if_neg h2];have hpq:=UN _ _ (by simpa using h1) h2;refine tU (fun x hx=>?_) h;rcases tS.1 hx with rfl|hx;(·exact hpq);·exact Ko _ _ _ hpq (hr.1 x hx)
theorem NW(l:PL)(k:List UInt8)(h:UD l):UD (kK l k):=sR _ h
theorem Bs(l:PL)(a b:List UInt8)(h:UD l):UD (Vq l a b):=sR _ h
def Xb(l:PL)(k:List UInt8):Int:=if QC l=0then Qq k.length else QC l
theorem jI{l:PL}{k:List UInt8}(h:Xb l k=0):ZA l:=by
 unfold Xb at h;by_cases h0:QC l=0;·exact(Y0 l).1 h0
 ·rw[if_neg h0]at h;exact absurd h h0
theorem Zu(n:Nat):Qq n=0↔1<=n∧n<=16:=by
 unfold Qq;by_cases h:1<=n∧n<=16;·rw[if_pos h];exact⟨fun _=>h,fun _=>rfl⟩
 ·rw[if_neg h];constructor;(·intro h2;cases h2);·intro h2;exact absurd h2 h
theorem O9{l:PL}{k:List UInt8}(h:Xb l k=0):1<=k.length∧k.length<=16:=by
 have ht:=(Y0 l).2 (jI h);unfold Xb at h;rw[if_pos ht]at h;exact(Zu _).1 h
theorem Pc{l:PL}{k:List UInt8}(h:ZA l)(hk:1<=k.length∧k.length<=16):Xb l k=0:=by
 unfold Xb;rw[if_pos ((Y0 l).2 h)];exact(Zu _).2 hk
def Ev(l:PL)(k:List UInt8):Bool:=Xb l k==0&&(Ex l k).isSome
def Ey(l:PL)(k:List UInt8):List UInt8:=if Xb l k=0then(Ex l k).getD []else[]
def z8(l:PL)(k:List UInt8):PL:=if Xb l k=0then kK l k else[]
theorem Lo(l:PL)(k:List UInt8):(kK l k).length<=l.length:=sX _ _
def YL(l:PL)(f t:List UInt8):Int:=if Xb l f=0then Qq t.length else Xb l f
theorem Ak{l:PL}{f t:List UInt8}(h:YL l f t=0):Xb l f=0:=by
 unfold YL at h;by_cases h0:Xb l f=0;·exact h0
 ·rw[if_neg h0]at h;exact absurd h h0
def K3(l:PL)(f t:List UInt8):PL:=if YL l f t=0then Vq l f t else[]
theorem Ib(l:PL)(f t:List UInt8):(Vq l f t).length<=l.length:=sX _ _
def Gb(l:PL)(p:Pr):Int:=if QC l=0then QV p else QC l
def Ku(l:PL)(p:Pr):Int:=if Gb l p=0then(if 60<(Km l p).length then 11 else 0)else Gb l p
def Vz(l:PL)(p:Pr):PL:=if Ku l p=0then Km l p else[]
theorem eU(l:PL)(p:Pr):(Km l p).length<=l.length+1:=by
 induction l with|nil=>simp[Km]|cons q r ih=>rw[Km];by_cases h1:YW q.1 p.1=O;(·rw[if_pos h1];simp;omega);·rw[if_neg h1];by_cases h2:q.1=p.1;(·rw[if_pos h2];simp);·rw[if_neg h2];simp
structure uF (l : PL) : Prop where
  many : l.length * 48 <= 140737488355328
  each : ∀ i, i < l.length -> (l.getD i ([], [])).1.length <= 140737488355328 ∧ (l.getD i ([], [])).2.length <= 140737488355328
theorem uF.len{l:PL}(h:uF l):l.length<=140737488355328:=by
 have:=h.many;omega
theorem ZA.fits{l:PL}(h:ZA l):uF l:=by
 refine⟨by have:=h.room;omega,fun i hi=>?_⟩;have:=h.pairs l[i] (sF hi);rw[show l[i]=l.getD i ([],[])by simp[hi]]at this;omega
abbrev Tn:=List UInt8×PL
abbrev FL:=List Tn
def YM(l:FL):Prop:=l.Pairwise fun p q=>YW p.1 q.1=O
def xL(l:FL)(k:List UInt8):Option PL:=(l.find? fun p=>p.1==k).map (·.2)
theorem kM(p:Tn)(l:FL)(k:List UInt8):xL (p::l) k=if p.1=k then F p.2 else xL l k:=by
 unfold xL;by_cases h:p.1=k;·rw[pI (by simpa using h),if_pos h];rfl
 ·rw[pJ (by simpa using h),if_neg h]
theorem Bj:∀(l:FL)(k:List UInt8)(i:Nat),i<l.length->(∀j,j<i->(l.getD j ([],[])).1≠k)->(l.getD i ([],[])).1=k->xL l k=F (l.getD i ([],[])).2|[],_,_,h,_,_=>by simp at h|p::l,k,0,_,_,h2=>by rw[kM,if_pos (by simpa using h2)];simp|p::l,k,i+1,h,h1,h2=>by rw[kM,if_neg (by simpa using h1 0 (by omega))];have:=Bj l k i (by simpa using h) (fun j hj=>by simpa using h1 (j+1) (by omega)) (by simpa using h2);simpa using this
theorem Ri:∀(l:FL)(k:List UInt8),(∀j,j<l.length->(l.getD j ([],[])).1≠k)->xL l k=H|[],_,_=>rfl|p::l,k,h=>by rw[kM,if_neg (by simpa using h 0 (by simp))];exact Ri l k fun j hj=>by simpa using h (j+1) (by simpa using hj)
def JB:FL->Tn->FL|[],p=>[p]|q::r,p=>if YW q.1 p.1=O then q::JB r p else if q.1=p.1then p::r else p::q::r
def kR(l:FL)(k:List UInt8):FL:=l.filter fun q=>!(q.1==k)
theorem Nb(l:FL)(p x:Tn):x∈JB l p->x=p∨x∈l:=by
 induction l with|nil=>intro h;simp[JB]at h;exact .inl h|cons q r ih=>intro h;rw[JB]at h;by_cases h1:YW q.1 p.1=O;(·rw[if_pos h1]at h;rcases tS.1 h with rfl|h;(·exact .inr (by simp));·rcases ih h with h|h;(·exact .inl h);·exact .inr (tY _ h));·rw[if_neg h1]at h;by_cases h2:q.1=p.1;(·rw[if_pos h2]at h;rcases tS.1 h with h|h;(·exact .inl h);·exact .inr (tY _ h));·rw[if_neg h2]at h;rcases tS.1 h with h|h;(·exact .inl h);·exact .inr h
theorem Dz(l:FL)(p:Tn)(h:YM l):YM (JB l p):=by
 induction l with|nil=>exact sQ _ _|cons q r ih=>have hr:=rF.1 h;rw[JB];by_cases h1:YW q.1 p.1=O;(·rw[if_pos h1];refine tU (fun x hx=>?_) (ih hr.2);rcases Nb r p x hx with rfl|hx;(·exact h1);·exact hr.1 x hx);·rw[if_neg h1];by_cases h2:q.1=p.1;(·rw[if_pos h2];exact tU (fun x hx=>by rw[<-h2];exact hr.1 x hx) hr.2);·rw[if_neg h2];have hpq:=UN _ _ (by simpa using h1) h2;refine tU (fun x hx=>?_) h;rcases tS.1 hx with rfl|hx;(·exact hpq);·exact Ko _ _ _ hpq (hr.1 x hx)
theorem Bk(l:FL)(k:List UInt8)(h:YM l):YM (kR l k):=sR _ h
theorem WU(l:FL)(p:Tn):(JB l p).length<=l.length+1:=by
 induction l with|nil=>simp[JB]|cons q r ih=>rw[JB];by_cases h1:YW q.1 p.1=O;(·rw[if_pos h1];simp;omega);·rw[if_neg h1];by_cases h2:q.1=p.1;(·rw[if_pos h2];simp);·rw[if_neg h2];simp
theorem N7(l:FL)(k:List UInt8):(kR l k).length<=l.length:=sX _ _
def Qt(n:Nat):Int:=if 1<=n∧n<=8then 0 else 1
theorem Zy(n:Nat):Qt n=0↔1<=n∧n<=8:=by
 unfold Qt;by_cases h:1<=n∧n<=8;·rw[if_pos h];exact⟨fun _=>h,fun _=>rfl⟩
 ·rw[if_neg h];constructor;(·intro h2;cases h2);·intro h2;exact absurd h2 h
def XG(t:Tn):Int:=if Qt t.1.length=0then(if t.2.length=0then 4 else QC t.2)else Qt t.1.length
theorem Pa(t:Tn):XG t=0↔(1<=t.1.length∧t.1.length<=8)∧t.2≠[]∧ZA t.2:=by
 unfold XG;by_cases h:Qt t.1.length=0;·rw[if_pos h];by_cases h2:t.2.length=0;(·rw[if_pos h2];constructor;(·intro h3;cases h3);·intro h3;exact absurd (tD h2) h3.2.1);·rw[if_neg h2,Y0];exact⟨fun h3=>⟨(Zy _).1 h,fun e=>h2 (by rw[e];rfl),h3⟩,fun h3=>h3.2.2⟩
 ·rw[if_neg h];constructor;(·intro h2;exact absurd h2 h);·intro h2;exact absurd ((Zy _).2 h2.1) h
def Ky(l:FL)(i:Nat):Int:=if XG (l.getD i ([],[]))=0then(if 0<i∧YW (l.getD (i-1) ([],[])).1 (l.getD i ([],[])).1=V then 3 else 0)else XG (l.getD i ([],[]))
def VI(l:FL):Nat->Nat->Int|0,_=>0|n+1,i=>if Ky l i=0then VI l n (i+1)else Ky l i
def Q8(l:FL):Int:=if 8<l.length then 1 else VI l l.length 0
theorem jS(l:FL)(n i:Nat)(hi:i<=n)(h:∀j,j<i->Ky l j=0):VI l n 0=VI l (n-i) i:=by
 induction i with|zero=>rfl|succ i ih=>rw[ih (by omega) (fun j hj=>h j (by omega)),show n-i=(n-(i+1))+1by omega,VI,if_pos (h i (by omega))]
theorem Ed(l:FL)(i:Nat)(hi:i<l.length)(hl:l.length<=8)(h:∀j,j<i->Ky l j=0)(hf:Ky l i≠0):Q8 l=Ky l i:=by
 rw[Q8,if_neg (by omega),jS l _ i (by omega) h,show l.length-i=(l.length-(i+1))+1by omega,VI,if_neg hf]
theorem uT(l:FL)(hl:l.length<=8)(h:∀j,j<l.length->Ky l j=0):Q8 l=0:=by
 rw[Q8,if_neg (by omega),jS l _ l.length (sA _) h,oG,VI]
theorem vV(l:FL)(hl:8<l.length):Q8 l=1:=by
 rw[Q8,if_pos hl]
theorem vS(l:FL):∀(n i:Nat),VI l n i=0->∀j,i<=j->j<i+n->Ky l j=0|0,i,_,j,h1,h2=>by omega|n+1,i,h,j,h1,h2=>by rw[VI]at h;by_cases e:Ky l i=0;(·rw[if_pos e]at h;by_cases hj:j=i;(·subst hj;exact e);·exact vS l n (i+1) h j (by omega) (by omega));·rw[if_neg e]at h;exact absurd h e
theorem EY(l:FL)(i:Nat):Ky l i=0↔XG (l.getD i ([],[]))=0∧(0<i->YW (l.getD (i-1) ([],[])).1 (l.getD i ([],[])).1=O):=by
 unfold Ky;by_cases h:XG (l.getD i ([],[]))=0;·rw[if_pos h];by_cases h2:0<i∧YW (l.getD (i-1) ([],[])).1 (l.getD i ([],[])).1=V;(·rw[if_pos h2];constructor;(·intro h;cases h);·intro h3;have:=h3.2 h2.1;rw[h2.2]at this;cases this);·rw[if_neg h2];refine⟨fun _=>⟨h,fun hi=>?_⟩,fun _=>rfl⟩;cases hk:YW (l.getD (i-1) ([],[])).1 (l.getD i ([],[])).1with|true=>rfl|false=>exact absurd ⟨hi,hk⟩ h2
 ·rw[if_neg h];constructor;(·intro h2;exact absurd h2 h);·intro h2;exact absurd h2.1 h
theorem qD:∀l:FL,(∀i,0<i->i<l.length->YW (l.getD (i-1) ([],[])).1 (l.getD i ([],[])).1=O)->YM l|[],_=>sZ|[_],_=>sQ _ _|p::q::r,h=>by(have ih:YM (q::r):=qD (q::r) fun i h0 hi=>by have:=h (i+1) (by omega) (by simp at hi⊢;omega);rw[show i+1-1=(i-1)+1by omega]at this;simpa using this);(have h01:YW p.1 q.1=O:=by have:=h 1 (by omega) (by simp);simpa using this);refine tU (fun x hx=>?_) ih;rcases tS.1 hx with rfl|hx;(·exact h01);·exact Ko _ _ _ h01 ((rF.1 ih).1 x hx)
theorem zB(l:FL)(h:YM l)(i j:Nat)(hij:i<j)(hj:j<l.length):YW (l.getD i ([],[])).1 (l.getD j ([],[])).1=O:=by
 have:=pC.1 h i j (by omega) hj hij;simpa[hj,show i<l.length by omega]using this
structure Xq(l:FL):Prop where room:l.length<=8tens:∀t∈l,(1<=t.1.length∧t.1.length<=8)∧t.2≠[]∧ZA t.2rises:YM l
theorem Yc(l:FL):Q8 l=0↔Xq l:=by
 constructor;·intro h;(have hl:l.length<=8:=by by_cases hl:8<l.length;(·rw[vV l hl]at h;cases h);·omega);rw[Q8,if_neg (by omega)]at h;have ha:=fun j(hj:j<l.length)=>(EY l j).1 (vS l l.length 0 h j (by omega) (by omega));refine⟨hl,fun p hp=>?_,qD l fun i h0 hi=>(ha i hi).2 h0⟩;obtain⟨i,hi,rfl⟩:=L.1 hp;have:=(Pa _).1 (ha i hi).1;simpa[hi]using this
 ·intro h;refine uT l h.room fun j hj=>(EY l j).2 ⟨(Pa _).2 ?_,fun h0=>zB l h.rises _ _ (by omega) hj⟩;have:=h.tens l[j] (sF hj);simpa[hj]using this
theorem VU:Xq []:=⟨by
 simp,by
 simp,sZ⟩
def Jr(l:FL)(n:List UInt8):PL:=(xL l n).getD []
theorem gU(n:List UInt8):Jr [] n=[]:=rfl
theorem Ur{l:FL}(h:Xq l)(n:List UInt8):ZA (Jr l n):=by
 unfold Jr xL;cases hf:l.find? (fun p=>p.1==n)with|none=>exact bC|some t=>exact(h.tens t (List.mem_of_find?_eq_some hf)).2.2
def QE(w:Ze):Int:=if Qt w.name.length=0then(if w.gone=O then(if Qq w.key.length=0then(if 0<w.value.length then 4 else 0)else Qq w.key.length)else QV (w.key,w.value))else Qt w.name.length
def YH(l:FL)(w:Ze):PL:=if w.gone=O then kK (Jr l w.name) w.key else Km (Jr l w.name) (w.key,w.value)
def qI(l:FL)(w:Ze):Int:=if w.gone=O then Xb (Jr l w.name) w.key else Ku (Jr l w.name) (w.key,w.value)
def Zr(l:FL)(w:Ze):FL:=if(YH l w).length=0then kR l w.name else JB l (w.name,YH l w)
def YK(l:FL)(w:Ze):Int:=if qI l w=0then(if 8<(Zr l w).length then 11 else 0)else qI l w
def Xd:FL->List Ze->Int|_,[]=>0|l,w::ws=>if QE w=0then(if YK l w=0then Xd (Zr l w) ws else YK l w)else QE w
def JC:FL->List Ze->FL|l,[]=>l|l,w::ws=>JC (Zr l w) ws
def Q4(l:FL)(ws:List Ze):Int:=if Q8 l=0then(if 10<ws.length then 1 else Xd l ws)else Q8 l
def Xy(l:FL)(ws:List Ze):FL:=if Q4 l ws=0then JC l ws else[]
theorem XO(w:Ze):QE w=0↔(1<=w.name.length∧w.name.length<=8)∧(1<=w.key.length∧w.key.length<=16)∧(if w.gone=O then w.value=[]else w.value.length<=32):=by
 unfold QE;by_cases hn:Qt w.name.length=0;·rw[if_pos hn];have hn':=(Zy _).1 hn;by_cases hg:w.gone=O;(·rw[if_pos hg,if_pos hg];by_cases hk:Qq w.key.length=0;(·rw[if_pos hk];have hk':=(Zu _).1 hk;by_cases hv:0<w.value.length;(·rw[if_pos hv];constructor;(·intro h;cases h);·intro h;rw[h.2.2]at hv;simp at hv);·rw[if_neg hv];exact⟨fun _=>⟨hn',hk',tD (by omega)⟩,fun _=>rfl⟩);·rw[if_neg hk];constructor;(·intro h;exact absurd h hk);·intro h;exact absurd ((Zu _).2 h.2.1) hk);·rw[if_neg hg,if_neg hg,JM];exact⟨fun h=>⟨hn',h.1,h.2⟩,fun h=>⟨h.2.1,h.2.2⟩⟩
 ·rw[if_neg hn];constructor;(·intro h;exact absurd h hn);·intro h;exact absurd ((Zy _).2 h.1) hn
theorem IW{l:FL}(h:Xq l){w:Ze}(hw:QE w=0)(he:qI l w=0):ZA (YH l w):=by
 obtain⟨_,hk,hv⟩:=(XO w).1 hw;have hT:=Ur h w.name;unfold YH;unfold qI at he;by_cases hg:w.gone=O;·rw[if_pos hg];exact⟨rC (Lo _ _) hT.room,fun p hp=>hT.pairs p (rY.1 hp).1,NW _ _ hT.rises⟩
 ·rw[if_neg hg]at he hv⊢;(have h60:¬60<(Km (Jr l w.name) (w.key,w.value)).length:=by intro h60;unfold Ku at he;by_cases h0:Gb (Jr l w.name) (w.key,w.value)=0;(·rw[if_pos h0,if_pos h60]at he;cases he);·rw[if_neg h0]at he;exact h0 he);refine⟨by omega,fun q hq=>?_,Po _ _ hT.rises⟩;rcases MI _ _ q hq with rfl|hq;(·exact⟨hk,hv⟩);·exact hT.pairs q hq
theorem Es{l:FL}(h:YM l)(w:Ze):YM (Zr l w):=by
 unfold Zr;by_cases hn:(YH l w).length=0;·rw[if_pos hn];exact Bk _ _ h
 ·rw[if_neg hn];exact Dz _ _ h
theorem yO{l:FL}(h:Xq l){w:Ze}(hw:QE w=0)(he:YK l w=0):Xq (Zr l w):=by
 have hE:qI l w=0:=by by_cases h0:qI l w=0;(·exact h0);·unfold YK at he;rw[if_neg h0]at he;exact absurd he h0
 have hl:(Zr l w).length<=8:=by unfold YK at he;rw[if_pos hE]at he;by_cases h8:8<(Zr l w).length;(·rw[if_pos h8]at he;cases he);·omega
 obtain⟨hn,_,_⟩:=(XO w).1 hw;refine⟨hl,fun t ht=>?_,Es h.rises w⟩;unfold Zr at ht;by_cases h0:(YH l w).length=0;·rw[if_pos h0]at ht;exact h.tens t (rY.1 ht).1
 ·rw[if_neg h0]at ht;rcases Nb _ _ t ht with rfl|ht;(·exact⟨hn,fun e=>h0 (by rw[show YH l w=[]from e];rfl),IW h hw hE⟩);·exact h.tens t ht
structure Rd where
  name : List UInt8
  key : List UInt8
  wide : Bool
  last : List UInt8
def Zf:Rd:=⟨[],[],V,[]⟩
def XH(r:Rd):Int:=if Qt r.name.length=0then(if Qq r.key.length=0then(if r.wide=O then Qq r.last.length else(if 0<r.last.length then 4 else 0))else Qq r.key.length)else Qt r.name.length
theorem EX(r:Rd):XH r=0↔(1<=r.name.length∧r.name.length<=8)∧(1<=r.key.length∧r.key.length<=16)∧(if r.wide=O then 1<=r.last.length∧r.last.length<=16 else r.last=[]):=by
 unfold XH;by_cases hn:Qt r.name.length=0;·rw[if_pos hn];have hn':=(Zy _).1 hn;by_cases hk:Qq r.key.length=0;(·rw[if_pos hk];have hk':=(Zu _).1 hk;by_cases hw:r.wide=O;(·rw[if_pos hw,if_pos hw,Zu];exact⟨fun h=>⟨hn',hk',h⟩,fun h=>h.2.2⟩);·rw[if_neg hw,if_neg hw];by_cases hl:0<r.last.length;(·rw[if_pos hl];exact⟨fun h=>by omega,fun h=>by rw[h.2.2]at hl;simp at hl⟩);·rw[if_neg hl];exact⟨fun _=>⟨hn',hk',tD (by omega)⟩,fun _=>rfl⟩);·rw[if_neg hk];exact⟨fun h=>absurd h hk,fun h=>absurd ((Zu _).2 h.2.1) hk⟩
 ·rw[if_neg hn];exact⟨fun h=>absurd h hn,fun h=>absurd ((Zy _).2 h.1) hn⟩
def Xa(w:I)(v:N)(p:Ze):Prop:=∃vn vk vv,v=pN #[vn,vk,pO p.gone,vv]∧Qe w vn p.name∧Qe w vk p.key∧Qe w vv p.value
theorem Xa.grown{w w':I}{v:N}{p:Ze}(h:Xa w v p)(hg:J w w' H):Xa w' v p:=by
 obtain⟨vn,vk,vv,rfl,h1,h2,h3⟩:=h;exact⟨vn,vk,vv,rfl,h1.grown hg,h2.grown hg,h3.grown hg⟩
theorem Xa.aggW{w:I}{v:N}{p:Ze}(h:Xa w v p):∃na nc ka kc va vc,v=pN #[tH na p.name.length nc,tH ka p.key.length kc,pO p.gone,tH va p.value.length vc]:=by
 obtain⟨vn,vk,vv,rfl,h1,h2,h3⟩:=h;obtain⟨na,nc,rfl⟩:=h1.shape;obtain⟨ka,kc,rfl⟩:=h2.shape;obtain⟨va,vc,rfl⟩:=h3.shape;exact⟨na,nc,ka,kc,va,vc,rfl⟩
def vH(w:I)(b o:Nat)(p:Ze):Prop:=∃vn vk vv,w.cell? ⟨b,o,H⟩=F vn∧w.cell? ⟨b,o+1,H⟩=F vk∧w.cell? ⟨b,o+2,H⟩=F (pO p.gone)∧w.cell? ⟨b,o+3,H⟩=F vv∧Qe w vn p.name∧Qe w vk p.key∧Qe w vv p.value
theorem vH.grown{w w':I}{b o:Nat}{p:Ze}(h:vH w b o p)(hg:J w w' H):vH w' b o p:=by
 obtain⟨vn,vk,vv,c1,c2,c3,c4,h1,h2,h3⟩:=h;exact⟨vn,vk,vv,hg.cell c1 (by simp),hg.cell c2 (by simp),hg.cell c3 (by simp),hg.cell c4 (by simp),h1.grown hg,h2.grown hg,h3.grown hg⟩
def QQ(w:I)(v:N)(l:List Ze):Prop:=∃a cap,v=tH a l.length cap∧l.length<=cap∧((l=[]∧(a=H->cap=0))∨∃b o,a=F ⟨b,o,H⟩∧∀i,i<l.length->vH w b (o+i*4) (l.getD i Qs))
theorem QQ.shape{w:I}{v:N}{l:List Ze}(h:QQ w v l):∃a cap,v=tH a l.length cap:=by
 obtain⟨a,cap,rfl,_⟩:=h;exact⟨a,cap,rfl⟩
theorem QQ.grown{w w':I}{v:N}{l:List Ze}(h:QQ w v l)(hg:J w w' H):QQ w' v l:=by
 obtain⟨a,cap,rfl,hc,h⟩:=h;refine⟨a,cap,rfl,hc,?_⟩;rcases h with h|⟨b,o,rfl,h⟩;·exact .inl h
 ·exact .inr ⟨b,o,rfl,fun i hi=>(h i hi).grown hg⟩
theorem QQ.at{w:I}{a:Option pD}{n cap:Nat}{l:List Ze}(h:QQ w (tH a n cap) l)(i:Nat)(hi:i<l.length):∃b o,a=F ⟨b,o,H⟩∧vH w b (o+i*4) (l.getD i Qs):=by
 obtain⟨a',cap',e,hc,h⟩:=h;simp only[rB]at e;obtain⟨rfl,rfl,rfl⟩:=e;rcases h with⟨rfl,_⟩|⟨b,o,rfl,h⟩;·simp at hi
 ·exact⟨b,o,rfl,h i hi⟩
structure uJ (l : List Ze) : Prop where
  many : l.length * 80 <= 140737488355328
  each : ∀ i, i < l.length -> Y1 (l.getD i Qs)
theorem uJ.len{l:List Ze}(h:uJ l):l.length<=140737488355328:=by
 have:=h.many;omega
structure XI where
  turn : Int
  writes : List Ze
def Zk:XI:=⟨0,[]⟩
def Aj:Nat->List Ze->Int|_,[]=>0|i,w::ws=>if(if 10<=i then(1:Int)else QE w)=0then Aj (i+1) ws else(if 10<=i then(1:Int)else QE w)
def Za(c:XI):Int:=if 1<=c.turn∧c.turn<=1048576then(if c.writes.length=0then 1 else Aj 0 c.writes)else 2
theorem LQ:∀(ws:List Ze)(i:Nat),Aj i ws=0↔(ws=[]∨i+ws.length<=10)∧∀w∈ws,QE w=0|[],i=>by simp[Aj]|w::ws,i=>by have ih:=LQ ws (i+1);rw[Aj];by_cases h10:10<=i;(·rw[if_pos h10,if_neg (by omega)];constructor;(·intro h;omega);·rintro⟨h|h,_⟩;(·cases h);·simp at h;omega);·rw[if_neg h10];by_cases hw:QE w=0;(·rw[if_pos hw,ih];constructor;(·rintro⟨h1,h2⟩;refine⟨.inr ?_,?_⟩;(·rcases h1 with rfl|h1;(·simp;omega);·simp;omega);·intro x hx;rcases tS.1 hx with rfl|hx;(·exact hw);·exact h2 x hx);·rintro⟨h1,h2⟩;refine⟨.inr ?_,fun x hx=>h2 x (tY _ hx)⟩;rcases h1 with h1|h1;(·cases h1);·simp at h1;omega);·rw[if_neg hw];constructor;(·intro h;exact absurd h hw);·rintro⟨_,h2⟩;exact absurd (h2 w (rT ..)) hw
theorem K6(c:XI):Za c=0↔(1<=c.turn∧c.turn<=1048576)∧(1<=c.writes.length∧c.writes.length<=10)∧∀w∈c.writes,QE w=0:=by
 unfold Za;by_cases h1:1<=c.turn∧c.turn<=1048576;·rw[if_pos h1];by_cases h2:c.writes.length=0;(·rw[if_pos h2];constructor;(·intro h;omega);·rintro⟨_,h,_⟩;omega);·rw[if_neg h2,LQ];constructor;(·rintro⟨h3|h3,h4⟩;(·rw[h3]at h2;simp at h2);·exact⟨h1,⟨by omega,by omega⟩,h4⟩);·rintro⟨_,h3,h4⟩;exact⟨.inr (by omega),h4⟩
 ·rw[if_neg h1];constructor;(·intro h;omega);·rintro⟨h,_⟩;exact absurd h h1
theorem dA(ws:List Ze)(i:Nat)(h:i<ws.length):Aj i (ws.drop i)=if(if 10<=i then(1:Int)else QE (ws.getD i Qs))=0then Aj (i+1) (ws.drop (i+1))else(if 10<=i then(1:Int)else QE (ws.getD i Qs)):=by
 rw[sD h,Aj,show ws[i]=ws.getD i Qs by simp[h]]
theorem eM(ws:List Ze):Aj ws.length (ws.drop ws.length)=0:=by
 rw[List.drop_length,Aj]
def XP(p:List UInt8):List UInt8:=tC p.length::p
theorem qP(p:List UInt8):(XP p).length=p.length+1:=rfl
def GG(w:Ze):List UInt8:=if w.gone=O then[255]else XP w.value
def Yk(w:Ze):List UInt8:=XP w.name++XP w.key++GG w
def Vh(t n:Nat):List UInt8:=[tC (t/65536),tC (t/256%256),tC (t%256),tC n]
def Zi(c:XI):List UInt8:=Vh c.turn.toNat c.writes.length++c.writes.flatMap Yk
def Zt:List UInt8->Option (List UInt8×List UInt8)|[]=>H|x::r=>if x.toNat<=r.length then F (r.take x.toNat,r.drop x.toNat)else H
def uZ(n k r:List UInt8):Option (Ze×List UInt8):=if r.head?=F 255then F (⟨n,k,[],O⟩,r.tail)else match Zt r with|F (v,r2)=>F (⟨n,k,v,V⟩,r2)|none=>H
def M6(n r:List UInt8):Option (Ze×List UInt8):=match Zt r with|F (k,r2)=>uZ n k r2|none=>H
def Jl(r:List UInt8):Option (Ze×List UInt8):=match Zt r with|F (n,r2)=>M6 n r2|none=>H
def ZS:Nat->List UInt8->Option (List Ze×List UInt8)|0,r=>F ([],r)|n+1,r=>match Jl r with|F (w,r1)=>(match ZS n r1 with|F (ws,r2)=>F (w::ws,r2)|none=>H)|none=>H
theorem Cc{p:List UInt8}(h:p.length<256):(tC p.length).toNat=p.length:=by
 simp;omega
theorem VA(p r:List UInt8)(h:p.length<256):Zt (XP p++r)=F (p,r):=by
 show Zt (tC p.length::(p++r))=_;rw[Zt,Cc h,if_pos (by simp),rM,rN]<;>rfl
theorem Gx{r p r2:List UInt8}(h:Zt r=F (p,r2)):r=XP p++r2:=by
 cases r with|nil=>cases h|cons x r=>rw[Zt]at h;by_cases hx:x.toNat<=r.length;(·rw[if_pos hx]at h;simp only[tP,sC]at h;obtain⟨rfl,rfl⟩:=h;(have hl:(r.take x.toNat).length=x.toNat:=by simp;omega);show x::r=tC (r.take x.toNat).length::(r.take x.toNat++r.drop x.toNat);rw[hl,tE];simp);·rw[if_neg hx]at h;cases h
theorem AA{r p r2:List UInt8}(h:Zt r=F (p,r2))(x:List UInt8):Zt (r++x)=F (p,r2++x):=by
 cases r with|nil=>cases h|cons y r=>rw[Zt]at h;by_cases hy:y.toNat<=r.length;(·rw[if_pos hy]at h;simp only[tP,sC]at h;obtain⟨rfl,rfl⟩:=h;show Zt (y::(r++x))=_;rw[Zt,if_pos (by simp;omega),r7 hy,r8 hy]);·rw[if_neg hy]at h;cases h
theorem AX{w:Ze}(hw:QE w=0)(r:List UInt8):Jl (Yk w++r)=F (w,r):=by
 obtain⟨h1,h2,h3⟩:=(XO w).1 hw;unfold Jl Yk;rw[tB,tB,VA _ _ (by omega)];show M6 w.name (XP w.key++(GG w++r))=_;unfold M6;rw[VA _ _ (by omega)];show uZ w.name w.key (GG w++r)=_;unfold uZ GG;by_cases hg:w.gone=O;·rw[if_pos hg]at h3⊢;rw[if_pos (by rfl)];obtain⟨n,k,v,g⟩:=w;simp only at hg h3;subst hg h3;rfl
 ·rw[if_neg hg]at h3⊢;rw[if_neg,VA _ _ (by omega)];(·obtain⟨n,k,v,g⟩:=w;simp only[Bool.not_eq_true]at hg;subst hg;rfl);·show¬(F (tC w.value.length)=F 255);intro e;have:=congrArg UInt8.toNat (pK e);rw[Cc (by omega)]at this;have h255:(255:UInt8).toNat=255:=rfl;omega
theorem Fy:∀(ws:List Ze)(_:∀w∈ws,QE w=0)(r:List UInt8),ZS ws.length (ws.flatMap Yk++r)=F (ws,r)|[],_,r=>rfl|w::ws,h,r=>by show ZS (ws.length+1) ((w::ws).flatMap Yk++r)=_;rw[ZS,rH,tB,AX (h w (rT ..))];show(match ZS ws.length (ws.flatMap Yk++r)with|F (ws',r2)=>F (w::ws',r2)|none=>H)=_;rw[Fy ws (fun x hx=>h x (tY _ hx)) r]
theorem DY{r r2:List UInt8}{w:Ze}(h:Jl r=F (w,r2)):r=Yk w++r2:=by
 unfold Jl at h;cases h1:Zt r with|none=>rw[h1]at h;cases h|some q=>obtain⟨n,ra⟩:=q;rw[h1]at h;have h:M6 n ra=F (w,r2):=h;unfold M6 at h;cases h2:Zt ra with|none=>rw[h2]at h;cases h|some q=>obtain⟨k,rb⟩:=q;rw[h2]at h;have h:uZ n k rb=F (w,r2):=h;rw[Gx h1,Gx h2];unfold uZ at h;by_cases hg:rb.head?=F 255;(·rw[if_pos hg]at h;simp only[tP,sC]at h;obtain⟨rfl,rfl⟩:=h;cases rb with|nil=>cases hg|cons x rb=>obtain rfl:x=255:=pK hg;show XP n++(XP k++255::rb)=XP n++XP k++[255]++rb;simp[tB]);·rw[if_neg hg]at h;cases h3:Zt rb with|none=>rw[h3]at h;cases h|some q=>obtain⟨v,rc⟩:=q;rw[h3]at h;simp only[tP,sC]at h;obtain⟨rfl,rfl⟩:=h;rw[Gx h3];show XP n++(XP k++(XP v++rc))=XP n++XP k++XP v++rc;simp[tB]
theorem Pf:∀(n:Nat){r r2:List UInt8}{ws:List Ze},ZS n r=F (ws,r2)->r=ws.flatMap Yk++r2∧ws.length=n|0,r,r2,ws,h=>by rw[ZS]at h;simp only[tP,sC]at h;obtain⟨rfl,rfl⟩:=h;exact⟨rfl,rfl⟩|n+1,r,r2,ws,h=>by rw[ZS]at h;cases h1:Jl r with|none=>rw[h1]at h;cases h|some q=>obtain⟨w,ra⟩:=q;rw[h1]at h;have h:(match ZS n ra with|F (ws,r2)=>F (w::ws,r2)|none=>H)=F (ws,r2):=h;cases h2:ZS n ra with|none=>rw[h2]at h;cases h|some q=>obtain⟨ws',rb⟩:=q;rw[h2]at h;simp only[tP,sC]at h;obtain⟨rfl,rfl⟩:=h;obtain⟨e1,e2⟩:=Pf n h2;exact⟨by rw[DY h1,e1,rH,tB],by simp[e2]⟩
theorem xJ : ∀ (n : Nat) (r : List UInt8), ZS (n + 1) r = match ZS n r with | F (ws, r1) => (match Jl r1 with | F (w, r2) => F (ws ++ [w], r2) | none => H) | none => H
  | 0, r => by
    rw [ZS]
    cases h : Jl r with
    | none => simp [ZS, h]
    | some q => obtain ⟨w, ra⟩ := q; simp [ZS, h]
  | n + 1, r => by
    rw [ZS]
    cases h : Jl r with
    | none =>
      show H = _
      rw [ZS, h]
    | some q =>
      obtain ⟨w, ra⟩ := q
      show (match ZS (n + 1) ra with | F (ws, r2) => F (w :: ws, r2) | none => H) = _
      rw [xJ n ra, show ZS (n + 1) r = (match ZS n ra with | F (ws, r2) => F (w :: ws, r2) | none => H) by rw [ZS, h]]
      cases h2 : ZS n ra with
      | none => rfl
      | some q =>
        obtain ⟨ws, rb⟩ := q
        show (match (match Jl rb with | F (w, r2) => F (ws ++ [w], r2) | none => H) with | F (ws, r2) => F (w :: ws, r2) | none => H) = (match Jl rb with | F (w', r2) => F (w :: ws ++ [w'], r2) | none => H)
        cases Jl rb with
        | none => rfl
        | some q => rfl
def Gk(b:List UInt8):Nat:=65536*(b.getD 0 0).toNat+256*(b.getD 1 0).toNat+(b.getD 2 0).toNat
def G8(b:List UInt8):Option (List Ze×List UInt8):=ZS (b.getD 3 0).toNat (b.drop 4)
def YU(b:List UInt8):Int:=if 4000<b.length then 1 else if b.length<4then 14 else match G8 b with|none=>14|F (ws,r)=>if r.length=0then Za ⟨(Gk b:Int),ws⟩else 4
def JP(b:List UInt8):XI:=if YU b=0then(match G8 b with|F (ws,_)=>⟨(Gk b:Int),ws⟩|none=>Zk)else Zk
theorem P6(t n:Nat):(Vh t n).length=4:=rfl
theorem IC(t n:Nat)(x:List UInt8)(ht:t<=1048576):Gk (Vh t n++x)=t:=by
 show 65536*(tC (t/65536)).toNat+256*(tC (t/256%256)).toNat+(tC (t%256)).toNat=t;simp only[pS];omega
theorem Wf(t n:Nat)(x:List UInt8)(hn:n<=10):((Vh t n++x).getD 3 0).toNat=n:=by
 show(tC n).toNat=n;simp;omega
theorem Hi(t n:Nat)(x:List UInt8):(Vh t n++x).drop 4=x:=rfl
theorem Sx{w:Ze}(hw:QE w=0):(Yk w).length=3+w.name.length+w.key.length+w.value.length∧(Yk w).length<=59:=by
 obtain⟨h1,h2,h3⟩:=(XO w).1 hw;unfold Yk GG;by_cases hg:w.gone=O;·rw[if_pos hg]at h3⊢;rw[h3];simp only[T,qP,rX,List.length_nil];omega
 ·rw[if_neg hg]at h3⊢;simp only[T,qP];omega
def Lk(ws:List Ze):Nat:=(ws.map fun w=>3+w.name.length+w.key.length+w.value.length).sum
theorem xT:∀(ws:List Ze)(_:∀w∈ws,QE w=0),(ws.flatMap Yk).length=Lk ws∧(ws.flatMap Yk).length<=59*ws.length|[],_=>by simp[Lk]|w::ws,h=>by obtain⟨i1,i2⟩:=xT ws (fun x hx=>h x (tY _ hx));obtain⟨j1,j2⟩:=Sx (h w (rT ..));rw[rH,T];unfold Lk at i1⊢;rw[oE,List.sum_cons,rX];omega
theorem Vg{c:XI}(h:Za c=0):(Zi c).length=4+Lk c.writes∧(Zi c).length<=594:=by
 obtain⟨_,h2,h3⟩:=(K6 c).1 h;obtain⟨i1,i2⟩:=xT c.writes h3;unfold Zi;rw[T,P6];omega
theorem D0{c:XI}(h:Za c=0)(x:List UInt8):G8 (Zi c++x)=F (c.writes,x)∧Gk (Zi c++x)=c.turn.toNat:=by
 obtain⟨h1,h2,h3⟩:=(K6 c).1 h;unfold G8 Zi;rw[tB,Wf _ _ _ h2.2,Hi,IC _ _ _ (by omega)];exact⟨Fy _ h3 _,rfl⟩
theorem DA{c:XI}(h:Za c=0):YU (Zi c)=0∧JP (Zi c)=c:=by
 obtain⟨h1,h2,h3⟩:=(K6 c).1 h;obtain⟨s1,s2⟩:=Vg h;obtain⟨b1,b2⟩:=D0 h [];rw[tV]at b1 b2;have hc:(⟨(Gk (Zi c):Int),c.writes⟩:XI)=c:=by rw[b2,Int.toNat_of_nonneg (by omega)]
 have hd:YU (Zi c)=0:=by rw[YU,if_neg (by omega),if_neg (by omega),b1];show(if([]:List UInt8).length=0then Za ⟨(Gk (Zi c):Int),c.writes⟩else 4)=0;rw[if_pos (show([]:List UInt8).length=0from rfl),hc,h]
 refine⟨hd,?_⟩;rw[JP,if_pos hd,b1];exact hc
theorem Mz{b:List UInt8}(h:YU b=0):Za (JP b)=0∧Zi (JP b)=b:=by
 have hC:JP b=(match G8 b with|F (ws,_)=>⟨(Gk b:Int),ws⟩|none=>Zk):=by rw[JP,if_pos h]
 rw[YU]at h;by_cases h1:4000<b.length;·rw[if_pos h1]at h;omega
 rw[if_neg h1]at h;by_cases h2:b.length<4;·rw[if_pos h2]at h;omega
 rw[if_neg h2]at h;cases hb:G8 b with|none=>rw[hb]at h;simp at h|some q=>obtain⟨ws,r⟩:=q;rw[hb]at h hC;have h:(if r.length=0then Za ⟨(Gk b:Int),ws⟩else 4)=0:=h;have hC:JP b=⟨(Gk b:Int),ws⟩:=hC;by_cases hr:r.length=0;(·rw[if_pos hr]at h;obtain rfl:r=[]:=tD hr;rw[hC];refine⟨h,?_⟩;obtain⟨k1,k2,k3⟩:=(K6 _).1 h;unfold G8 at hb;obtain⟨e1,e2⟩:=Pf _ hb;rw[tV]at e1;show Vh ((Gk b:Int)).toNat ws.length++ws.flatMap Yk=b;rw[<-e1,e2,rI];match b,h2 with|x0::x1::x2::x3::t,_=>show Vh (65536*x0.toNat+256*x1.toNat+x2.toNat) x3.toNat++t=_;have a0:=x0.toNat_lt;have a1:=x1.toNat_lt;have a2:=x2.toNat_lt;have a3:=x3.toNat_lt;unfold Vh;rw[show(65536*x0.toNat+256*x1.toNat+x2.toNat)/65536=x0.toNat by omega,show(65536*x0.toNat+256*x1.toNat+x2.toNat)/256%256=x1.toNat by omega,show(65536*x0.toNat+256*x1.toNat+x2.toNat)%256=x2.toNat by omega];simp);·rw[if_neg hr]at h;omega
def FW(b:List UInt8):List UInt8:=tC (b.length/256)::tC (b.length%256)::b
theorem xC(b:List UInt8):(FW b).length=b.length+2:=rfl
def ZH(D:List UInt8->List UInt8)(c:XI):List UInt8:=FW (Zi c)++D (FW (Zi c))
def Zh(r:List UInt8):Nat:=256*(r.getD 0 0).toNat+(r.getD 1 0).toNat
def XK(D:List UInt8->List UInt8)(r:List UInt8):Option (XI×List UInt8):=if r.length<6then H else if r.length<Zh r+6∨4000<Zh r+2then H else if D (r.take (Zh r+2))=(r.drop (Zh r+2)).take 4then(if YU ((r.drop 2).take (Zh r))=0then F (JP ((r.drop 2).take (Zh r)),r.drop (Zh r+6))else H)else H
theorem Ar{D:List UInt8->List UInt8}{r r2:List UInt8}{c:XI}(h:XK D r=F (c,r2)):∃m,6<=m∧m<=r.length∧r2=r.drop m∧Za c=0:=by
 unfold XK at h;by_cases h1:r.length<6;·rw[if_pos h1]at h;cases h
 rw[if_neg h1]at h;by_cases h2:r.length<Zh r+6∨4000<Zh r+2;·rw[if_pos h2]at h;cases h
 rw[if_neg h2]at h;by_cases h3:D (r.take (Zh r+2))=(r.drop (Zh r+2)).take 4;·rw[if_pos h3]at h;by_cases h4:YU ((r.drop 2).take (Zh r))=0;(·rw[if_pos h4]at h;simp only[tP,sC]at h;obtain⟨rfl,rfl⟩:=h;exact⟨Zh r+6,by omega,by omega,rfl,(Mz h4).1⟩);·rw[if_neg h4]at h;cases h
 ·rw[if_neg h3]at h;cases h
theorem Nn{b:List UInt8}(h:b.length<65536)(x:List UInt8):Zh (FW b++x)=b.length:=by
 show 256*(tC (b.length/256)).toNat+(tC (b.length%256)).toNat=b.length;simp only[pS];omega
theorem PJ{D:List UInt8->List UInt8}(hD:∀x,(D x).length=4)(c:XI):(ZH D c).length=(Zi c).length+6:=by
 unfold ZH;rw[T,hD,xC]
theorem Al{D:List UInt8->List UInt8}(hD:∀x,(D x).length=4){c:XI}(h:Za c=0)(r:List UInt8):XK D (ZH D c++r)=F (c,r):=by
 obtain⟨s1,s2⟩:=Vg h;obtain⟨d1,d2⟩:=DA h;have hl:=PJ hD c;have hz:Zh (ZH D c++r)=(Zi c).length:=by unfold ZH;rw[tB];exact Nn (by omega) _
 have ht:(ZH D c++r).take ((Zi c).length+2)=FW (Zi c):=by unfold ZH;rw[tB];exact rM (xC _)
 have hd:(ZH D c++r).drop ((Zi c).length+2)=D (FW (Zi c))++r:=by unfold ZH;rw[tB];exact rN (xC _)
 have hm:((ZH D c++r).drop 2).take (Zi c).length=Zi c:=by unfold ZH;rw[tB];exact rM rfl
 have he:(ZH D c++r).drop ((Zi c).length+6)=r:=rN hl;have hlen:(ZH D c++r).length=(Zi c).length+6+r.length:=by rw[T,hl]
 unfold XK;rw[if_neg (by omega),hz,if_neg (by omega),ht,hd,hm,he,if_pos (rM (hD _)).symm,if_pos d1,d2]
theorem Lh{D:List UInt8->List UInt8}(hD:∀x,(D x).length=4){c:XI}(h:Za c=0)(k:Nat)(hk:k<(ZH D c).length):XK D ((ZH D c).take k)=H:=by
 obtain⟨s1,s2⟩:=Vg h;have hl:=PJ hD c;have hkl:((ZH D c).take k).length=k:=by simp;omega
 unfold XK;by_cases h6:k<6;·rw[if_pos (by omega)]
 ·(have hz:Zh ((ZH D c).take k)=(Zi c).length:=by(have hz:Zh (ZH D c++[])=(Zi c).length:=by unfold ZH;rw[tB];exact Nn (by omega) _);rw[tV]at hz;rw[<-hz];unfold Zh;simp only[List.getD_eq_getElem?_getD,pU];rw[if_pos (by omega),if_pos (by omega)]);rw[if_neg (by omega),hz,if_pos (by omega)]
def KU(D:List UInt8->List UInt8)(turn:Nat)(r:List UInt8):List XI×List UInt8:=match h:XK D r with|F (c,r2)=>if c.turn=(turn:Int)then(c::(KU D (turn+1) r2).1,(KU D (turn+1) r2).2)else([],r)|none=>([],r)termination_by r.length decreasing_by
 all_goals obtain⟨m,h1,h2,h3,_⟩:=Ar h;rw[h3,pY];omega
theorem On{D:List UInt8->List UInt8}{turn:Nat}{r r2:List UInt8}{c:XI}(h:XK D r=F (c,r2))(ht:c.turn=(turn:Int)):KU D turn r=(c::(KU D (turn+1) r2).1,(KU D (turn+1) r2).2):=by
 rw[KU];split;·next c' r' h'=>rw[h]at h';simp only[tP,sC]at h';obtain⟨rfl,rfl⟩:=h';rw[if_pos ht]
 ·next h'=>rw[h]at h';cases h'
theorem Il{D:List UInt8->List UInt8}{turn:Nat}{r r2:List UInt8}{c:XI}(h:XK D r=F (c,r2))(ht:c.turn≠(turn:Int)):KU D turn r=([],r):=by
 rw[KU];split;·next c' r' h'=>rw[h]at h';simp only[tP,sC]at h';obtain⟨rfl,rfl⟩:=h';rw[if_neg ht]
 ·rfl
theorem Rh{D:List UInt8->List UInt8}{turn:Nat}{r:List UInt8}(h:XK D r=H):KU D turn r=([],r):=by
 rw[KU];split;·next c' r' h'=>rw[h]at h';cases h'
 ·rfl
theorem IE(D:List UInt8->List UInt8):XK D []=H:=by
 unfold XK;rw[if_pos (by simp)]
def zD:Nat->List XI->Prop|_,[]=>True|t,c::cs=>c.turn=(t:Int)∧Za c=0∧zD (t+1) cs
theorem zD.take:∀{t:Nat}{cs:List XI}(_:zD t cs)(j:Nat),zD t (cs.take j)|_,[],_,j=>by rw[oF];trivial|_,c::cs,_,0=>trivial|t,c::cs,h,j+1=>⟨h.1,h.2.1,zD.take h.2.2 j⟩
def Q6(D:List UInt8->List UInt8)(cs:List XI):List UInt8:=cs.flatMap (ZH D)
theorem KZ(D:List UInt8->List UInt8)(c:XI)(cs:List XI):Q6 D (c::cs)=ZH D c++Q6 D cs:=rH
theorem VJ(D:List UInt8->List UInt8)(a b:List XI):Q6 D (a++b)=Q6 D a++Q6 D b:=List.flatMap_append
theorem Pz(D:List UInt8->List UInt8)(c:XI):Q6 D [c]=ZH D c:=by
 simp[Q6]
def D4(D:List UInt8->List UInt8)(r:List UInt8):Nat:=r.length-(KU D 1 r).2.length
theorem Br{D:List UInt8->List UInt8}(hD:∀x,(D x).length=4):∀{t:Nat}{cs:List XI}(_:zD t cs)(k:Nat),∃j,j<=cs.length∧KU D t ((Q6 D cs).take k)=(cs.take j,((Q6 D cs).take k).drop (Q6 D (cs.take j)).length)∧(Q6 D (cs.take j)).length<=k∧(Q6 D (cs.take j)).length<=(Q6 D cs).length∧(j<cs.length->k<(Q6 D (cs.take (j+1))).length)|t,[],_,k=>⟨0,by simp,by show KU D t (([]:List UInt8).take k)=_;rw[oF,Rh (IE D)];simp[Q6],by simp[Q6],by simp[Q6],fun h=>by simp at h⟩|t,c::cs,h,k=>by by_cases hk:k<(ZH D c).length;(·refine⟨0,by simp,?_,by simp[Q6],by simp[Q6],fun _=>?_⟩;(·rw[KZ,r7 (by omega),Rh (Lh hD h.2.1 k hk)];simp[Q6]);·show k<(Q6 D [c]).length;rw[Pz];exact hk);·obtain⟨j,h1,h2,h3,h4,h5⟩:=Br hD h.2.2 (k-(ZH D c).length);(have ht:(Q6 D (c::cs)).take k=ZH D c++(Q6 D cs).take (k-(ZH D c).length):=by rw[KZ,List.take_append,pG (by omega)]);refine⟨j+1,by simp;omega,?_,?_,?_,fun hj=>?_⟩;(·rw[ht,On (Al hD h.2.1 _) h.1,h2,sG,KZ];rw[T,<-List.drop_drop,rN rfl]);(·rw[sG,KZ,T];omega);(·rw[sG,KZ,KZ,T,T];omega);·have:=h5 (by simpa using hj);rw[sG,KZ,T];omega
theorem U9(D:List UInt8->List UInt8)(cs:List XI)(i j:Nat)(h:i<=j):(Q6 D (cs.take i)).length<=(Q6 D (cs.take j)).length:=by
 have:cs.take i=(cs.take j).take i:=by rw[List.take_take,oD h]
 rw[this];conv=>rhs;rw[<-tE i (cs.take j),VJ]
 rw[T];omega
theorem R6{D:List UInt8->List UInt8}{cs:List XI}{k j i:Nat}(hi:i<=cs.length)(hj:j<cs.length->k<(Q6 D (cs.take (j+1))).length)(hk:(Q6 D (cs.take i)).length<=k):i<=j:=by
 by_cases h:i<=j;·exact h
 ·have:=U9 D cs (j+1) i (by omega);have:=hj (by omega);omega
theorem Ni(t:PL)(p:Pr)(h:∀q∈t,(1<=q.1.length∧q.1.length<=16)∧q.2.length<=32)(hp:(1<=p.1.length∧p.1.length<=16)∧p.2.length<=32):∀q∈Km t p,(1<=q.1.length∧q.1.length<=16)∧q.2.length<=32:=by
 intro q hq;rcases MI t p q hq with rfl|hq;·exact hp
 ·exact h q hq
theorem L5:∀(t:PL)(p:Pr)(k:Nat),k<=t.length->(∀j,j<k->YW (t.getD j ([],[])).1 p.1=O)->(k<t.length->YW (t.getD k ([],[])).1 p.1=V)->Km t p=if k<t.length∧(t.getD k ([],[])).1=p.1then t.set k p else t.take k++([p]++t.drop k)|[],p,k,hk,_,_=>by(obtain rfl:k=0:=by simpa using hk);simp[Km]|q::r,p,0,_,_,h2=>by have h:=h2 (by simp);simp only[tX]at h;rw[Km,if_neg (by rw[h];simp)];by_cases e:q.1=p.1;(·rw[if_pos e,if_pos ⟨by simp,by simpa using e⟩];simp);·rw[if_neg e,if_neg (fun h=>e (by simpa using h.2))];simp|q::r,p,k+1,hk,h1,h2=>by have h:=h1 0 (by omega);simp only[tX]at h;rw[Km,if_pos h,L5 r p k (by simpa using hk) (fun j hj=>by simpa using h1 (j+1) (by omega)) (fun hk=>by simpa using h2 (by simpa using hk))];by_cases e:k<r.length∧(r.getD k ([],[])).1=p.1;(·rw[if_pos e,if_pos ⟨by simpa using e.1,by simpa using e.2⟩];simp);·rw[if_neg e,if_neg (fun h=>e ⟨by simpa using h.1,by simpa using h.2⟩)];simp
theorem dL(t:PL)(p:Pr)(h:ZA t)(hp:(1<=p.1.length∧p.1.length<=16)∧p.2.length<=32)(hl:t.length<60):Ku t p=0∧Vz t p=Km t p∧ZA (Km t p):=by
 have h0:Gb t p=0:=by rw[Gb,if_pos ((Y0 t).2 h)];exact(JM p).2 hp
 have hlen:=eU t p;have h1:Ku t p=0:=by rw[Ku,if_pos h0,if_neg (by omega)]
 exact⟨h1,by rw[Vz,if_pos h1],⟨by omega,Ni t p h.pairs hp,Po t p h.rises⟩⟩
def aL(m:Nat)(l:FL):Prop:=∀n,(Jr l n).length<=m
theorem WG:aL 0 []:=fun n=>by
 rw[gU];simp
theorem fR{l:FL}{m:Nat}(h:Xq l){w:Ze}(hw:QE w=0)(hs:aL m l)(hm:m<60):qI l w=0:=by
 obtain⟨_,hk,hv⟩:=(XO w).1 hw;have hT:=Ur h w.name;have hl:=hs w.name;unfold qI;by_cases hg:w.gone=O;·rw[if_pos hg];exact Pc hT hk
 ·rw[if_neg hg]at hv⊢;exact(dL _ _ hT ⟨hk,hv⟩ (by omega)).1
theorem Tq{l:FL}{m:Nat}(h:Xq l){w:Ze}(hw:QE w=0)(hs:aL m l)(hm:m<60):YK l w=if 8<(Zr l w).length then 11 else 0:=by
 rw[YK,if_pos (fR h hw hs hm)]
theorem DS(l:FL)(w:Ze):(Zr l w).length<=l.length+1:=by
 unfold Zr;by_cases hn:(YH l w).length=0;·rw[if_pos hn];have:=N7 l w.name;omega
 ·rw[if_neg hn];exact WU _ _
theorem vO:∀(ws:List Ze)(l:FL),Xq l->Xd l ws=0->Xq (JC l ws)|[],l,h,_=>h|w::ws,l,h,he=>by rw[Xd]at he;by_cases hw:QE w=0;(·rw[if_pos hw]at he;by_cases h2:YK l w=0;(·rw[if_pos h2]at he;exact vO ws _ (yO h hw h2) he);·rw[if_neg h2]at he;exact absurd he h2);·rw[if_neg hw]at he;exact absurd he hw
def qK(l:FL)(n:List UInt8):Int:=if Q8 l=0then Qt n.length else Q8 l
theorem zA{l:FL}{n:List UInt8}(h:qK l n=0):Xq l∧(1<=n.length∧n.length<=8):=by
 unfold qK at h;by_cases h0:Q8 l=0;·rw[if_pos h0]at h;exact⟨(Yc l).1 h0,(Zy _).1 h⟩
 ·rw[if_neg h0]at h;exact absurd h h0
def VQ(l:FL)(n k:List UInt8):Int:=if qK l n=0then Xb (Jr l n) k else qK l n
def Vl(l:FL)(n k:List UInt8):Bool:=if qK l n=0then Ev (Jr l n) k else V
def Vm(l:FL)(n k:List UInt8):List UInt8:=if qK l n=0then Ey (Jr l n) k else[]
def X8(l:FL)(n f t:List UInt8):Int:=if qK l n=0then YL (Jr l n) f t else qK l n
def Kw(l:FL)(n f t:List UInt8):PL:=if qK l n=0then K3 (Jr l n) f t else[]
structure Rq where
  kind : Int
  name : List UInt8
  key : List UInt8
  last : List UInt8
  value : List UInt8
def Gh:Rq:=⟨0,[],[],[],[]⟩
def QW(k:Int):Bool:=tI (2<=k∧k<=5)||tI (k=8)
def yW(r:Rq):Int:=if QW r.kind=O then(if Qt r.name.length=0then(if Qq r.key.length=0then(if r.kind=3then Qq r.last.length else 0)else Qq r.key.length)else Qt r.name.length)else 0
def Em(r:Rq):Int:=if QW r.kind=V∧0<r.name.length+r.key.length then 4 else if(r.kind≠3∧0<r.last.length)∨(r.kind≠4∧0<r.value.length)then 4 else 0
def Yn(r:Rq):Int:=if 1<=r.kind∧r.kind<=8then(if yW r=0then(if 32<r.value.length then 1 else Em r)else yW r)else 5
structure YS(r:Rq):Prop where kind:1<=r.kind∧r.kind<=8name:QW r.kind=O->1<=r.name.length∧r.name.length<=8key:QW r.kind=O->1<=r.key.length∧r.key.length<=16last:r.kind=3->1<=r.last.length∧r.last.length<=16value:r.value.length<=32noName:QW r.kind=V->r.name=[]noKey:QW r.kind=V->r.key=[]noLast:r.kind≠3->r.last=[]noValue:r.kind≠4->r.value=[]
theorem Fz(r:Rq):yW r=0↔(QW r.kind=O->(1<=r.name.length∧r.name.length<=8)∧(1<=r.key.length∧r.key.length<=16)∧(r.kind=3->1<=r.last.length∧r.last.length<=16)):=by
 unfold yW;by_cases h:QW r.kind=O;·rw[if_pos h];by_cases h1:Qt r.name.length=0;(·rw[if_pos h1];by_cases h2:Qq r.key.length=0;(·rw[if_pos h2];by_cases h3:r.kind=3;(·rw[if_pos h3,Zu];exact⟨fun e _=>⟨(Zy _).1 h1,(Zu _).1 h2,fun _=>e⟩,fun e=>(e h).2.2 h3⟩);·rw[if_neg h3];exact⟨fun _ _=>⟨(Zy _).1 h1,(Zu _).1 h2,fun e=>absurd e h3⟩,fun _=>rfl⟩);·rw[if_neg h2];exact⟨fun e=>absurd e h2,fun e=>(Zu _).2 (e h).2.1⟩);·rw[if_neg h1];exact⟨fun e=>absurd e h1,fun e=>(Zy _).2 (e h).1⟩
 ·rw[if_neg h];exact⟨fun _ e=>absurd e h,fun _=>rfl⟩
theorem WY{l:List UInt8}(h:¬0<l.length):l=[]:=tD (by
 omega)
theorem Sr(r:Rq):Em r=0↔(QW r.kind=V->r.name=[]∧r.key=[])∧(r.kind≠3->r.last=[])∧(r.kind≠4->r.value=[]):=by
 unfold Em;by_cases h1:QW r.kind=V∧0<r.name.length+r.key.length;·rw[if_pos h1];refine⟨fun e=>(by cases e),fun e=>?_⟩;have:=e.1 h1.1;rw[this.1,this.2]at h1;simp at h1
 ·rw[if_neg h1];by_cases h2:(r.kind≠3∧0<r.last.length)∨(r.kind≠4∧0<r.value.length);(·rw[if_pos h2];refine⟨fun e=>(by cases e),fun e=>?_⟩;rcases h2 with h2|h2;(·rw[e.2.1 h2.1]at h2;simp at h2);·rw[e.2.2 h2.1]at h2;simp at h2);·rw[if_neg h2];refine⟨fun _=>⟨fun h=>?_,fun h=>WY fun e=>h2 (.inl ⟨h,e⟩),fun h=>WY fun e=>h2 (.inr ⟨h,e⟩)⟩,fun _=>rfl⟩;have hz:¬0<r.name.length+r.key.length:=fun e=>h1 ⟨h,e⟩;exact⟨WY (by omega),WY (by omega)⟩
theorem Ym(r:Rq):Yn r=0↔YS r:=by
 unfold Yn;by_cases h0:1<=r.kind∧r.kind<=8;·rw[if_pos h0];by_cases h1:yW r=0;(·rw[if_pos h1];have hp:=(Fz r).1 h1;by_cases h2:32<r.value.length;(·rw[if_pos h2];exact⟨fun e=>(by cases e),fun e=>by have:=e.value;omega⟩);·rw[if_neg h2,Sr];refine⟨fun⟨e1,e2,e3⟩=>⟨h0,fun h=>(hp h).1,fun h=>(hp h).2.1,fun h=>(hp (by rw[h];decide)).2.2 h,by omega,fun h=>(e1 h).1,fun h=>(e1 h).2,e2,e3⟩,fun e=>⟨fun h=>⟨e.noName h,e.noKey h⟩,e.noLast,e.noValue⟩⟩);·rw[if_neg h1];refine⟨fun e=>absurd e h1,fun e=>(Fz r).2 fun h=>⟨e.name h,e.key h,e.last⟩⟩
 ·rw[if_neg h0];exact⟨fun e=>(by cases e),fun e=>absurd e.kind h0⟩
def Xo(c:Bool)(p:List UInt8):List UInt8:=if c=O then XP p else[]
def Jt(c:Bool)(r:List UInt8):Option (List UInt8×List UInt8):=if c=O then Zt r else F ([],r)
theorem yR(c:Bool)(p r:List UInt8)(h:c=O->p.length<256)(h0:c=V->p=[]):Jt c (Xo c p++r)=F (p,r):=by
 cases c with|true=>exact VA p r (h rfl)|false=>rw[h0 rfl];rfl
theorem V1{c:Bool}{r p r2:List UInt8}(h:Jt c r=F (p,r2)):r=Xo c p++r2:=by
 cases c with|true=>exact Gx h|false=>(obtain⟨rfl,rfl⟩:[]=p∧r=r2:=by simpa[Jt]using h);rfl
theorem jK{c:Bool}{r p r2:List UInt8}(h:Jt c r=F (p,r2))(x:List UInt8):Jt c (r++x)=F (p,r2++x):=by
 cases c with|true=>exact AA h x|false=>(obtain⟨rfl,rfl⟩:[]=p∧r=r2:=by simpa[Jt]using h);rfl
theorem Ij{c:Bool}{r p r2:List UInt8}(h:Jt c r=F (p,r2))(hc:c=V):p=[]:=by
 subst hc;have:[]=p∧r=r2:=by simpa[Jt]using h
 exact this.1.symm
def zU(r:Rq):List UInt8:=Xo (QW r.kind) r.name++(Xo (QW r.kind) r.key++(Xo (tI (r.kind=3)) r.last++Xo (tI (r.kind=4)) r.value))
def KN(r:Rq):List UInt8:=tC r.kind.toNat::zU r
def Vv(k:Int)(n q l r:List UInt8):Option (Rq×List UInt8):=match Jt (tI (k=4)) r with|F (v,r2)=>F (⟨k,n,q,l,v⟩,r2)|none=>H
def Vw(k:Int)(n q r:List UInt8):Option (Rq×List UInt8):=match Jt (tI (k=3)) r with|F (l,r2)=>Vv k n q l r2|none=>H
def Vu(k:Int)(n r:List UInt8):Option (Rq×List UInt8):=match Jt (QW k) r with|F (q,r2)=>Vw k n q r2|none=>H
def Yi(k:Int)(r:List UInt8):Option (Rq×List UInt8):=match Jt (QW k) r with|F (n,r2)=>Vu k n r2|none=>H
theorem Nr{r:Rq}(h:YS r)(x:List UInt8):Yi r.kind (zU r++x)=F (r,x):=by
 have e1:=yR (QW r.kind) r.name (Xo (QW r.kind) r.key++(Xo (tI (r.kind=3)) r.last++(Xo (tI (r.kind=4)) r.value++x))) (fun e=>by have:=h.name e;omega) h.noName;have e2:=yR (QW r.kind) r.key (Xo (tI (r.kind=3)) r.last++(Xo (tI (r.kind=4)) r.value++x)) (fun e=>by have:=h.key e;omega) h.noKey;have e3:=yR (tI (r.kind=3)) r.last (Xo (tI (r.kind=4)) r.value++x) (fun e=>by have:=h.last (by simpa using e);omega) (fun e=>h.noLast (by simpa using e));have e4:=yR (tI (r.kind=4)) r.value x (fun _=>by have:=h.value;omega) (fun e=>h.noValue (by simpa using e));rw[zU,tB,tB,tB,Yi,e1];show Vu _ _ _=_;rw[Vu,e2];show Vw _ _ _ _=_;rw[Vw,e3];show Vv _ _ _ _ _=_;rw[Vv,e4]
theorem kZ{k:Int}{b x:List UInt8}{r:Rq}(h:Yi k b=F (r,x)):r.kind=k∧∃r1 r2 r3,Jt (QW k) b=F (r.name,r1)∧Jt (QW k) r1=F (r.key,r2)∧Jt (tI (k=3)) r2=F (r.last,r3)∧Jt (tI (k=4)) r3=F (r.value,x):=by
 rw[Yi]at h;match h1:Jt (QW k) b with|none=>rw[h1]at h;cases h|F (n,r1)=>rw[h1]at h;replace h:Vu k n r1=F (r,x):=h;rw[Vu]at h;match h2:Jt (QW k) r1 with|none=>rw[h2]at h;cases h|F (q,r2)=>rw[h2]at h;replace h:Vw k n q r2=F (r,x):=h;rw[Vw]at h;match h3:Jt (tI (k=3)) r2 with|none=>rw[h3]at h;cases h|F (l,r3)=>rw[h3]at h;replace h:Vv k n q l r3=F (r,x):=h;rw[Vv]at h;match h4:Jt (tI (k=4)) r3 with|none=>rw[h4]at h;cases h|F (v,r4)=>rw[h4]at h;(obtain⟨rfl,rfl⟩:(⟨k,n,q,l,v⟩:Rq)=r∧r4=x:=by simpa using h);exact⟨rfl,r1,r2,r3,rfl,h2,h3,h4⟩
theorem dP{k:Int}{b r1 r2 r3 x n q l v:List UInt8}(h1:Jt (QW k) b=F (n,r1))(h2:Jt (QW k) r1=F (q,r2))(h3:Jt (tI (k=3)) r2=F (l,r3))(h4:Jt (tI (k=4)) r3=F (v,x)):Yi k b=F (⟨k,n,q,l,v⟩,x):=by
 rw[Yi,h1];show Vu _ _ _=_;rw[Vu,h2];show Vw _ _ _ _=_;rw[Vw,h3];show Vv _ _ _ _ _=_;rw[Vv,h4]
theorem TO{k:Int}{b x:List UInt8}{r:Rq}(h:Yi k b=F (r,x)):b=zU r++x∧r.kind=k:=by
 obtain⟨hk,r1,r2,r3,h1,h2,h3,h4⟩:=kZ h;refine⟨?_,hk⟩;rw[zU,hk,V1 h1,V1 h2,V1 h3,V1 h4];simp[tB]
theorem Wt{k:Int}{b y:List UInt8}{r:Rq}(h:Yi k b=F (r,y))(x:List UInt8):Yi k (b++x)=F (r,y++x):=by
 obtain⟨hk,r1,r2,r3,h1,h2,h3,h4⟩:=kZ h;have:=dP (jK h1 x) (jK h2 x) (jK h3 x) (jK h4 x);rw[this,<-hk]
def UE(b:List UInt8):Int:=((b.getD 0 0).toNat:Int)
def QK(b:List UInt8):Int:=if 4000<b.length then 1 else if b.length=0then 14 else if 1<=UE b∧UE b<=8then(match Yi (UE b) (b.drop 1)with|none=>14|F (r,x)=>if x.length=0then Yn r else 4)else 5
def Qu(b:List UInt8):Rq:=if QK b=0then(match Yi (UE b) (b.drop 1)with|F (r,_)=>r|none=>Gh)else Gh
theorem NJ{r:Rq}(h:YS r)(x:List UInt8):UE (KN r++x)=r.kind∧(KN r++x).drop 1=zU r++x:=by
 have h0:=h.kind;refine⟨?_,rfl⟩;show(((tC r.kind.toNat).toNat:Nat):Int)=r.kind;simp;omega
theorem Ud(c:Bool)(p:List UInt8):(Xo c p).length<=p.length+1:=by
 cases c with|true=>exact sA _|false=>exact Nat.zero_le _
theorem uH{r:Rq}(h:YS r):(KN r).length<=78∧1<=(KN r).length:=by
 have l1:=Ud (QW r.kind) r.name;have l2:=Ud (QW r.kind) r.key;have l3:=Ud (tI (r.kind=3)) r.last;have l4:=Ud (tI (r.kind=4)) r.value;have k1:r.name.length<=8:=by by_cases e:QW r.kind=O;(·exact(h.name e).2);·rw[h.noName (by simpa using e)];simp
 have k2:r.key.length<=16:=by by_cases e:QW r.kind=O;(·exact(h.key e).2);·rw[h.noKey (by simpa using e)];simp
 have k3:r.last.length<=16:=by by_cases e:r.kind=3;(·exact(h.last e).2);·rw[h.noLast e];simp
 have k4:=h.value;have e:(KN r).length=1+(Xo (QW r.kind) r.name).length+(Xo (QW r.kind) r.key).length+(Xo (tI (r.kind=3)) r.last).length+(Xo (tI (r.kind=4)) r.value).length:=by rw[KN,zU,rX,T,T,T];omega
 omega
theorem C9{r:Rq}(h:YS r):QK (KN r)=0∧Qu (KN r)=r:=by
 have hl:=uH h;obtain⟨e1,e2⟩:=NJ h [];rw[tV]at e1 e2;have e3:=Nr h [];have e:QK (KN r)=0:=by rw[QK,if_neg (by omega),if_neg (by omega),e1,if_pos h.kind,e2,e3];show(if([]:List UInt8).length=0then Yn r else 4)=0;rw[if_pos (by simp)];exact(Ym r).2 h
 refine⟨e,?_⟩;rw[Qu,if_pos e,e1,e2,e3]
theorem i9{r:Rq}(h:YS r)(k:Nat)(hk:k<(KN r).length):QK ((KN r).take k)=14:=by
 have hl2:=uH h;have hlen:((KN r).take k).length=k:=by rw[List.length_take];omega
 rw[QK,if_neg (by omega)];by_cases h0:k=0;·rw[if_pos (by omega)]
 ·rw[if_neg (by omega)];have hsp:(KN r).take k++(KN r).drop k=KN r:=tE _ _;(have hkd:UE ((KN r).take k)=r.kind:=by obtain⟨e1,_⟩:=NJ h [];rw[tV]at e1;rw[<-e1];match k,h0 with|k+1,_=>rfl);rw[hkd,if_pos h.kind];match hD:Yi r.kind (((KN r).take k).drop 1)with|none=>rfl|F (r',y)=>have hm:=Wt hD ((KN r).drop k);(have hd:((KN r).take k).drop 1++(KN r).drop k=zU r:=by match k,h0 with|k+1,_=>show(zU r).take k++(zU r).drop k=zU r;exact tE _ _);rw[hd]at hm;have hb:=Nr h [];rw[tV,hm]at hb;(have he:y++(KN r).drop k=[]:=by have:=congrArg (fun o=>o.map Prod.snd) hb;simpa using this);have:=congrArg List.length he;rw[T,pY]at this;simp at this;omega
theorem Yy{b:List UInt8}(h:QK b=0):Yn (Qu b)=0∧KN (Qu b)=b:=by
 have h':=h;rw[QK]at h;by_cases h1:4000<b.length;·rw[if_pos h1]at h;cases h
 ·rw[if_neg h1]at h;by_cases h2:b.length=0;(·rw[if_pos h2]at h;cases h);·rw[if_neg h2]at h;by_cases h3:1<=UE b∧UE b<=8;(·rw[if_pos h3]at h;match hD:Yi (UE b) (b.drop 1)with|none=>rw[hD]at h;cases h|F (r,x)=>rw[hD]at h;replace h:(if x.length=0then Yn r else 4)=0:=h;by_cases hx:x.length=0;(·rw[if_pos hx]at h;(have hr:Qu b=r:=by rw[Qu,if_pos h',hD]);rw[hr];refine⟨h,?_⟩;obtain⟨f1,f2⟩:=TO hD;rw[tD hx,tV]at f1;rw[KN,<-f1,f2];match b,h2 with|c::b,_=>show tC ((c.toNat:Nat):Int).toNat::b=c::b;simp);·rw[if_neg hx]at h;cases h);·rw[if_neg h3]at h;cases h
theorem jJ{b:List UInt8}(h:QK b≠0):Qu b=Gh:=by
 rw[Qu,if_neg h]
def Uv(r:Rq):Int:=if Yn r=0then(if r.kind=2∨r.kind=3then 0 else 7)else Yn r
def Zs(r:Rq):Rd:=if Uv r=0then⟨r.name,r.key,tI (r.kind=3),r.last⟩else Zf
def Jj(r:Rq):Int:=if Yn r=0then(if r.kind=4∨r.kind=5then 0 else 7)else Yn r
def Xi(r:Rq):Ze:=if Jj r=0then⟨r.name,r.key,r.value,tI (r.kind=5)⟩else Qs
theorem bE{r:Rq}(h:Uv r=0):XH (Zs r)=0:=by
 have h':=h;unfold Uv at h;by_cases h0:Yn r=0;·rw[if_pos h0]at h;have ho:=(Ym r).1 h0;by_cases h1:r.kind=2∨r.kind=3;(·(have hn:QW r.kind=O:=by rcases h1 with h1|h1<;>rw[h1]<;>decide);rw[Zs,if_pos h',EX];refine⟨ho.name hn,ho.key hn,?_⟩;show if tI (r.kind=3)=O then _ else _;by_cases h3:r.kind=3;(·rw[if_pos (by simpa using h3)];exact ho.last h3);·rw[if_neg (by simpa using h3)];exact ho.noLast h3);·rw[if_neg h1]at h;cases h
 ·rw[if_neg h0]at h;exact absurd h h0
theorem Pm{r:Rq}(h:Jj r=0):QE (Xi r)=0:=by
 have h':=h;unfold Jj at h;by_cases h0:Yn r=0;·rw[if_pos h0]at h;have ho:=(Ym r).1 h0;by_cases h1:r.kind=4∨r.kind=5;(·(have hn:QW r.kind=O:=by rcases h1 with h1|h1<;>rw[h1]<;>decide);rw[Xi,if_pos h',XO];refine⟨ho.name hn,ho.key hn,?_⟩;show if tI (r.kind=5)=O then _ else _;by_cases h3:r.kind=5;(·rw[if_pos (by simpa using h3)];exact ho.noValue (by omega));·rw[if_neg (by simpa using h3)];exact ho.value);·rw[if_neg h1]at h;cases h
 ·rw[if_neg h0]at h;exact absurd h h0
theorem Nk{r:Rq}(h:YS r):Uv r=(if r.kind=2∨r.kind=3then 0 else 7)∧Jj r=(if r.kind=4∨r.kind=5then 0 else 7):=by
 have:=(Ym r).2 h;exact⟨by rw[Uv,if_pos this],by rw[Jj,if_pos this]⟩
def O0(l:List Ac):List UInt8:=l.flatMap fun a=>lZ a++[10]
def Un:Nat->List Ac->Option (Nat×Int)|_,[]=>H|n,a::l=>if Jc a=0then Un (n+1) l else F (n,Jc a)
def Gq(l:List Ac):Int:=if 100000<l.length then 1 else match Un 0 l with|none=>0|F (_,e)=>e
def Fo(l:List Ac):Nat:=if 100000<l.length then 0 else match Un 0 l with|none=>0|F (i,_)=>i
def Fq(l:List Ac):List UInt8:=if Gq l=0then O0 l else[]
theorem NK:∀(l:List Ac)(n:Nat),Un n l=H↔∀a∈l,Xt a|[],_=>by simp[Un]|a::l,n=>by rw[Un];by_cases ha:Jc a=0;(·rw[if_pos ha,NK l (n+1)];simp only[tS,forall_eq_or_imp];exact⟨fun h=>⟨(uG a).1 ha,h⟩,fun h=>h.2⟩);·rw[if_neg ha];exact⟨fun h=>(by cases h),fun h=>absurd ((uG a).2 (h a (by simp))) ha⟩
theorem Wj(l:List Ac)(m:Nat)(hm:m<l.length):Un m (l.drop m)=if Jc (l.getD m UY)=0then Un (m+1) (l.drop (m+1))else F (m,Jc (l.getD m UY)):=by
 rw[sD hm,Un,show l[m]=l.getD m UY by simp[hm]]
theorem l9{l:List Ac}(h:∀a∈l,Xt a)(hl:l.length<=100000):Gq l=0∧Fo l=0∧Fq l=O0 l:=by
 have hb:=(NK l 0).2 h;have he:Gq l=0:=by rw[Gq,if_neg (by omega),hb]
 exact⟨he,by rw[Fo,if_neg (by omega),hb],by rw[Fq,if_pos he]⟩
theorem Ht{l:List Ac}(h:100000<l.length):Gq l=1∧Fo l=0∧Fq l=[]:=by
 have e:Gq l=1:=by rw[Gq,if_pos h]
 exact⟨e,by rw[Fo,if_pos h],by rw[Fq,e,if_neg (by decide)]⟩
theorem TJ{l:List Ac}(h:l.length<=100000)(hb:Un 0 l=H):Gq l=0∧Fo l=0∧Fq l=O0 l:=by
 have e:Gq l=0:=by rw[Gq,if_neg (by omega),hb]
 exact⟨e,by rw[Fo,if_neg (by omega),hb],by rw[Fq,if_pos e]⟩
theorem cO{l:List Ac}(h:l.length<=100000){i:Nat}{e:Int}(hb:Un 0 l=F (i,e))(he:e≠0):Gq l=e∧Fo l=i∧Fq l=[]:=by
 have h1:Gq l=e:=by rw[Gq,if_neg (by omega),hb]
 exact⟨h1,by rw[Fo,if_neg (by omega),hb],by rw[Fq,h1,if_neg he]⟩
theorem fV{l:List Ac}{m:Nat}(hm:m<l.length)(hb:Un 0 l=Un m (l.drop m)):(Jc (l.getD m UY)=0->Un 0 l=Un (m+1) (l.drop (m+1)))∧(Jc (l.getD m UY)≠0->Un 0 l=F (m,Jc (l.getD m UY))):=by
 rw[hb,Wj l m hm];exact⟨fun h=>by rw[if_pos h],fun h=>by rw[if_neg h]⟩
def Xu(w:I)(v:N)(r:Rq):Prop:=∃vn vk vl vv,v=pN #[tK sY r.kind,vn,vk,vl,vv]∧Qe w vn r.name∧Qe w vk r.key∧Qe w vl r.last∧Qe w vv r.value
theorem Xu.grown{w w':I}{v:N}{r:Rq}(h:Xu w v r)(hg:J w w' H):Xu w' v r:=by
 obtain⟨vn,vk,vl,vv,rfl,h1,h2,h3,h4⟩:=h;exact⟨vn,vk,vl,vv,rfl,h1.grown hg,h2.grown hg,h3.grown hg,h4.grown hg⟩
theorem Xu.agg{w:I}{v:N}{r:Rq}(h:Xu w v r):∃n1 n2 k1 k2 l1 l2 v1 v2,v=pN #[tK sY r.kind,tH n1 r.name.length n2,tH k1 r.key.length k2,tH l1 r.last.length l2,tH v1 r.value.length v2]:=by
 obtain⟨vn,vk,vl,vv,rfl,h1,h2,h3,h4⟩:=h;obtain⟨n1,n2,rfl⟩:=h1.shape;obtain⟨k1,k2,rfl⟩:=h2.shape;obtain⟨l1,l2,rfl⟩:=h3.shape;obtain⟨v1,v2,rfl⟩:=h4.shape;exact⟨n1,n2,k1,k2,l1,l2,v1,v2,rfl⟩
theorem Xu.parts{w:I}{r:Rq}{x a b c d:N}(h:Xu w (pN #[x,a,b,c,d]) r):x=tK sY r.kind∧Qe w a r.name∧Qe w b r.key∧Qe w c r.last∧Qe w d r.value:=by
 obtain⟨vn,vk,vl,vv,e,h1,h2,h3,h4⟩:=h;simp only[Value.agg.injEq,Array.mk.injEq,List.cons.injEq,and_true]at e;obtain⟨rfl,rfl,rfl,rfl,rfl⟩:=e;exact⟨rfl,h1,h2,h3,h4⟩
theorem vE(w:I):Xu w (pN #[tK sY 0,tH H 0 0,tH H 0 0,tH H 0 0,tH H 0 0]) Gh:=⟨_,_,_,_,rfl,Qx w,Qx w,Qx w,Qx w⟩
structure yN(r:Rq):Prop where kind:-9223372036854775808<=r.kind∧r.kind<=9223372036854775807name:r.name.length<=140737488355328key:r.key.length<=140737488355328last:r.last.length<=140737488355328value:r.value.length<=140737488355328
theorem qM{r:Rq}(h:YS r):yN r:=by
 have h0:=h.kind;have h5:=h.value;have k1:r.name.length<=8:=by by_cases e:QW r.kind=O;(·exact(h.name e).2);·rw[h.noName (by simpa using e)];simp
 have k2:r.key.length<=16:=by by_cases e:QW r.kind=O;(·exact(h.key e).2);·rw[h.noKey (by simpa using e)];simp
 have k3:r.last.length<=16:=by by_cases e:r.kind=3;(·exact(h.last e).2);·rw[h.noLast e];simp
 exact⟨by omega,by omega,by omega,by omega,by omega⟩
theorem Qn{W w:I}{b:Nat}{x y z u s:N}{t:sW}(hg:J W w H)(h:W.heap[b]?=F (tJ #[x,y,z,u,s] t)):(w.cell? ⟨b,0,H⟩=F x∧w.cell? ⟨b,1,H⟩=F y∧w.cell? ⟨b,2,H⟩=F z∧w.cell? ⟨b,3,H⟩=F u∧w.cell? ⟨b,4,H⟩=F s)∧(w.frozen? ⟨b,0,H⟩=V∧w.frozen? ⟨b,1,H⟩=V∧w.frozen? ⟨b,2,H⟩=V∧w.frozen? ⟨b,3,H⟩=V∧w.frozen? ⟨b,4,H⟩=V)∧w.heap[b]?=F (tJ #[x,y,z,u,s] t):=by
 have hb:w.heap[b]?=F (tJ #[x,y,z,u,s] t):=by rw[hg.block b (tL.1 h).1 (by simp)];exact h
 refine⟨⟨?_,?_,?_,?_,?_⟩,⟨?_,?_,?_,?_,?_⟩,hb⟩;all_goals simp[tZ,sV,hb]
theorem Yw{w:I}{b i:Nat}{cs:Array N}{t:sW}{fz:Nat×Nat}{u:N}(h:w.heap[b]?=F (tJ cs t fz)):(tG w ⟨b,i,H⟩ u).heap[b]?=F (tJ (cs.setIfInBounds i u) t fz):=by
 simp only[tG,tQ,if_true,h,sO];rfl
theorem qZ{w:I}{b c i:Nat}{o:Obj}{u:N}(h:w.heap[b]?=F o)(hne:b≠c):(tG w ⟨c,i,H⟩ u).heap[b]?=F o:=by
 simp only[tG,tQ];rw[if_neg (fun e=>hne e.symm)];exact h
abbrev Ov(w:I)(b:Nat)(x y z u s:N):I:=((((tG w ⟨b,0,H⟩ x).setCell ⟨b,1,H⟩ y).setCell ⟨b,2,H⟩ z).setCell ⟨b,3,H⟩ u).setCell ⟨b,4,H⟩ s
theorem vF{w:I}{b:Nat}{x y z u s:N}{t:sW}(h:w.heap[b]?=F (tJ #[x,y,z,u,s] t))(x' y' z' u' s':N):(Ov w b x' y' z' u' s').heap[b]?=F (tJ #[x',y',z',u',s'] t):=Yw (Yw (Yw (Yw (Yw h))))
theorem zN{w W:I}{b:Nat}(hg:J w W H)(hb:w.heap.size<=b)(x y z u s:N):J w (Ov W b x y z u s) H:=Qd (Qd (Qd (Qd (Qd hg _ hb _ _) _ hb _ _) _ hb _ _) _ hb _ _) _ hb _ _
theorem Wg(W:I)(b:Nat)(x y z u s:N):J W (Ov W b x y z u s) (F b):=Qh (Qh (Qh (Qh (Qh (Qb W (F b)) _ _) _ _) _ _) _ _) _ _
abbrev Gf(w:I)(b:Nat)(x y z u:N):I:=(((tG w ⟨b,0,H⟩ x).setCell ⟨b,1,H⟩ y).setCell ⟨b,2,H⟩ z).setCell ⟨b,3,H⟩ u
theorem Ye{w:I}{b:Nat}{x y z u:N}{t:sW}(h:w.heap[b]?=F (tJ #[x,y,z,u] t))(x' y' z' u':N):(Gf w b x' y' z' u').heap[b]?=F (tJ #[x',y',z',u'] t):=Yw (Yw (Yw (Yw h)))
theorem Z7{w W:I}{b:Nat}(hg:J w W H)(hb:w.heap.size<=b)(x y z u:N):J w (Gf W b x y z u) H:=Qd (Qd (Qd (Qd hg _ hb _ _) _ hb _ _) _ hb _ _) _ hb _ _
theorem Yt(W:I)(b:Nat)(x y z u:N):J W (Gf W b x y z u) (F b):=Qh (Qh (Qh (Qh (Qb W (F b)) _ _) _ _) _ _) _ _
theorem Q9.later{base:Nat}{w w':I}{v:N}{bs:List UInt8}(h:Q9 base w v bs){b:Nat}(hg:J w w' (F b))(hb:b<base):Q9 base w' v bs:=by
 refine h.grown hg (.inr fun e=>?_);have:=(h.lt b e).1;omega
def Ny(i:Nat):Nat:=[0,0,3,7,11,3,0,0,3].getD i 0
def UL(w:I):Prop:=∀i,i<9->w.cell? ⟨0,i,H⟩=F (tK rG ((Ny i:Nat):Int))
theorem UL.grown{w w':I}(h:UL w)(hg:J w w' H):UL w':=fun i hi=>hg.cell (h i hi) (by
 simp)
def QS(k:Int):Nat->Bool|0=>QW k|1=>QW k|2=>tI (k=3)|_=>tI (k=4)
theorem fX(k j:Nat)(hk:k<9)(hj:j<4):(bits BinOp.and rG ((Ny k:Nat):Int) ((2^j:Nat):Int)!=0)=QS (k:Int) j:=(by
 decide+kernel:∀(k:Fin 9)(j:Fin 4),(bits BinOp.and rG ((Ny k.1:Nat):Int) ((2^j.1:Nat):Int)!=0)=QS (k.1:Int) j.1) ⟨k,hk⟩ ⟨j,hj⟩
def Kd(r:Rq):List UInt8:=if Yn r=0then KN r else[]
def aJ:Prop:=∀(w:I)(v:N)(r:Rq),UL w->Xu w v r->yN r->rW tA 22 #[v] w fun e w'=>∃x,e=sP (pV #[x,tK sY (Yn r)])∧Qi 0 w' x (Kd r)∧J w w' H
def YE(w:I)(v:N)(r:Rd):Prop:=∃vn vk vl,v=pN #[vn,vk,pO r.wide,vl]∧Qe w vn r.name∧Qe w vk r.key∧Qe w vl r.last
theorem YE.grown{w w':I}{v:N}{r:Rd}(h:YE w v r)(hg:J w w' H):YE w' v r:=by
 obtain⟨vn,vk,vl,rfl,h1,h2,h3⟩:=h;exact⟨vn,vk,vl,rfl,h1.grown hg,h2.grown hg,h3.grown hg⟩
theorem YE.agg{w:I}{v:N}{r:Rd}(h:YE w v r):∃na nc ka kc la lc,v=pN #[tH na r.name.length nc,tH ka r.key.length kc,pO r.wide,tH la r.last.length lc]:=by
 obtain⟨vn,vk,vl,rfl,h1,h2,h3⟩:=h;obtain⟨na,nc,rfl⟩:=h1.shape;obtain⟨ka,kc,rfl⟩:=h2.shape;obtain⟨la,lc,rfl⟩:=h3.shape;exact⟨na,nc,ka,kc,la,lc,rfl⟩
theorem YE.parts{w:I}{r:Rd}{x y g z:N}(h:YE w (pN #[x,y,g,z]) r):Qe w x r.name∧Qe w y r.key∧g=pO r.wide∧Qe w z r.last:=by
 obtain⟨vn,vk,vl,e,h1,h2,h3⟩:=h;simp only[Value.agg.injEq,Array.mk.injEq,List.cons.injEq,and_true]at e;obtain⟨rfl,rfl,rfl,rfl⟩:=e;exact⟨h1,h2,rfl,h3⟩
structure P8(r:Rd):Prop where name:r.name.length<=140737488355328key:r.key.length<=140737488355328last:r.last.length<=140737488355328
structure uC where
  bit : Int
  right : Bool
  other : List UInt8
structure Cm where
  empty : Bool
  steps : List uC
  pair : Pr
def Lz:uC:=⟨0,V,[]⟩
def Vk:Cm:=⟨V,[],([],[])⟩
instance:Inhabited uC:=⟨Lz⟩
instance:Inhabited Cm:=⟨Vk⟩
def UF(l:PL):Nat->Int|0=>999|1=>999|m+2=>if JU (l.getD 0 ([],[])).1 (l.getD (m+1) ([],[])).1<UF l (m+1)then JU (l.getD 0 ([],[])).1 (l.getD (m+1) ([],[])).1 else UF l (m+1)
def Qz(l:PL):Int:=UF l l.length
def Je(l:PL)(b:Nat)(x:Bool):PL:=l.filter fun q=>ZQ q.1 b==x
theorem CA(l:PL)(b:Nat)(x:Bool):(Je l b x).length<=l.length:=sX _ _
theorem X6{l:PL}(h:ZA l)(b:Nat)(x:Bool):ZA (Je l b x):=⟨rC (CA l b x) h.room,fun p hp=>h.pairs p (rY.1 hp).1,sR _ h.rises⟩
theorem CI{l:PL}(h:ZA l)(i j:Nat)(hij:i<j)(hj:j<l.length):0<=JU (l.getD i ([],[])).1 (l.getD j ([],[])).1:=by
 have hk:=UV l h.rises i j hij hj;have h1:=(h.pairs l[i] (sF (by omega))).1;have h2:=(h.pairs l[j] (sF hj)).1;rw[show l[i]=l.getD i ([],[])by simp[show i<l.length by omega]]at h1;rw[show l[j]=l.getD j ([],[])by simp[hj]]at h2;have:=AR (l.getD i ([],[])).1 (l.getD j ([],[])).1 h1.2 h2.2;have hne:=gS hk;by_cases hp:JU (l.getD i ([],[])).1 (l.getD j ([],[])).1<0;·exact absurd (this.1 hp) hne
 ·omega
theorem Ff{l:PL}(h:ZA l):∀m,m<=l.length->0<=UF l m∧(2<=m->UF l m<=144)∧UF l m<=999|0,_=>⟨by simp[UF],by omega,by simp[UF]⟩|1,_=>⟨by simp[UF],by omega,by simp[UF]⟩|m+2,hm=>by have ih:=Ff h (m+1) (by omega);have hp:=CI h 0 (m+1) (by omega) (by omega);have hr:=Fi (l.getD 0 ([],[])).1 (l.getD (m+1) ([],[])).1;rw[UF];by_cases hlt:JU (l.getD 0 ([],[])).1 (l.getD (m+1) ([],[])).1<UF l (m+1);(·rw[if_pos hlt];omega);·rw[if_neg hlt];omega
theorem Yq{l:PL}(h:ZA l)(h2:2<=l.length):0<=Qz l∧Qz l<=144:=by
 have:=Ff h l.length (sA _);exact⟨this.1,this.2.1 h2⟩
theorem El{l:PL}(_h:ZA l):∀m,2<=m->m<=l.length->∃j,0<j∧j<m∧UF l m=JU (l.getD 0 ([],[])).1 (l.getD j ([],[])).1|0,h,_=>by omega|1,h,_=>by omega|m+2,_,hm=>by rw[UF];by_cases hlt:JU (l.getD 0 ([],[])).1 (l.getD (m+1) ([],[])).1<UF l (m+1);(·rw[if_pos hlt];exact⟨m+1,by omega,by omega,rfl⟩);·rw[if_neg hlt];by_cases h0:m=0;(·subst h0;have hr:=Fi (l.getD 0 ([],[])).1 (l.getD (0+1) ([],[])).1;simp only[UF]at hlt;omega);·obtain⟨j,h1,h2,h3⟩:=El _h (m+1) (by omega) (by omega);exact⟨j,h1,by omega,h3⟩
theorem kL{l:PL}(h:ZA l)(h2:2<=l.length):∀x,(Je l (Qz l).toNat x).length<l.length:=by
 obtain⟨j,hj1,hj2,hj3⟩:=El h l.length h2 (sA _);have hr:=Yq h h2;have hd:ZQ (l.getD 0 ([],[])).1 (Qz l).toNat≠ZQ (l.getD j ([],[])).1 (Qz l).toNat:=by rcases J0 (l.getD 0 ([],[])).1 (l.getD j ([],[])).1with⟨e,_⟩|⟨m,e,_,_,hd⟩;(·rw[<-hj3]at e;unfold Qz at hr;omega);·(have:(Qz l).toNat=m:=by unfold Qz;omega);rw[this];exact hd
 intro x;by_cases hlt:(Je l (Qz l).toNat x).length<l.length;·exact hlt
 ·(have he:(Je l (Qz l).toNat x).length=l.length:=by have:=CA l (Qz l).toNat x;omega);have hall:=List.length_filter_eq_length_iff.1 he;have h0:=hall l[0] (sF (by omega));have hj:=hall l[j] (sF hj2);rw[show l[0]=l.getD 0 ([],[])by simp[show 0<l.length by omega]]at h0;rw[show l[j]=l.getD j ([],[])by simp[hj2]]at hj;simp only[beq_iff_eq]at h0 hj;exact absurd (h0.trans hj.symm) hd
def JS(l:PL)(b:Nat):Nat:=(l.takeWhile fun q=>!ZQ q.1 b).length
theorem xS(l:PL):∀m j,0<j->j<m->m<=l.length->UF l m<=JU (l.getD 0 ([],[])).1 (l.getD j ([],[])).1|0,j,_,h,_=>by omega|1,j,h0,h,_=>by omega|m+2,j,h0,h,hm=>by rw[UF];by_cases hlt:JU (l.getD 0 ([],[])).1 (l.getD (m+1) ([],[])).1<UF l (m+1);(·rw[if_pos hlt];by_cases e:j=m+1;(·subst e;exact oJ _);·have:=xS l (m+1) j h0 (by omega) (by omega);omega);·rw[if_neg hlt];by_cases e:j=m+1;(·subst e;omega);·exact xS l (m+1) j h0 (by omega) (by omega)
theorem Pv{l:PL}(h:ZA l)(h2:2<=l.length)(j:Nat)(hj:j<l.length)(b:Nat)(hb:b<(Qz l).toNat):ZQ (l.getD 0 ([],[])).1 b=ZQ (l.getD j ([],[])).1 b:=by
 by_cases h0:j=0;·subst h0;rfl
 ·have hm:=xS l l.length j (by omega) hj (sA _);have hr:=Yq h h2;rcases J0 (l.getD 0 ([],[])).1 (l.getD j ([],[])).1with⟨e,hs⟩|⟨m,e,hm1,hs,_⟩;(·exact hs b (by omega));·exact hs b (by unfold Qz at hb;omega)
theorem Ma{l:PL}(h:ZA l)(h2:2<=l.length)(i j:Nat)(hij:i<j)(hj:j<l.length)(hi:ZQ (l.getD i ([],[])).1 (Qz l).toNat=O):ZQ (l.getD j ([],[])).1 (Qz l).toNat=O:=by
 have hk:=UV l h.rises i j hij hj;have hp:=CI h i j hij hj;rcases J0 (l.getD i ([],[])).1 (l.getD j ([],[])).1with⟨e,_⟩|⟨m,e,hm,hs,hd⟩;·omega
 ·(have hge:(Qz l).toNat<=m:=by by_cases hlt:m<(Qz l).toNat;(·exact absurd ((Pv h h2 i (by omega) m hlt).symm.trans (Pv h h2 j hj m hlt)) hd);·omega);by_cases he:(Qz l).toNat=m;(·rw[he];have:=To _ _ m hs hd;rw[this];exact hk);·rw[<-hs _ (by omega)];exact hi
theorem Mg{l:PL}(h:ZA l)(h2:2<=l.length):ZQ (l.getD 0 ([],[])).1 (Qz l).toNat=V∧ZQ (l.getD (l.length-1) ([],[])).1 (Qz l).toNat=O:=by
 obtain⟨j,hj1,hj2,hj3⟩:=El h l.length h2 (sA _);have hr:=Yq h h2;have hk:=UV l h.rises 0 j hj1 hj2;rcases J0 (l.getD 0 ([],[])).1 (l.getD j ([],[])).1with⟨e,_⟩|⟨m,e,hm,hs,hd⟩;·rw[<-hj3]at e;unfold Qz at hr;omega
 ·(have em:(Qz l).toNat=m:=by unfold Qz;omega);have ho:=To _ _ m hs hd;(have hjt:ZQ (l.getD j ([],[])).1 m=O:=by rw[ho];exact hk);refine⟨?_,?_⟩;(·rw[em];cases hx:ZQ (l.getD 0 ([],[])).1 m with|false=>rfl|true=>exact absurd (hx.trans hjt.symm) hd);·by_cases hl:j=l.length-1;(·rw[<-hl,em];exact hjt);·exact Ma h h2 j (l.length-1) (by omega) (by omega) (by rw[em];exact hjt)
theorem N5{l:PL}(h:ZA l)(h2:2<=l.length):JU (l.getD 0 ([],[])).1 (l.getD (l.length-1) ([],[])).1=Qz l:=by
 have hr:=Yq h h2;obtain⟨e1,e2⟩:=Mg h h2;rw[Cb _ _ (Qz l).toNat (by omega) (fun b hb=>Pv h h2 _ (by omega) b hb) (by rw[e1,e2];simp)];omega
theorem LG:∀(l:PL)(b j:Nat),j<JS l b->ZQ (l.getD j ([],[])).1 b=V|[],b,j,h=>by simp[JS]at h|p::r,b,j,h=>by cases hk:ZQ p.1 b with|true=>simp[JS,hk]at h|false=>cases j with|zero=>simpa using hk|succ j=>have:=LG r b j (by unfold JS at h⊢;rw[tM (p:=fun q:Pr=>!ZQ q.1 b) (by simp[hk])]at h;simpa using h);simpa using this
theorem By:∀(l:PL)(b:Nat),JS l b<l.length->ZQ (l.getD (JS l b) ([],[])).1 b=O|[],b,h=>by simp at h|p::r,b,h=>by cases hk:ZQ p.1 b with|true=>simp[JS,hk]|false=>(have e:JS (p::r) b=JS r b+1:=by unfold JS;rw[tM (p:=fun q:Pr=>!ZQ q.1 b) (by simp[hk])];simp);rw[e]at h⊢;have:=By r b (by simpa using h);simpa using this
theorem GQ{l:PL}(h:ZA l)(h2:2<=l.length)(j:Nat)(hj:j<l.length):ZQ (l.getD j ([],[])).1 (Qz l).toNat=tI (JS l (Qz l).toNat<=j):=by
 by_cases hlt:j<JS l (Qz l).toNat;·rw[decide_eq_false (by omega)];exact LG l _ j hlt
 ·rw[decide_eq_true (by omega)];have h0:=By l (Qz l).toNat (by omega);by_cases e:j=JS l (Qz l).toNat;(·rw[e];exact h0);·exact Ma h h2 _ j (by omega) hj h0
theorem UK{l:PL}(h:ZA l)(h2:2<=l.length):0<JS l (Qz l).toNat∧JS l (Qz l).toNat<l.length:=by
 obtain⟨e1,e2⟩:=Mg h h2;rw[GQ h h2 0 (by omega)]at e1;rw[GQ h h2 _ (by omega)]at e2;simp at e1 e2;omega
theorem kV{l:PL}(h:ZA l)(h2:2<=l.length):Je l (Qz l).toNat V=l.take (JS l (Qz l).toNat):=by
 have hs:=UK h h2;have hb:=fun j hj=>GQ h h2 j hj;generalize(Qz l).toNat=b at*;generalize JS l b=n at*;have e:l=l.take n++l.drop n:=(tE n l).symm;rw[Je];conv=>lhs;rw[e]
 rw[sI,tN.2,sJ.2,tV];·intro q hq;obtain⟨j,hj,rfl⟩:=L.1 hq;(have hjn:n+j<l.length:=by simp at hj;omega);rw[sM,show l[n+j]=l.getD (n+j) ([],[])by simp[hjn],hb _ hjn];simp
 ·intro q hq;obtain⟨j,hj,rfl⟩:=L.1 hq;(have hjn:j<n:=by simp at hj;omega);rw[sE,show l[j]'(by omega)=l.getD j ([],[])by simp[show j<l.length by omega],hb _ (by omega)];simp[hjn]
theorem PZ{l:PL}(h:ZA l)(h2:2<=l.length):Je l (Qz l).toNat O=l.drop (JS l (Qz l).toNat):=by
 have hs:=UK h h2;have hb:=fun j hj=>GQ h h2 j hj;generalize(Qz l).toNat=b at*;generalize JS l b=n at*;have e:l=l.take n++l.drop n:=(tE n l).symm;rw[Je];conv=>lhs;rw[e]
 rw[sI,sJ.2,tN.2,pA];·intro q hq;obtain⟨j,hj,rfl⟩:=L.1 hq;(have hjn:n+j<l.length:=by simp at hj;omega);rw[sM,show l[n+j]=l.getD (n+j) ([],[])by simp[hjn],hb _ hjn];simp
 ·intro q hq;obtain⟨j,hj,rfl⟩:=L.1 hq;(have hjn:j<n:=by simp at hj;omega);rw[sE,show l[j]'(by omega)=l.getD j ([],[])by simp[show j<l.length by omega],hb _ (by omega)];simp[hjn]
def U(x:BitVec 64):Int:=(x.toNat:Int)
theorem jB(x:BitVec 64):sB 64 (U x)=x:=by
 unfold U;rw[pL];simp
theorem kN(x:BitVec 64):rD.wrap (x.toNat:Int)=U x:=by
 rw[rU];unfold U;have:=x.isLt;omega
theorem Zn(x y:BitVec 64):bits .xor .u64 (U x) (U y)=U (x^^^y):=by
 show rD.wrap ((sB 64 (U x)^^^sB 64 (U y)).toNat:Int)=_;rw[jB,jB,kN]
theorem Ns(x y:BitVec 64):bits .or .u64 (U x) (U y)=U (x|||y):=by
 show rD.wrap ((sB 64 (U x)|||sB 64 (U y)).toNat:Int)=_;rw[jB,jB,kN]
theorem KS(x y:BitVec 64):bits .andNot .u64 (U x) (U y)=U (x&&&~~~y):=by
 show rD.wrap ((sB 64 (U x)&&&~~~sB 64 (U y)).toNat:Int)=_;rw[jB,jB,kN]
theorem J4(x:BitVec 64)(k:Nat):rD.wrap (U x*2^k)=U (x<<<k):=by
 rw[rU];unfold U;rw[BitVec.toNat_shiftLeft,Nat.shiftLeft_eq];have e:((x.toNat:Int)*2^k)=((x.toNat*2^k:Nat):Int):=by simp
 rw[e];omega
theorem N9(x:BitVec 64)(k:Nat):U x/2^k=U (x>>>k):=by
 unfold U;rw[BitVec.toNat_ushiftRight,Nat.shiftRight_eq_div_pow];simp
theorem i5(k:Int)(h0:0<=k)(h:k<64):bits .and .u64 k 63=k:=by
 obtain⟨n,rfl⟩:=Int.eq_ofNat_of_zero_le h0;show rD.wrap ((sB 64 (n:Int)&&&sB 64 63).toNat:Int)=_;rw[pL,BitVec.toNat_and];have h1:(BitVec.ofNat 64 n).toNat=n:=by rw[BitVec.toNat_ofNat];omega
 have h2:(sB 64 63).toNat=2^6-1:=by decide
 rw[h1,h2,Nat.and_two_pow_sub_one_eq_mod,rU];omega
def xN(x:BitVec 64)(k:Nat):BitVec 64:=(x<<<k)|||(x>>>(64-k))
section
theorem Ha(x:BitVec 64)(k:Int)(h0:0<=k)(h:k<64)(w:I):rW tA 164 #[tK .u64 (U x),tK sY k] w fun e w'=>e=sP (tK .u64 (U (xN x k.toNat)))∧w'=w:=by
 have h63:=i5 k h0 h;go_enter Tryz.func164,Tryz.ntmps164;go_wp2;go_ret;refine⟨?_,rfl⟩;rw[show(64-k).toNat=64-k.toNat by omega,J4,N9,Ns];rfl
def Kn(st:List (BitVec 64)):Array N:=(st.map fun x=>tK .u64 (U x)).toArray
structure XZ (n : Nat) (w : I) (b : Nat) (st : List (BitVec 64)) : Prop where
  len : st.length = n
  blk : ∃ t, w.heap[b]? = F (tJ (Kn st) t (0, 0))
section
variable{n:Nat}{w:I}{b:Nat}{st:List (BitVec 64)}
theorem XZ.cell(h:XZ n w b st)(i:Nat)(hi:i<n):w.cell? ⟨b,i,H⟩=F (tK .u64 (U (st.getD i 0))):=by
 obtain⟨t,hb⟩:=h.blk;simp[tZ,hb,Kn,sS,rK (show i<st.length by have:=h.len;omega)]
theorem XZ.frozen(h:XZ n w b st)(i:Nat):w.frozen? ⟨b,i,H⟩=V:=by
 obtain⟨t,hb⟩:=h.blk;simp[sV,hb]
theorem XZ.lt(h:XZ n w b st):b<w.heap.size:=by
 obtain⟨t,hb⟩:=h.blk;exact(tL.1 hb).1
theorem DR(st:List (BitVec 64))(i:Nat)(x:BitVec 64):(Kn st).setIfInBounds i (tK .u64 (U x))=Kn (st.set i x):=by
 simp[Kn]
theorem XZ.set(h:XZ n w b st)(i:Nat)(x:BitVec 64):XZ n (tG w ⟨b,i,H⟩ (tK .u64 (U x))) b (st.set i x):=by
 obtain⟨t,hb⟩:=h.blk;refine⟨by simp[h.len],t,?_⟩;simp only[tG,tQ,if_true,hb,sO];simp[DR]
theorem XZ.setOther(h:XZ n w b st)(c:Nat)(hc:b≠c)(i:Nat)(v:N):XZ n (tG w ⟨c,i,H⟩ v) b st:=by
 obtain⟨t,hb⟩:=h.blk;exact⟨h.len,t,by rw[Below.heap_setCell _ _ _ _ hc];exact hb⟩
theorem XZ.drewN(h:XZ n w b st)(k:Nat):XZ n (w.drewN k) b st:=⟨h.len,h.blk⟩
theorem XZ.drew(h:XZ n w b st):XZ n w.drew b st:=⟨h.len,h.blk⟩
theorem XZ.alloc(h:XZ n w b st)(o:Obj):XZ n (w.alloc o) b st:=by
 obtain⟨t,hb⟩:=h.blk;exact⟨h.len,t,by rw[Below.heap_alloc _ _ _ h.lt];exact hb⟩
theorem XZ.grown(h:XZ n w b st){w':I}{r:Option Nat}(hg:J w w' r)(hr:F b≠r):XZ n w' b st:=by
 obtain⟨t,hb⟩:=h.blk;exact⟨h.len,t,by rw[hg.block b h.lt hr];exact hb⟩
theorem XZ.new(w:I)(t:sW)(st:List (BitVec 64))(hl:st.length=n):XZ n (w.alloc (tJ (Kn st) t)) w.heap.size st:=⟨hl,t,rJ w _⟩
end
abbrev St:=XZ 25
def LH(st:List (BitVec 64))(n:Nat):List (BitVec 64):=let a:=st.getD n 0;let b:=st.getD (n+1) 0;let c:=st.getD (n+2) 0;let d:=st.getD (n+3) 0;let e:=st.getD (n+4) 0;((((st.set n (a^^^(c&&&~~~b))).set (n+1) (b^^^(d&&&~~~c))).set (n+2) (c^^^(e&&&~~~d))).set (n+3) (d^^^(a&&&~~~e))).set (n+4) (e^^^(b&&&~~~a))
def VT(st:List (BitVec 64)):Nat->List (BitVec 64)|0=>st|k+1=>LH (VT st k) (5*k)
theorem Ob(w:I)(b:Nat)(st:List (BitVec 64))(h:St w b st):rW tA 163 #[.pointer (F ⟨b,0,H⟩)] w fun e w'=>e=sP (pV #[])∧St w' b (VT st 5)∧J w w' (F b):=by
 go_enter Tryz.func163,Tryz.ntmps163;go_wp2;go_loopw[2](fun y wr=>∃k:Nat,k<=5∧y=tK sY ((5*k:Nat):Int)∧St wr b (VT st k)∧J w wr (F b))(fun y _=>25-(intOf y).toNat);case atStart=>exact⟨0,by omega,rfl,h,Qb _ _⟩
 case round=>obtain⟨k,hk,rfl,hst,hg⟩:=hrel;by_cases hlt:k<5;(·generalize hn:5*k=n;have HN:Hid (5*k=n):=hn;clear hn;(have h25:n+4<25:=by have:=HN.out;omega);have hc:=hst.cell;have hf:=hst.frozen;have c0:=hc n (by omega);have c1:=hc (n+1) (by omega);have c2:=hc (n+2) (by omega);have c3:=hc (n+3) (by omega);have c4:=hc (n+4) (by omega);clear hc;generalize hS:VT st k=S at*;have HS:Hid (VT st k=S):=hS;clear hS;generalize hA:S.getD n 0=A at*;generalize hB:S.getD (n+1) 0=B at*;generalize hC:S.getD (n+2) 0=C at*;generalize hD:S.getD (n+3) 0=D at*;generalize hE:S.getD (n+4) 0=E at*;have HA:Hid (S.getD n 0=A):=hA;have HB:Hid (S.getD (n+1) 0=B):=hB;have HC:Hid (S.getD (n+2) 0=C):=hC;have HD:Hid (S.getD (n+3) 0=D):=hD;have HE:Hid (S.getD (n+4) 0=E):=hE;clear hA hB hC hD hE;(have i1:(n:Int)+4<25:=by omega);go_wp2;go_quiet(fail);go_wp2;go_roundw;(case rel=>refine⟨k+1,by omega,by have:=HN.out;congr 1;omega,?_,?_⟩;(·rw[KS,KS,KS,KS,KS,Zn,Zn,Zn,Zn,Zn];(have e:VT st (k+1)=((((S.set n (A^^^(C&&&~~~B))).set (n+1) (B^^^(D&&&~~~C))).set (n+2) (C^^^(E&&&~~~D))).set (n+3) (D^^^(A&&&~~~E))).set (n+4) (E^^^(B&&&~~~A)):=by simp only[VT,LH,HS.out,HN.out,HA.out,HB.out,HC.out,HD.out,HE.out]);rw[e];exact(((((hst.drewN nq).set n _).set (n+1) _).set (n+2) _).set (n+3) _).set (n+4) _);·exact Qh (Qh (Qh (Qh (Qh (Qp hg nq) n _) (n+1) _) (n+2) _) (n+3) _) (n+4) _);case measure=>simp[intOf];omega);·(obtain rfl:k=5:=by omega);go_wp2;go_end0;exact⟨rfl,hst,hg⟩
end
def Li(st:List (BitVec 64))(x:Nat):BitVec 64:=st.getD x 0^^^st.getD (x+5) 0^^^st.getD (x+10) 0^^^st.getD (x+15) 0^^^st.getD (x+20) 0
def Vr(st:List (BitVec 64)):Nat->List (BitVec 64)|0=>[0,0,0,0,0]|k+1=>(Vr st k).set k (Li st k)
def cS(c:List (BitVec 64)):List (BitVec 64):=[c.getD 4 0^^^xN (c.getD 1 0) 1,c.getD 0 0^^^xN (c.getD 2 0) 1,c.getD 1 0^^^xN (c.getD 3 0) 1,c.getD 2 0^^^xN (c.getD 4 0) 1,c.getD 3 0^^^xN (c.getD 0 0) 1]
def F6(d st:List (BitVec 64))(k:Nat):List (BitVec 64):=let y:=d.getD k 0;((((st.set k (st.getD k 0^^^y)).set (k+5) (st.getD (k+5) 0^^^y)).set (k+10) (st.getD (k+10) 0^^^y)).set (k+15) (st.getD (k+15) 0^^^y)).set (k+20) (st.getD (k+20) 0^^^y)
def jY(d st:List (BitVec 64)):Nat->List (BitVec 64)|0=>st|k+1=>F6 d (jY d st k) k
theorem cL(w:I)(b:Nat)(st:List (BitVec 64))(h:St w b st):rW tA 161 #[.pointer (F ⟨b,0,H⟩)] w fun e w'=>e=sP (pV #[])∧St w' b (jY (cS (Vr st 5)) st 5)∧J w w' (F b):=by
 have hbn:b≠w.heap.size:=Nat.ne_of_lt h.lt;have h0:=h;go_enter Tryz.func161,Tryz.ntmps161;go_wp2_with fail;go_loopw[6](fun i wr=>∃k:Nat,k<=5∧i=tK sY (k:Int)∧St wr b st∧XZ 5 wr w.heap.size (Vr st k)∧J w wr (F b))(fun i _=>5-(intOf i).toNat);case atStart=>exact⟨0,by omega,rfl,h.alloc _,XZ.new w 266 [0,0,0,0,0] rfl,Qw (Qb _ _) _⟩
 case round=>obtain⟨k,hk,rfl,hst,hcl,hg⟩:=hrel;by_cases hlt:k<5;(·have c0:=hst.cell k (by omega);have c1:=hst.cell (k+5) (by omega);have c2:=hst.cell (k+10) (by omega);have c3:=hst.cell (k+15) (by omega);have c4:=hst.cell (k+20) (by omega);have d0:=hcl.cell k hlt;have hf:=hcl.frozen k;generalize hx0:st.getD k 0=x0 at*;generalize hx1:st.getD (k+5) 0=x1 at*;generalize hx2:st.getD (k+10) 0=x2 at*;generalize hx3:st.getD (k+15) 0=x3 at*;generalize hx4:st.getD (k+20) 0=x4 at*;(have HX:Hid (Li st k=x0^^^x1^^^x2^^^x3^^^x4):=by show Li st k=_;simp only[Li,hx0,hx1,hx2,hx3,hx4]);generalize hcc:Vr st k=cc at*;have HC:Hid (Vr st k=cc):=hcc;generalize hy:cc.getD k 0=y at*;clear hx0 hx1 hx2 hx3 hx4 hcc hy h;(have i1:(k:Int)+20<25:=by omega);(have i2:(k:Int)<5:=by omega);go_wp2_with fail;go_region;(all_goals go_wp2);go_roundw;(case rel=>rw[Zn,Zn,Zn,Zn];have hlt':=hst.lt;have hlt2:=hcl.lt;refine⟨k+1,by omega,by go_num,(hst.setOther _ hbn _ _).drew,?_,Ql (Qd hg _ (sA _) _ _)⟩;simp only[Vr,HC.out,HX.out];exact(hcl.set k _).drew);case measure=>simp[intOf];omega);·(obtain rfl:k=5:=by omega);have e0:=hcl.cell 0 (by omega);have e1:=hcl.cell 1 (by omega);have e2:=hcl.cell 2 (by omega);have e3:=hcl.cell 3 (by omega);have e4:=hcl.cell 4 (by omega);generalize hcc:Vr st 5=cc at*;have HC:Hid (Vr st 5=cc):=hcc;generalize hx0:cc.getD 0 0=x0 at*;generalize hx1:cc.getD 1 0=x1 at*;generalize hx2:cc.getD 2 0=x2 at*;generalize hx3:cc.getD 3 0=x3 at*;generalize hx4:cc.getD 4 0=x4 at*;(have HD:Hid (cS cc=[x4^^^xN x1 1,x0^^^xN x2 1,x1^^^xN x3 1,x2^^^xN x4 1,x3^^^xN x0 1]):=by show cS cc=_;simp only[cS,hx0,hx1,hx2,hx3,hx4]);clear hcc hx0 hx1 hx2 hx3 hx4 h;have hwr:=hcl.lt;go_upto_region 6with fail;go_cut[4](fun s4 wx=>s4=.pointer (F ⟨wr.heap.size,0,H⟩)∧St wx b st∧XZ 5 wx wr.heap.size (cS cc)∧J w wx (F b));(case first=>go_region_held3(fun w'=>w'.cell? ⟨w.heap.size,0,H⟩=F (tK .u64 (U x0))∧w'.cell? ⟨w.heap.size,1,H⟩=F (tK .u64 (U x1))∧w'.cell? ⟨w.heap.size,2,H⟩=F (tK .u64 (U x2))∧w'.cell? ⟨w.heap.size,3,H⟩=F (tK .u64 (U x3))∧w'.cell? ⟨w.heap.size,4,H⟩=F (tK .u64 (U x4)))(go_keep)(first|(go_at_call 164;refine(Ha _ (1:Int) (by omega) (by omega) _).mono ?_;rintro e w'⟨rfl,rfl⟩));all_goals(go_wp2_with fail;go_meet;case rel=>(rw[HD.out,Zn,Zn,Zn,Zn,Zn];exact⟨rfl,(hst.alloc _).drew,(XZ.new wr 266 [x4^^^xN x1 1,x0^^^xN x2 1,x1^^^xN x3 1,x2^^^xN x4 1,x3^^^xN x0 1] rfl).drew,Ql (Qw hg _)⟩)));case rest=>obtain⟨rfl,hst2,hd2,hg2⟩:=hcut;clear e0 e1 e2 e3 e4 hst hcl hg;(have hbw:b≠wr.heap.size:=by have:=h0.lt;omega);generalize hD:cS cc=dd at*;have HDD:Hid (cS cc=dd):=hD;clear hD HD;generalize hdn:wr.heap.size=db at*;clear hdn hwr;go_wp2_with fail;go_loopw[76](fun i wr=>∃k:Nat,k<=5∧i=tK sY (k:Int)∧St wr b (jY dd st k)∧XZ 5 wr db dd∧J w wr (F b))(fun i _=>5-(intOf i).toNat);(case atStart=>exact⟨0,by omega,rfl,hst2,hd2,hg2⟩);case round=>clear hst2 hd2 hg2;obtain⟨k,hk,rfl,hst,hd,hg⟩:=hrel;by_cases hlt:k<5;(·have c0:=hst.cell k (by omega);have c1:=hst.cell (k+5) (by omega);have c2:=hst.cell (k+10) (by omega);have c3:=hst.cell (k+15) (by omega);have c4:=hst.cell (k+20) (by omega);have d0:=hd.cell k hlt;have hf:=hst.frozen;generalize hS:jY dd st k=S at*;have HS:Hid (jY dd st k=S):=hS;generalize hy:dd.getD k 0=y at*;generalize hx0:S.getD k 0=x0 at*;generalize hx1:S.getD (k+5) 0=x1 at*;generalize hx2:S.getD (k+10) 0=x2 at*;generalize hx3:S.getD (k+15) 0=x3 at*;generalize hx4:S.getD (k+20) 0=x4 at*;(have HX:Hid (F6 dd S k=((((S.set k (x0^^^y)).set (k+5) (x1^^^y)).set (k+10) (x2^^^y)).set (k+15) (x3^^^y)).set (k+20) (x4^^^y)):=by show F6 dd S k=_;simp only[F6,hy,hx0,hx1,hx2,hx3,hx4]);clear hS hy hx0 hx1 hx2 hx3 hx4;(have i1:(k:Int)+20<25:=by omega);(have i2:(k:Int)<5:=by omega);go_wp2_with fail;go_region;go_wp2_with fail;go_region;go_wp2_with fail;go_region;go_wp2_with fail;go_region;go_wp2_with fail;go_region;go_wp2_with fail;go_roundw;(case rel=>rw[Zn,Zn,Zn,Zn,Zn];refine⟨k+1,by omega,by go_num,?_,?_,?_⟩;(·simp only[jY,HS.out,HX.out];exact(((((hst.set k _).set (k+5) _).set (k+10) _).set (k+15) _).set (k+20) _).drew.drew.drew.drew.drew);(·exact(((((hd.setOther b hbw.symm k _).setOther b hbw.symm (k+5) _).setOther b hbw.symm (k+10) _).setOther b hbw.symm (k+15) _).setOther b hbw.symm (k+20) _).drew.drew.drew.drew.drew);·exact Ql (Ql (Ql (Ql (Ql (Qh (Qh (Qh (Qh (Qh hg k _) (k+5) _) (k+10) _) (k+15) _) (k+20) _))))));case measure=>simp[intOf];omega);·(obtain rfl:k=5:=by omega);go_wp2;go_end0;refine⟨rfl,?_,hg⟩;rw[HC.out,HDD.out];exact hst
def JI:List Nat:=[10,7,11,17,18,3,5,16,8,21,24,4,15,23,19,13,12,2,20,14,22,9,6,1]
def Kg:List Nat:=[1,3,6,10,15,21,28,36,45,55,2,14,27,41,56,8,25,43,62,18,39,61,20,44]
def JL:List (BitVec 64):=[0x0000000000000001,0x0000000000008082,0x800000000000808a,0x8000000080008000,0x000000000000808b,0x0000000080000001,0x8000000080008081,0x8000000000008009,0x000000000000008a,0x0000000000000088,0x0000000080008009,0x000000008000000a,0x000000008000808b,0x800000000000008b,0x8000000000008089,0x8000000000008003,0x8000000000008002,0x8000000000000080,0x000000000000800a,0x800000008000000a,0x8000000080008081,0x8000000000008080,0x0000000080000001,0x8000000080008008]
theorem eS(k:Nat)(h:k<24):JI.getD k 0<25:=(by
 decide:∀k:Fin 24,JI.getD k.1 0<25) ⟨k,h⟩
theorem Oz(k:Nat)(h:k<24):Kg.getD k 0<64:=(by
 decide:∀k:Fin 24,Kg.getD k.1 0<64) ⟨k,h⟩
structure YP(w:I):Prop where nums:∀i,i<24->w.cell? ⟨2,i,H⟩=F (tK .u64 (U (JL.getD i 0)))walk:∀i,i<24->w.cell? ⟨3,i,H⟩=F (tK sY ((JI.getD i 0:Nat):Int))turns:∀i,i<24->w.cell? ⟨4,i,H⟩=F (tK sY ((Kg.getD i 0:Nat):Int))
theorem YP.grown{w w':I}{b:Nat}(h:YP w)(hg:J w w' (F b))(hb:5<=b):YP w':=⟨fun i hi=>hg.cell (h.nums i hi) (by
 simp;omega),fun i hi=>hg.cell (h.walk i hi) (by
 simp;omega),fun i hi=>hg.cell (h.turns i hi) (by
 simp;omega)⟩
def J9(st:List (BitVec 64)):Nat->List (BitVec 64)×BitVec 64|0=>(st,st.getD 1 0)|k+1=>((J9 st k).1.set (JI.getD k 0) (xN (J9 st k).2 (Kg.getD k 0)),(J9 st k).1.getD (JI.getD k 0) 0)
theorem aY(w:I)(b:Nat)(hb:5<=b)(st:List (BitVec 64))(h:St w b st)(ht:YP w):rW tA 162 #[.pointer (F ⟨b,0,H⟩)] w fun e w'=>e=sP (pV #[])∧St w' b (J9 st 24).1∧J w w' (F b):=by
 have c1:=h.cell 1 (by omega);go_enter Tryz.func162,Tryz.ntmps162;go_wp2;go_loopw[2,10](fun m i wr=>∃k:Nat,k<=24∧i=tK sY (k:Int)∧m=tK .u64 (U (J9 st k).2)∧St wr b (J9 st k).1∧J w wr (F b))(fun _ i _=>24-(intOf i).toNat);case atStart=>exact⟨0,by omega,rfl,by simp[J9],h,Qb _ _⟩
 case round=>obtain⟨k,hk,rfl,rfl,hst,hg⟩:=hrel;clear c1;by_cases hlt:k<24;(·have hT:=ht.grown hg hb;have hw:=eS k hlt;have hr:=Oz k hlt;have t1:=hT.walk k hlt;have t2:=hT.turns k hlt;have c:=hst.cell (JI.getD k 0) hw;have hf:=hst.frozen;generalize hS:(J9 st k).1=S at*;have HS:Hid ((J9 st k).1=S):=hS;generalize hM:(J9 st k).2=M at*;have HM:Hid ((J9 st k).2=M):=hM;generalize hW:JI.getD k 0=W at*;have HW:Hid (JI.getD k 0=W):=hW;generalize hR:Kg.getD k 0=R at*;have HR:Hid (Kg.getD k 0=R):=hR;clear hS hM hW hR;generalize hX:S.getD W 0=X at*;have HX:Hid (S.getD W 0=X):=hX;clear hX hT ht h;(have i1:(W:Int)<25:=by omega);go_wp2_with fail;go_region_with(go_at_call 164;refine(Ha M (R:Int) (by omega) (by omega) _).mono ?_;rintro e w'⟨rfl,rfl⟩);(all_goals go_wp2);go_roundw;(case rel=>refine⟨k+1,by omega,by go_num,?_,?_,Ql (Qh hg _ _)⟩;(·simp only[J9,HS.out,HW.out,HX.out]);·simp only[J9,HS.out,HM.out,HW.out,HR.out];exact(hst.set W _).drew);case measure=>simp[intOf];omega);·(obtain rfl:k=24:=by omega);go_wp2;go_end0;exact⟨rfl,hst,hg⟩
def Am(st:List (BitVec 64))(n:BitVec 64):List (BitVec 64):=let r:=VT (J9 (jY (cS (Vr st 5)) st 5) 24).1 5;r.set 0 (r.getD 0 0^^^n)
theorem I1(w:I)(b:Nat)(hb:5<=b)(st:List (BitVec 64))(n:BitVec 64)(h:St w b st)(ht:YP w):rW tA 159 #[.pointer (F ⟨b,0,H⟩),tK .u64 (U n)] w fun e w'=>e=sP (pV #[])∧St w' b (Am st n)∧J w w' (F b):=by
 go_enter Tryz.func159,Tryz.ntmps159;go_wp2_with fail;refine(cL _ b st h).mono ?_;rintro e w1⟨rfl,h1,g1⟩;go_wp2_with fail;refine(aY _ b hb _ h1 (ht.grown g1 hb)).mono ?_;rintro e w2⟨rfl,h2,g2⟩;go_wp2_with fail;refine(Ob _ b _ h2).mono ?_;rintro e w3⟨rfl,h3,g3⟩;have g:=Qa g1 (Qa g2 g3);clear g1 g2 g3 h1 h2 h ht;have HR:Hid (Am st n=(VT (J9 (jY (cS (Vr st 5)) st 5) 24).1 5).set 0 ((VT (J9 (jY (cS (Vr st 5)) st 5) 24).1 5).getD 0 0^^^n)):=rfl;generalize VT (J9 (jY (cS (Vr st 5)) st 5) 24).1 5=S at*;have c0:=h3.cell 0 (by omega);have hf:=h3.frozen 0;generalize hx:S.getD 0 0=x at*;clear hx;go_wp2_with fail;go_region;go_wp2_with fail;go_end0;refine⟨rfl,?_,Ql (Qh g 0 _)⟩;rw[HR.out,Zn];exact(h3.set 0 _).drew
def kJ{α:Type}(p:α->Bool):List α->Option Nat|[]=>H|a::l=>if p a=O then F 0 else(kJ p l).map (·+1)
def ZN{α:Type}(p:α->Bool)(l:List α):Int:=match kJ p l with|F i=>(i:Int)|none=>-1
theorem Tl{α:Type}(p:α->Bool)(d:α):∀(l:List α)(m:Nat),m<l.length->(l.take m).any p=V->p (l.getD m d)=O->kJ p l=F m|[],_,h,_,_=>by simp at h|a::l,0,_,_,h=>by have h':p a=O:=h;rw[kJ,if_pos h']|a::l,m+1,h0,h1,h2=>by rw[sG,rS,rO]at h1;rw[kJ,if_neg (by rw[h1.1];decide),Tl p d l m (by simpa using h0) h1.2 (by simpa using h2)];rfl
theorem Fk{α:Type}(p:α->Bool):∀(l:List α),l.any p=V->kJ p l=H|[],_=>rfl|a::l,h=>by rw[rS,rO]at h;rw[kJ,if_neg (by rw[h.1];decide),Fk p l h.2];rfl
theorem qW{α:Type}(p:α->Bool)(d:α)(l:List α)(m:Nat)(h:m<l.length)(h1:(l.take m).any p=V)(h2:p (l.getD m d)=O):ZN p l=(m:Int):=by
 rw[ZN,Tl p d l m h h1 h2]
theorem Uc{α:Type}(p:α->Bool)(l:List α)(h:l.any p=V):ZN p l=-1:=by
 rw[ZN,Fk p l h]
theorem Vj{α:Type}(p:α->Bool)(d:α):∀(l:List α),l.any p=O->∃m,m<l.length∧(l.take m).any p=V∧p (l.getD m d)=O∧ZN p l=(m:Int)|[],h=>by simp at h|a::l,h=>by by_cases ha:p a=O;(·exact⟨0,by simp,by simp,ha,qW p d (a::l) 0 (by simp) (by simp) ha⟩);·(have hf:p a=V:=by simpa using ha);rw[rS,hf,Bool.false_or]at h;obtain⟨m,h1,h2,h3,_⟩:=Vj p d l h;(have e1:m+1<(a::l).length:=by simp;omega);(have e2:((a::l).take (m+1)).any p=V:=by rw[sG,rS,hf,h2];rfl);(have e3:p ((a::l).getD (m+1) d)=O:=by simpa using h3);exact⟨m+1,e1,e2,e3,qW p d _ _ e1 e2 e3⟩
theorem kW{α:Type}(p:α->Bool)(l:List α):(ZN p l==-1)=!(l.any p):=by
 cases h:l.any p with|false=>rw[Uc p l h];rfl|true=>cases l with|nil=>simp at h|cons a l=>obtain⟨m,_,_,_,e⟩:=Vj p a (a::l) h;rw[e];(have:((m:Int)==-1)=V:=by simp);rw[this];rfl
theorem TW{α:Type}(p:α->Bool)(l:List α):tI (0<=ZN p l)=l.any p:=by
 cases h:l.any p with|false=>rw[Uc p l h];rfl|true=>cases l with|nil=>simp at h|cons a l=>obtain⟨m,_,_,_,e⟩:=Vj p a (a::l) h;rw[e];simp
theorem Uh(w:I)(v1 v2:N)(b1 b2:List UInt8)(h1:Qe w v1 b1)(h2:Qe w v2 b2):rW tA 75 #[v1,v2] w fun e w'=>e=sP (pO (tI (b1=b2)))∧w'=w:=by
 have c1:=Yb w v1 b1 h1;have c2:=Yb w v2 b2 h2;go_enter Tryz.func75,Tryz.ntmps75;go_wp2;go_ret;refine⟨?_,rfl⟩;have e:((UU b1).toList==(UU b2).toList)=tI (b1=b2):=by rw[Gj,Gj];by_cases h:b1=b2<;>simp[h]
 rw[<-e];rfl
theorem Pb(p:Ze):Q4 [] [p]=QE p:=by
 have h0:Q8 []=0:=(Yc []).2 VU;rw[Q4,if_pos h0,if_neg (by simp),Xd];by_cases h:QE p=0;·have h2:=Tq VU h WG (by omega);have h3:(Zr [] p).length<=1:=DS [] p;rw[if_neg (by omega)]at h2;rw[if_pos h,if_pos h2,Xd,h]
 ·rw[if_neg h]
def Tc:Prop:=∀(w:I)(a:Option pD)(n cap:Nat),rW tA 53 #[tH a n cap] w fun e w'=>e=sP (tK sY (Qq n))∧J w w' H
theorem YZ:Tc:=by
 intro w a n cap;by_cases h1:1<=n;·by_cases h2:n<=16;(·rw[Qq,if_pos ⟨h1,h2⟩];(have t1:¬(n:Int)<1:=by omega);(have t2:¬(n:Int)>16:=by omega);go_enter pP,pE;go_wp2;go_ret;exact⟨rfl,Qb _ _⟩);·rw[Qq,if_neg (by omega)];(have t1:¬(n:Int)<1:=by omega);(have t2:(n:Int)>16:=by omega);go_enter pP,pE;go_wp2;go_ret;exact⟨rfl,Qb _ _⟩
 ·rw[Qq,if_neg (by omega)];(have t1:(n:Int)<1:=by omega);go_enter pP,pE;go_wp2;go_ret;exact⟨rfl,Qb _ _⟩
def Zq(l:PL)(k:List UInt8):Nat:=(l.takeWhile fun p=>YW p.1 k).length
def GU(l:PL)(k:List UInt8):Bool:=tI (Zq l k<l.length∧(l.getD (Zq l k) ([],[])).1=k)
def XT(l:PL)(k:List UInt8):Nat:=if GU l k=O then Zq l k+1 else Zq l k
theorem yE(l:PL)(k:List UInt8):Zq l k<=l.length:=by
 induction l with|nil=>simp[Zq]|cons p r ih=>unfold Zq at ih⊢;rw[pT];cases h:YW p.1 k with|true=>simpa using ih|false=>simp
theorem O6:∀(l:PL)(k:List UInt8)(i:Nat),i<=l.length->(∀j,j<i->YW (l.getD j ([],[])).1 k=O)->(i<l.length->YW (l.getD i ([],[])).1 k=V)->Zq l k=i|[],k,i,h,_,_=>by(obtain rfl:i=0:=by simpa using h);rfl|p::r,k,0,_,_,h2=>by have:=h2 (by simp);simp only[tX]at this;simp[Zq,this]|p::r,k,i+1,h,h1,h2=>by have h0:=h1 0 (by omega);simp only[tX]at h0;have:=O6 r k i (by simpa using h) (fun j hj=>by simpa using h1 (j+1) (by omega)) (fun hi=>by simpa using h2 (by simpa using hi));unfold Zq at this⊢;rw[tM (p:=fun p:Pr=>YW p.1 k) h0];simpa using this
theorem Mr:∀(l:PL)(k:List UInt8)(j:Nat),j<Zq l k->YW (l.getD j ([],[])).1 k=O|[],k,j,h=>by simp[Zq]at h|p::r,k,j,h=>by cases hk:YW p.1 k with|false=>simp[Zq,hk]at h|true=>cases j with|zero=>simpa using hk|succ j=>unfold Zq at h;rw[tM (p:=fun p:Pr=>YW p.1 k) hk]at h;have:=Mr r k j (by unfold Zq;simpa using h);simpa using this
theorem MO:∀(l:PL)(k:List UInt8),Zq l k<l.length->YW (l.getD (Zq l k) ([],[])).1 k=V|[],k,h=>by simp at h|p::r,k,h=>by cases hk:YW p.1 k with|false=>simp[Zq,hk]|true=>(have e:Zq (p::r) k=Zq r k+1:=by unfold Zq;rw[tM (p:=fun p:Pr=>YW p.1 k) hk];simp);rw[e]at h⊢;have:=MO r k (by simpa using h);simpa using this
theorem uL(l:PL)(k:List UInt8)(hr:UD l)(j:Nat)(hj:j<l.length):YW (l.getD j ([],[])).1 k=tI (j<Zq l k):=by
 by_cases h:j<Zq l k;·rw[decide_eq_true h];exact Mr l k j h
 ·rw[decide_eq_false h];have h0:=MO l k (by omega);by_cases e:j=Zq l k;(·rw[e];exact h0);·cases hk:YW (l.getD j ([],[])).1 k with|false=>rfl|true=>have:=Ko _ _ _ (UV l hr (Zq l k) j (by omega) hj) hk;rw[this]at h0;cases h0
theorem vU{l:PL}{k:List UInt8}(h:GU l k=O):Zq l k<l.length∧(l.getD (Zq l k) ([],[])).1=k:=by
 simpa only[GU,decide_eq_true_eq]using h
theorem yU(l:PL)(k:List UInt8):Zq l k<=XT l k∧XT l k<=l.length∧XT l k<=Zq l k+1:=by
 have:=yE l k;unfold XT;by_cases h:GU l k=O;·rw[if_pos h];have:=(vU h).1;omega
 ·rw[if_neg h];omega
theorem Te(l:PL)(k:List UInt8)(hr:UD l)(j:Nat)(hj:j<l.length)(he:(l.getD j ([],[])).1=k):GU l k=O∧j=Zq l k:=by
 have hp:Zq l k=j:=by refine O6 l k j (by omega) (fun i hi=>?_) (fun _=>?_);(·rw[<-he];exact UV l hr i j hi hj);·rw[he];exact Yd k
 refine⟨?_,hp.symm⟩;rw[GU,hp];exact decide_eq_true ⟨hj,he⟩
theorem dJ(l:PL)(k:List UInt8)(hr:UD l):Ex l k=if GU l k=O then F (l.getD (Zq l k) ([],[])).2 else H:=by
 by_cases h:GU l k=O;·rw[if_pos h];obtain⟨h1,h2⟩:=vU h;refine OS l k _ h1 (fun j hj e=>?_) h2;have:=Mr l k j hj;rw[e,Yd]at this;cases this
 ·rw[if_neg h];exact Cd l k fun j hj e=>h (Te l k hr j hj e).1
theorem Cn(l:PL)(p:Pr):Km l p=l.take (Zq l p.1)++([p]++l.drop (XT l p.1)):=by
 rw[L5 l p (Zq l p.1) (yE l p.1) (fun j hj=>Mr l p.1 j hj) (MO l p.1)];by_cases h:Zq l p.1<l.length∧(l.getD (Zq l p.1) ([],[])).1=p.1;·rw[if_pos h,XT,if_pos (by rw[GU];exact decide_eq_true h),rV,if_pos h.1];rfl
 ·rw[if_neg h,XT,if_neg (by rw[GU];simpa using h)]
theorem Om(l:PL)(p:Pr):(Km l p).length=Zq l p.1+1+(l.length-XT l p.1):=by
 rw[Cn];have h1:=yE l p.1;simp;omega
theorem I6(l:PL)(p:Pr)(hl:l.length<=60):(60<(Km l p).length)↔(Zq l p.1=XT l p.1∧l.length=60):=by
 rw[Om];have:=yU l p.1;omega
theorem CX(l:PL)(f:Pr->Bool)(n:Nat)(hn:n<=l.length)(h1:∀j,j<n->f (l.getD j ([],[]))=V)(h2:∀j,n<=j->j<l.length->f (l.getD j ([],[]))=O):l.filter f=l.drop n:=by
 have e:l=l.take n++l.drop n:=(tE n l).symm;have ha:(l.take n).filter f=[]:=by rw[sJ];intro q hq;obtain⟨j,hj,rfl⟩:=L.1 hq;(have hjn:j<n:=by simp at hj;omega);have:=h1 j hjn;rw[sE];rw[show l[j]'(by omega)=l.getD j ([],[])by simp[show j<l.length by omega],this];simp
 have hb:(l.drop n).filter f=l.drop n:=by rw[tN];intro q hq;obtain⟨j,hj,rfl⟩:=L.1 hq;(have hjn:n+j<l.length:=by simp at hj;omega);rw[sM,show l[n+j]=l.getD (n+j) ([],[])by simp[hjn]];exact h2 _ (by omega) hjn
 conv=>lhs;rw[e]
 rw[sI,ha,hb,pA]
theorem Bb(l:PL)(f:Pr->Bool)(n:Nat)(hn:n<=l.length)(h1:∀j,j<n->f (l.getD j ([],[]))=O)(h2:∀j,n<=j->j<l.length->f (l.getD j ([],[]))=V):l.filter f=l.take n:=by
 have e:l=l.take n++l.drop n:=(tE n l).symm;have hb:(l.drop n).filter f=[]:=by rw[sJ];intro q hq;obtain⟨j,hj,rfl⟩:=L.1 hq;(have hjn:n+j<l.length:=by simp at hj;omega);rw[sM,show l[n+j]=l.getD (n+j) ([],[])by simp[hjn],h2 _ (by omega) hjn];simp
 have ha:(l.take n).filter f=l.take n:=by rw[tN];intro q hq;obtain⟨j,hj,rfl⟩:=L.1 hq;(have hjn:j<n:=by simp at hj;omega);rw[sE,show l[j]'(by omega)=l.getD j ([],[])by simp[show j<l.length by omega]];exact h1 j hjn
 conv=>lhs;rw[e]
 rw[sI,ha,hb,tV]
theorem aA(l:PL)(k:List UInt8)(hr:UD l):kK l k=l.take (Zq l k)++l.drop (XT l k):=by
 by_cases h:GU l k=O;·obtain⟨h1,h2⟩:=vU h;(have e:l=l.take (Zq l k)++(l.getD (Zq l k) ([],[])::l.drop (Zq l k+1)):=by(conv=>lhs;rw[<-tE (Zq l k) l,sD h1]);simp[h1]);have hne:∀j,j<l.length->j≠Zq l k->(l.getD j ([],[])).1≠k:=fun j hj hn e=>hn (Te l k hr j hj e).2;(have ha:(l.take (Zq l k)).filter (fun q=>!(q.1==k))=l.take (Zq l k):=by rw[tN];intro q hq;obtain⟨j,hj,rfl⟩:=L.1 hq;(have hjn:j<Zq l k:=by simp at hj;omega);rw[sE,show l[j]'(by omega)=l.getD j ([],[])by simp[show j<l.length by omega]];simpa using hne j (by omega) (by omega));(have hb:(l.drop (Zq l k+1)).filter (fun q=>!(q.1==k))=l.drop (Zq l k+1):=by rw[tN];intro q hq;obtain⟨j,hj,rfl⟩:=L.1 hq;(have hjn:Zq l k+1+j<l.length:=by simp at hj;omega);rw[sM,show l[Zq l k+1+j]=l.getD (Zq l k+1+j) ([],[])by simp[hjn]];simpa using hne _ hjn (by omega));rw[XT,if_pos h,kK];(conv=>lhs;rw[e]);rw[sI,pF (by simpa using h2),ha,hb]
 ·rw[XT,if_neg h,tE,kK,tN];intro q hq;obtain⟨j,hj,rfl⟩:=L.1 hq;have:=fun e=>h (Te l k hr j hj e).1;rw[show l.getD j ([],[])=l[j]by simp[hj]]at this;simpa using this
theorem Fs(l:PL)(k:List UInt8)(hr:UD l)(j:Nat)(hj:j<l.length):YW k (l.getD j ([],[])).1=tI (XT l k<=j):=by
 have hp:=uL l k hr j hj;have hn:=yU l k;by_cases h1:j<Zq l k;·rw[decide_eq_true h1]at hp;rw[Hy _ _ hp,decide_eq_false (by omega)]
 ·rw[decide_eq_false h1]at hp;by_cases e:(l.getD j ([],[])).1=k;(·obtain⟨h2,h3⟩:=Te l k hr j hj e;rw[e,Yd,XT,if_pos h2,decide_eq_false (by omega)]);·rw[UN _ _ hp e];by_cases h:GU l k=O;(·rw[XT,if_pos h,decide_eq_true (by by_cases hjp:j=Zq l k;(·exact absurd (by rw[hjp];exact(vU h).2) e);·omega)]);·rw[XT,if_neg h,decide_eq_true (by omega)]
theorem An(l:PL)(f t:List UInt8)(hr:UD l):Vq l f t=(l.take (max (Zq l f) (XT l t))).drop (Zq l f):=by
 have h1:=yE l f;have h2:=yU l t;have e:Vq l f t=(l.filter fun q=>!YW t q.1).filter fun q=>!YW q.1 f:=by rw[Vq,List.filter_filter]
 rw[e,Bb l _ (XT l t) h2.2.1 (fun j hj=>by rw[Fs l t hr j (by omega),decide_eq_false (by omega)];rfl) (fun j hj hjl=>by rw[Fs l t hr j hjl,decide_eq_true hj];rfl)];have hd:∀(n:Nat),n<=l.length->(l.take n).filter (fun q=>!YW q.1 f)=(l.take n).drop (Zq l f):=by intro n hn;by_cases hc:Zq l f<=n;(·refine CX _ _ _ (by simp;omega) (fun j hj=>?_) (fun j hj hjl=>?_);(·(have:(l.take n).getD j ([],[])=l.getD j ([],[]):=by simp[show j<n by omega]);rw[this,uL l f hr j (by omega),decide_eq_true hj];rfl);·(have hjn:j<n:=by simp at hjl;omega);(have:(l.take n).getD j ([],[])=l.getD j ([],[]):=by simp[hjn]);rw[this,uL l f hr j (by omega),decide_eq_false (by omega)];rfl);·rw[tW (by simp;omega),sJ];intro q hq;obtain⟨j,hj,rfl⟩:=L.1 hq;(have hjn:j<n:=by simp at hj;omega);rw[sE,show l[j]'(by omega)=l.getD j ([],[])by simp[show j<l.length by omega],uL l f hr j (by omega),decide_eq_true (by omega)];simp
 rw[hd _ h2.2.1];by_cases hc:Zq l f<=XT l t;·rw[Nat.max_eq_right hc]
 ·rw[Nat.max_eq_left (by omega),tW (by simp;omega),tW (by simp;omega)]
theorem Me:∀(t:FL)(p:Tn)(k:Nat),k<=t.length->(∀j,j<k->YW (t.getD j ([],[])).1 p.1=O)->(k<t.length->YW (t.getD k ([],[])).1 p.1=V)->JB t p=if k<t.length∧(t.getD k ([],[])).1=p.1then t.set k p else t.take k++([p]++t.drop k)|[],p,k,hk,_,_=>by(obtain rfl:k=0:=by simpa using hk);simp[JB]|q::r,p,0,_,_,h2=>by have h:=h2 (by simp);simp only[tX]at h;rw[JB,if_neg (by rw[h];simp)];by_cases e:q.1=p.1;(·rw[if_pos e,if_pos ⟨by simp,by simpa using e⟩];simp);·rw[if_neg e,if_neg (fun h=>e (by simpa using h.2))];simp|q::r,p,k+1,hk,h1,h2=>by have h:=h1 0 (by omega);simp only[tX]at h;rw[JB,if_pos h,Me r p k (by simpa using hk) (fun j hj=>by simpa using h1 (j+1) (by omega)) (fun hk=>by simpa using h2 (by simpa using hk))];by_cases e:k<r.length∧(r.getD k ([],[])).1=p.1;(·rw[if_pos e,if_pos ⟨by simpa using e.1,by simpa using e.2⟩];simp);·rw[if_neg e,if_neg (fun h=>e ⟨by simpa using h.1,by simpa using h.2⟩)];simp
def QA(l:FL)(k:List UInt8):Nat:=(l.takeWhile fun p=>YW p.1 k).length
def Ke(l:FL)(k:List UInt8):Bool:=tI (QA l k<l.length∧(l.getD (QA l k) ([],[])).1=k)
def QO(l:FL)(k:List UInt8):Nat:=if Ke l k=O then QA l k+1 else QA l k
theorem vB(l:FL)(k:List UInt8):QA l k<=l.length:=by
 induction l with|nil=>simp[QA]|cons p r ih=>unfold QA at ih⊢;rw[pT];cases h:YW p.1 k with|true=>simpa using ih|false=>simp
theorem DO:∀(l:FL)(k:List UInt8)(i:Nat),i<=l.length->(∀j,j<i->YW (l.getD j ([],[])).1 k=O)->(i<l.length->YW (l.getD i ([],[])).1 k=V)->QA l k=i|[],k,i,h,_,_=>by(obtain rfl:i=0:=by simpa using h);rfl|p::r,k,0,_,_,h2=>by have:=h2 (by simp);simp only[tX]at this;simp[QA,this]|p::r,k,i+1,h,h1,h2=>by have h0:=h1 0 (by omega);simp only[tX]at h0;have:=DO r k i (by simpa using h) (fun j hj=>by simpa using h1 (j+1) (by omega)) (fun hi=>by simpa using h2 (by simpa using hi));unfold QA at this⊢;rw[tM (p:=fun p:Tn=>YW p.1 k) h0];simpa using this
theorem u7:∀(l:FL)(k:List UInt8)(j:Nat),j<QA l k->YW (l.getD j ([],[])).1 k=O|[],k,j,h=>by simp[QA]at h|p::r,k,j,h=>by cases hk:YW p.1 k with|false=>simp[QA,hk]at h|true=>cases j with|zero=>simpa using hk|succ j=>unfold QA at h;rw[tM (p:=fun p:Tn=>YW p.1 k) hk]at h;have:=u7 r k j (by unfold QA;simpa using h);simpa using this
theorem PQ:∀(l:FL)(k:List UInt8),QA l k<l.length->YW (l.getD (QA l k) ([],[])).1 k=V|[],k,h=>by simp at h|p::r,k,h=>by cases hk:YW p.1 k with|false=>simp[QA,hk]|true=>(have e:QA (p::r) k=QA r k+1:=by unfold QA;rw[tM (p:=fun p:Tn=>YW p.1 k) hk];simp);rw[e]at h⊢;have:=PQ r k (by simpa using h);simpa using this
theorem Wx(l:FL)(k:List UInt8)(hr:YM l)(j:Nat)(hj:j<l.length):YW (l.getD j ([],[])).1 k=tI (j<QA l k):=by
 by_cases h:j<QA l k;·rw[decide_eq_true h];exact u7 l k j h
 ·rw[decide_eq_false h];have h0:=PQ l k (by omega);by_cases e:j=QA l k;(·rw[e];exact h0);·cases hk:YW (l.getD j ([],[])).1 k with|false=>rfl|true=>have:=Ko _ _ _ (zB l hr (QA l k) j (by omega) hj) hk;rw[this]at h0;cases h0
theorem jA{l:FL}{k:List UInt8}(h:Ke l k=O):QA l k<l.length∧(l.getD (QA l k) ([],[])).1=k:=by
 simpa only[Ke,decide_eq_true_eq]using h
theorem Px(l:FL)(k:List UInt8):QA l k<=QO l k∧QO l k<=l.length∧QO l k<=QA l k+1:=by
 have:=vB l k;unfold QO;by_cases h:Ke l k=O;·rw[if_pos h];have:=(jA h).1;omega
 ·rw[if_neg h];omega
theorem Fa(l:FL)(k:List UInt8)(hr:YM l)(j:Nat)(hj:j<l.length)(he:(l.getD j ([],[])).1=k):Ke l k=O∧j=QA l k:=by
 have hp:QA l k=j:=by refine DO l k j (by omega) (fun i hi=>?_) (fun _=>?_);(·rw[<-he];exact zB l hr i j hi hj);·rw[he];exact Yd k
 refine⟨?_,hp.symm⟩;rw[Ke,hp];exact decide_eq_true ⟨hj,he⟩
theorem Wy(l:FL)(k:List UInt8)(hr:YM l):xL l k=if Ke l k=O then F (l.getD (QA l k) ([],[])).2 else H:=by
 by_cases h:Ke l k=O;·rw[if_pos h];obtain⟨h1,h2⟩:=jA h;refine Bj l k _ h1 (fun j hj e=>?_) h2;have:=u7 l k j hj;rw[e,Yd]at this;cases this
 ·rw[if_neg h];exact Ri l k fun j hj e=>h (Fa l k hr j hj e).1
theorem R9(l:FL)(p:Tn):JB l p=l.take (QA l p.1)++([p]++l.drop (QO l p.1)):=by
 rw[Me l p (QA l p.1) (vB l p.1) (fun j hj=>u7 l p.1 j hj) (PQ l p.1)];by_cases h:QA l p.1<l.length∧(l.getD (QA l p.1) ([],[])).1=p.1;·rw[if_pos h,QO,if_pos (by rw[Ke];exact decide_eq_true h),rV,if_pos h.1];rfl
 ·rw[if_neg h,QO,if_neg (by rw[Ke];simpa using h)]
theorem S8(l:FL)(p:Tn):(JB l p).length=QA l p.1+1+(l.length-QO l p.1):=by
 rw[R9];have h1:=vB l p.1;simp;omega
theorem T7(l:FL)(p:Tn)(hl:l.length<=8):(8<(JB l p).length)↔(QA l p.1=QO l p.1∧l.length=8):=by
 rw[S8];have:=Px l p.1;omega
theorem AI(l:FL)(k:List UInt8)(hr:YM l):kR l k=l.take (QA l k)++l.drop (QO l k):=by
 by_cases h:Ke l k=O;·obtain⟨h1,h2⟩:=jA h;(have e:l=l.take (QA l k)++(l.getD (QA l k) ([],[])::l.drop (QA l k+1)):=by(conv=>lhs;rw[<-tE (QA l k) l,sD h1]);simp[h1]);have hne:∀j,j<l.length->j≠QA l k->(l.getD j ([],[])).1≠k:=fun j hj hn e=>hn (Fa l k hr j hj e).2;(have ha:(l.take (QA l k)).filter (fun q=>!(q.1==k))=l.take (QA l k):=by rw[tN];intro q hq;obtain⟨j,hj,rfl⟩:=L.1 hq;(have hjn:j<QA l k:=by simp at hj;omega);rw[sE,show l[j]'(by omega)=l.getD j ([],[])by simp[show j<l.length by omega]];simpa using hne j (by omega) (by omega));(have hb:(l.drop (QA l k+1)).filter (fun q=>!(q.1==k))=l.drop (QA l k+1):=by rw[tN];intro q hq;obtain⟨j,hj,rfl⟩:=L.1 hq;(have hjn:QA l k+1+j<l.length:=by simp at hj;omega);rw[sM,show l[QA l k+1+j]=l.getD (QA l k+1+j) ([],[])by simp[hjn]];simpa using hne _ hjn (by omega));rw[QO,if_pos h,kR];(conv=>lhs;rw[e]);rw[sI,pF (by simpa using h2),ha,hb]
 ·rw[QO,if_neg h,tE,kR,tN];intro q hq;obtain⟨j,hj,rfl⟩:=L.1 hq;have:=fun e=>h (Fa l k hr j hj e).1;rw[show l.getD j ([],[])=l[j]by simp[hj]]at this;simpa using this
theorem iA(l:FL)(k:List UInt8)(hr:YM l):Jr l k=if Ke l k=O then(l.getD (QA l k) ([],[])).2 else[]:=by
 unfold Jr;rw[Wy l k hr];by_cases h:Ke l k=O;·rw[if_pos h,if_pos h];rfl
 ·rw[if_neg h,if_neg h];rfl
theorem Ce(l:FL)(k:List UInt8)(hr:YM l):((l.take (QO l k)).drop (QA l k)=[]∧Jr l k=[]∧QO l k=QA l k)∨(∃t,(l.take (QO l k)).drop (QA l k)=[t]∧Jr l k=t.2∧QO l k=QA l k+1):=by
 rw[iA l k hr];by_cases h:Ke l k=O;·right;obtain⟨h1,h2⟩:=jA h;refine⟨l.getD (QA l k) ([],[]),?_,by rw[if_pos h],by rw[QO,if_pos h]⟩;rw[QO,if_pos h,List.take_succ_eq_append_getElem h1,r8 (by simp;omega),tW (by simp;omega),pA];simp[h1]
 ·left;refine⟨?_,by rw[if_neg h],by rw[QO,if_neg h]⟩;rw[QO,if_neg h,tW (by simp;omega)]
def dU:Prop:=∀(w:I)(a:Option pD)(n cap:Nat),rW tA 52 #[tH a n cap] w fun e w'=>e=sP (tK sY (Qt n))∧J w w' H
def He:Prop:=∀(w:I)(v:N)(r:Rq),UL w->Xu w v r->yN r->rW tA 32 #[v] w fun e w'=>e=sP (tK sY (Yn r))∧J w w' H
end Go.Proofs.YteohkbehnmjliaaGreatDoor
