/-
  Texts of this proof, joined, with few blanks: Base, LineF, SlM, PartM, Keys, PlaceM, Trees, TreeF, FitsF, ForestF, RdF, WrM0, TapeF, TapeG, KTree, KPure, ForestK, ForestE, WireF, WireG, LineG, RqMem, RqBox, RqEn, RdM0, ProofM, Sides, ForkF, Bits, Lanes, Cols, Move, Round, IdxF, EqB, ApplyOne, CheckC, CheckP, PosF, FPosF, FCName, RqCk.
-/
import Derived.WalkKit
import Derived.WalkSpells
import Derived.WalkLawsBesides
import Derived.BigRegion
import Derived.Deep.QuietTactic
import Derived.BigQuiet
import Derived.Deep.RegionHeld3
import Derived.Deep.DeepCutAuto
import Derived.Lib.Strings
import Derived.Test.YtpimcmbjdcjmlaaGreatDoorChecked
set_option maxRecDepth 100000
set_option maxHeartbeats 8000000
open Array renaming getElem?_eq_some_iff->tM,getElem?_modify->tS,ext->oK
open BitVec renaming ofInt->sD,ofInt_natCast->pN
open Bool renaming true->L,false->tA,or_eq_false_iff->rS,and_eq_true->pZ,or_eq_true->oE
open Classical renaming byContradiction->sO
open Decidable renaming decide->tI
open Go renaming World->I,Value->O,TypeId->sY,heap_alloc_new->rM,Calls->rY,Addr->pG,maxLen->oM,info_parts->oN
open Go.Ending renaming returned->sQ
open Go.IntKind renaming i64->rA,u64->rG,u8->rI,wrap_u64->rW
open Go.Obj renaming cells->tJ
open Go.Op renaming bytesLess->sI
open Go.Proofs.Tryz renaming prog->tB,underlying25->sM,ntmps21->pI,func21->pR
open Go.Value renaming slice->tH,int->tL,agg->pP,bool->pQ,tuple->pX,ownBlock->oD
open Go.Value.slice renaming injEq->rD
open Go.World renaming grownBy->J,setCell->tG,cell?->sB,frozen?->sX,grownBy_alloc->rT
open Int renaming toNat_natCast->rK,le_refl->oL
open List renaming mem_iff_getElem->N,length_append->T,eq_nil_of_length_eq_zero->V,append_assoc->tC,take_append_drop->tE,mem_cons->tK,takeWhile_cons_of_pos->tN,filter_eq_self->tP,pairwise_cons->tQ,append_nil->tW,drop_eq_nil_of_le->tX,getD_cons_zero->tY,getElem_mem->tZ,mem_cons_of_mem->sA,drop_eq_getElem_cons->sF,getElem_take->sG,take_succ_cons->sH,filter_append->sJ,filter_eq_nil_iff->sK,getElem_drop->sN,pairwise_singleton->sR,filter_cons_of_neg->sS,getElem?_map->sV,length_filter_le->sZ,flatMap_cons->rJ,getElem?_eq_getElem->rN,take_left'->rO,drop_left'->rP,any_cons->rU,mem_cons_self->rV,set_eq_take_append_cons_drop->rX,length_cons->r7,mem_filter->r8,take_append_of_le_length->pA,drop_append_of_le_length->pB,nil_append->pC,getElem?_eq_some_iff->pD,pairwise_iff_getElem->pE,mem_of_find?_eq_some->pF,filter_cons_of_pos->pH,take_of_length_le->pJ,find?_cons_of_pos->pL,find?_cons_of_neg->pM,drop_succ_cons->pT,takeWhile_cons->pV,getElem?_take->pW,length_drop->oC,map_cons->oG,take_nil->oH
open List.Pairwise renaming cons->tV,filter->sU,nil->rB
open Nat renaming lt_of_lt_of_le->tU,le_refl->sC,testBit_lt_two_pow->sW,pow_le_pow_right->rC,le_trans->rF,testBit_div_two_pow->pK,div_div_eq_div_mul->pO,eq_of_testBit_eq->pS,min_eq_left->oF,sub_self->oI,mul_one->oJ
open Option renaming some->F,none->H,map_some->sP
open Option.some renaming injEq->tR,inj->rH
open Prod.mk renaming injEq->sE
open UInt8 renaming ofNat->tD,lt_iff_toNat_lt->sL,toNat_ofNat'->pU,toNat_inj->pY
namespace Go.Proofs.YtpimcmbjdcjmlaaGreatDoor
open Go.RowKit
section
theorem Qb(w:I)(r:Option Nat):J w w r:=⟨rfl,rfl,rfl,sC _,fun _ _ _=>rfl⟩
theorem Qa{w w1 w2:I}{r:Option Nat}(h:J w w1 r)(k:J w1 w2 r):J w w2 r:=⟨k.os.trans h.os,k.tape.trans h.tape,k.output.trans h.output,rF h.size k.size,fun i hi hn=>(k.block i (tU hi h.size) hn).trans (h.block i hi hn)⟩
theorem Ql{w w1:I}{r:Option Nat}(h:J w w1 r):J w w1.drew r:=⟨h.os,h.tape,h.output,h.size,h.block⟩
theorem Qr{w w1:I}{r:Option Nat}(h:J w w1 r)(n:Nat):J w (w1.drewN n) r:=⟨h.os,h.tape,h.output,h.size,h.block⟩
theorem Qg{w w1:I}{b:Nat}(h:J w w1 (F b))(i:Nat)(v:O):J w (tG w1 ⟨b,i,H⟩ v) (F b):=Qa h ⟨rfl,rfl,rfl,by
 simp[tG],fun k _ hn=>Below.heap_setCell _ _ _ _ (by
 intro e;exact hn (by rw[e]))⟩
theorem Qx{w w1:I}{r:Option Nat}(h:J w w1 r)(o:Obj):J w (w1.alloc o) r:=Qa h (rT _ _ _)
theorem Jz{w w1 w2:I}{r:Option Nat}{c:Nat}(h:J w w1 r)(hc:w.heap.size<=c)(k:J w1 w2 (F c)):J w w2 r:=⟨k.os.trans h.os,k.tape.trans h.tape,k.output.trans h.output,rF h.size k.size,fun i hi hn=>(k.block i (tU hi h.size) (by
 simp;omega)).trans (h.block i hi hn)⟩
theorem Qc{w w1:I}{r:Option Nat}(h:J w w1 r)(c:Nat)(hc:w.heap.size<=c)(i:Nat)(v:O):J w (tG w1 ⟨c,i,H⟩ v) r:=Jz h hc (Qg (Qb _ _) i v)
theorem ZX(b o n:Nat):(⟨b,o,H⟩:pG).add n=⟨b,o+n,H⟩:=by
 unfold Addr.add;split;·simp_all
 ·rfl
theorem cO(w:I):(sizeOf (tB.elem 25)).run tB w=.ok 1 w:=by
 kernel_rfl
theorem dG(W:I)(pb o len cap:Nat)(l:Int)(n:Nat)(hn:l=(n:Int))(h1:n<=len)(hc:n<cap):(Instr.slice 25 (tH (F ⟨pb,o,H⟩) len cap) (F (tL rA l)) H H).run tB W=.ok (tH (F ⟨pb,o+n,H⟩) (len-n) (cap-n)) W:=by
 subst hn;rw[run_slice_l _ _ _ _ _ (by kernel_rfl) _ _ (by omega) (by omega),cO];simp only[Result.andThen,sliced,rK,sP,oJ,ZX];rw[if_neg (by omega)]
theorem Lo(W:I)(pb o len cap:Nat)(l:Int)(n:Nat)(hn:l=(n:Int))(hc:n<=cap)(h0:0<cap):(Instr.slice 25 (tH (F ⟨pb,o,H⟩) len cap) H (F (tL rA l)) H).run tB W=.ok (tH (F ⟨pb,o,H⟩) n cap) W:=by
 subst hn;rw[run_slice_h _ _ _ _ _ (by kernel_rfl) _ _ (by omega) (by omega),cO];simp only[Result.andThen,sliced,rK,sP,oJ,ZX];rw[if_neg (by omega)];simp
def KI(w:I)(pb o:Nat)(bs:List UInt8):Prop:=∀i,i<bs.length->w.cell? ⟨pb,o+i,H⟩=F (tL rI ((bs.getD i 0).toNat:Int))
theorem KI.drew{w:I}{pb o:Nat}{bs:List UInt8}(h:KI w pb o bs):KI w.drew pb o bs:=h
theorem KI.grown{w w':I}{pb o:Nat}{bs:List UInt8}{r:Option Nat}(h:KI w pb o bs)(hg:J w w' r)(hr:F pb≠r):KI w' pb o bs:=fun i hi=>hg.cell (h i hi) hr
def Z4(bs:List UInt8):Array O:=(bs.map fun c=>tL rI (c.toNat:Int)).toArray
def ZJ(w:I)(b:Nat)(bs:List UInt8):Prop:=∃t,w.heap[b]?=F (tJ (Z4 bs) t (0,0))
section
variable{w:I}{b:Nat}{bs:List UInt8}
theorem ZJ.cell(h:ZJ w b bs)(i:Nat)(hi:i<bs.length):w.cell? ⟨b,i,H⟩=F (tL rI ((bs.getD i 0).toNat:Int)):=by
 obtain⟨t,hb⟩:=h;simp[sB,hb,Z4,sV,rN hi]
theorem ZJ.frozen(h:ZJ w b bs)(i:Nat):w.frozen? ⟨b,i,H⟩=tA:=by
 obtain⟨t,hb⟩:=h;simp[sX,hb]
theorem ZJ.lt(h:ZJ w b bs):b<w.heap.size:=by
 obtain⟨t,hb⟩:=h;exact(tM.1 hb).1
theorem By(bs:List UInt8)(i:Nat)(x:UInt8):(Z4 bs).setIfInBounds i (tL rI (x.toNat:Int))=Z4 (bs.set i x):=by
 simp[Z4]
theorem ZJ.set(h:ZJ w b bs)(i:Nat)(x:UInt8):ZJ (tG w ⟨b,i,H⟩ (tL rI (x.toNat:Int))) b (bs.set i x):=by
 obtain⟨t,hb⟩:=h;refine⟨t,?_⟩;simp only[tG,tS,if_true,hb,sP];simp[By]
theorem ZJ.drewN(h:ZJ w b bs)(k:Nat):ZJ (w.drewN k) b bs:=h
theorem ZJ.drew(h:ZJ w b bs):ZJ w.drew b bs:=h
theorem ZJ.alloc(h:ZJ w b bs)(o:Obj):ZJ (w.alloc o) b bs:=by
 have hl:=h.lt;obtain⟨t,hb⟩:=h;exact⟨t,by rw[Below.heap_alloc _ _ _ hl];exact hb⟩
theorem ZJ.grown(h:ZJ w b bs){w':I}{r:Option Nat}(hg:J w w' r)(hr:F b≠r):ZJ w' b bs:=by
 have hl:=h.lt;obtain⟨t,hb⟩:=h;exact⟨t,by rw[hg.block b hl hr];exact hb⟩
theorem ZJ.new(w:I)(t:sY)(bs:List UInt8):ZJ (w.alloc (tJ (Z4 bs) t)) w.heap.size bs:=⟨t,rM w _⟩
theorem ZJ.at(h:ZJ w b bs)(o:Nat)(cs:List UInt8)(hc:∀i,i<cs.length->o+i<bs.length∧bs.getD (o+i) 0=cs.getD i 0):KI w b o cs:=by
 intro i hi;rw[h.cell (o+i) (hc i hi).1,(hc i hi).2]
end
def Qe(w:I)(v:O)(bs:List UInt8):Prop:=∃a cap,v=tH a bs.length cap∧bs.length<=cap∧((bs=[]∧(a=H->cap=0))∨∃b o,a=F ⟨b,o,H⟩∧KI w b o bs)
theorem Qe.grown{w w':I}{v:O}{bs:List UInt8}(h:Qe w v bs)(hg:J w w' H):Qe w' v bs:=by
 obtain⟨a,cap,rfl,hc,h⟩:=h;refine⟨a,cap,rfl,hc,?_⟩;rcases h with h|⟨b,o,rfl,h⟩;·exact .inl h
 ·exact .inr ⟨b,o,rfl,h.grown hg (by simp)⟩
theorem Qe.alloc{w:I}{v:O}{bs:List UInt8}(h:Qe w v bs)(o:Obj):Qe (w.alloc o) v bs:=h.grown (rT _ _ _)
theorem Qe.drew{w:I}{v:O}{bs:List UInt8}(h:Qe w v bs):Qe w.drew v bs:=h
theorem Qe.drewN{w:I}{v:O}{bs:List UInt8}(h:Qe w v bs)(n:Nat):Qe (w.drewN n) v bs:=h
theorem ZJ.slice{w:I}{b:Nat}{bs:List UInt8}(h:ZJ w b bs)(cap:Nat)(hc:bs.length<=cap):Qe w (tH (F ⟨b,0,H⟩) bs.length cap) bs:=⟨_,cap,rfl,hc,.inr ⟨b,0,rfl,h.at 0 bs fun i hi=>by
 simpa using hi⟩⟩
theorem QG(w:I):Qe w (tH H 0 0) []:=⟨H,0,rfl,sC _,.inl ⟨rfl,fun _=>rfl⟩⟩
def Uf(n:Nat):List UInt8:=List.replicate n 0
theorem No(n:Nat):(Uf n).length=n:=by
 simp[Uf]
theorem Sz(n:Nat):madeCells (tL rI 0).cells (n*1)=Z4 (Uf n):=by
 apply oK;·simp[size_madeCells,Z4,Uf]
 ·intro i h1 h2;simp[madeCells,Z4,Uf,Value.cells,Nat.mod_one]
theorem iA:(tB.info? 5).map (fun i=>(i.zero,i.size,i.bytes))=F (F (tL rI 0),1,1):=by
 kernel_rfl
theorem gV:(tB.info? 5).map (·.size)=F 1:=by
 kernel_rfl
theorem So(W:I)(c:Int)(n:Nat)(hc:c=(n:Int))(hn:n<=1000000):(Instr.makeSlice 25 (tL rA c) (tL rA c)).run tB W=.ok (tH (F ⟨W.heap.size,0,H⟩) n n) (W.alloc (tJ (Z4 (Uf n)) 5)):=by
 subst hc;obtain⟨i0,hi,hz0,hz1,hz2⟩:=oN iA;have h:=run_make (P:=tB) W 25 5 i0 (tL rI 0) sM hi hz0 rA rA (n:Int) (n:Int) (by omega) (oL _) (by rw[hz2];omega) (by omega);rw[h,hz1,rK,Sz]
theorem kC(bs:List UInt8):∀v∈(bs.map fun c=>tL rI (c.toNat:Int)),v.oneCell'=L:=by
 intro v hv;obtain⟨c,_,rfl⟩:=List.mem_map.1 hv;rfl
theorem Mx(w:I)(X Y:Array O)(t:sY):(w.alloc (tJ X t)).setRow w.heap.size Y=w.alloc (tJ Y t):=by
 simp only[World.setRow,World.alloc];congr 1;apply oK;·simp
 ·intro i h1 h2;simp only[Array.getElem_modify,Array.getElem_push];(have hi:i<w.heap.size+1:=by simpa using h2);split<;>split<;>first|rfl|omega|(exfalso;omega)|simp_all
theorem S7(w:I)(a:Option pG)(bs:List UInt8)(cap n m ty:Nat)(hn:bs.length<=n)(hs:Qe w (tH a bs.length cap) bs):(Builtin.copy_ #[25,25] ty #[tH (F ⟨w.heap.size,0,H⟩) n m,tH a bs.length cap]).run tB (w.alloc (tJ (Z4 (Uf n)) 5))=.ok (tL rA (bs.length:Int)) (w.alloc (tJ (Z4 (bs++Uf (n-bs.length))) 5)):=by
 obtain⟨a',cap',e,hc,h⟩:=hs.alloc (tJ (Z4 (Uf n)) 5);simp only[rD,true_and]at e;obtain⟨rfl,rfl⟩:=e;by_cases h0:bs=[];·subst h0;have:=run_copy_none (P:=tB) (w.alloc (tJ (Z4 (Uf n)) 5)) 25 25 ty 5 (F ⟨w.heap.size,0,H⟩) a n m 0 cap sM gV (by simp);simpa[goInt]using this
 ·rcases h with h|⟨b,o,rfl,h⟩;(·exact absurd h.1 h0);·have:=run_copy_row (P:=tB) (w.alloc (tJ (Z4 (Uf n)) 5)) 25 25 ty 5 w.heap.size 0 n m ⟨b,o,H⟩ bs.length cap (Z4 (Uf n)) 5 (bs.map fun c=>tL rI (c.toNat:Int)) sM gV (rM w _) (by simp only[List.length_map];exact(oF hn).symm) (by intro j v hj;rw[sV]at hj;cases hb:bs[j]?with|none=>rw[hb]at hj;simp at hj|some c=>rw[hb]at hj;simp at hj;subst hj;rw[ZX];have hlt:j<bs.length:=(pD.1 hb).1;rw[h j hlt];simp[hb]) (by simp[Z4,Uf];exact hn) (kC bs);rw[this,Mx];simp[goInt,Z4,Uf]
def VK(bs:List UInt8):List O:=bs.map fun c=>tL rI (c.toNat:Int)
theorem bH(bs:List UInt8):(VK bs).length=bs.length:=by
 simp[VK]
theorem Dt(a b:List UInt8):VK (a++b)=VK a++VK b:=by
 simp[VK]
theorem Bp(bs:List UInt8)(j:Nat)(u:O)(h:(VK bs)[j]?=F u):j<bs.length∧u=tL rI ((bs.getD j 0).toNat:Int):=by
 rw[VK,sV]at h;cases hb:bs[j]?with|none=>rw[hb]at h;simp at h|some c=>rw[hb]at h;simp at h;exact⟨(pD.1 hb).1,by simp[hb,<-h]⟩
def Q7(base:Nat)(w:I)(v:O)(bs:List UInt8):Prop:=w.ownsRow base 5 1 v bs.length (VK bs)
theorem QQ(base:Nat)(w:I):Q7 base w (tH H 0 0) []:=World.ownsRow_nil _ _ _ _
theorem Q7.grown{base:Nat}{w w':I}{v:O}{bs:List UInt8}(h:Q7 base w v bs){row:Option Nat}(hg:J w w' row)(hne:v.ownBlock=H∨v.ownBlock≠row):Q7 base w' v bs:=World.ownsRow.kept h hg hne
theorem Q7.grownNone{base:Nat}{w w':I}{v:O}{bs:List UInt8}(h:Q7 base w v bs)(hg:J w w' H):Q7 base w' v bs:=by
 refine h.grown hg ?_;cases hv:v.ownBlock with|none=>exact .inl rfl|some k=>exact .inr (by simp)
theorem Q7.alloc{base:Nat}{w:I}{v:O}{bs:List UInt8}(h:Q7 base w v bs)(o:Obj):Q7 base (w.alloc o) v bs:=World.ownsRow.alloc h o
theorem Q7.slice{base:Nat}{w:I}{v:O}{bs:List UInt8}(h:Q7 base w v bs):Qe w v bs:=by
 obtain⟨h1,h2⟩:=h;rcases h2 with⟨rfl,h0⟩|⟨g,cap,cur,rfl,hb,hg,hn,hm,hs,ht⟩;·obtain rfl:=V h0;exact QG w
 ·refine⟨_,cap,rfl,hn,.inr ⟨g,0,rfl,?_⟩⟩;intro i hi;(have hc:cur.toList[i]?=F (tL rI ((bs.getD i 0).toNat:Int)):=by(have e:(cur.toList.take (bs.length*1))[i]?=(VK bs)[i]?:=by rw[ht]);rw[pW,if_pos (by omega)]at e;rw[e,VK,sV,rN hi];simp[hi]);simp[sB,hg];simpa using hc
theorem Q7.lt{base:Nat}{w:I}{v:O}{bs:List UInt8}(h:Q7 base w v bs):∀k,v.ownBlock=F k->base<=k∧k<w.heap.size:=World.ownsRow.lt h
theorem Q7.shape{base:Nat}{w:I}{v:O}{bs:List UInt8}(h:Q7 base w v bs):∃a cap,v=tH a bs.length cap:=by
 obtain⟨a,cap,e,_⟩:=h.slice;exact⟨a,cap,e⟩
theorem Te(base:Nat)(w:I)(bs:List UInt8)(hb:base<=w.heap.size)(hm:bs.length<=oM):Q7 base (w.alloc (tJ (Z4 bs) 5)) (tH (F ⟨w.heap.size,0,H⟩) bs.length bs.length) bs:=⟨by
 simp[VK],.inr ⟨w.heap.size,bs.length,Z4 bs,rfl,hb,rM w _,sC _,hm,by
 simp[Z4],by
 simp[Z4,VK,pJ]⟩⟩
theorem Xn{w W w1:I}{v:O}{bs:List UInt8}(h:J w W H)(ho:Q7 w.heap.size W v bs)(hg:J W w1 v.ownBlock):J w w1 H:=⟨hg.os.trans h.os,hg.tape.trans h.tape,hg.output.trans h.output,rF h.size hg.size,fun i hi hn=>(hg.block i (tU hi h.size) (fun e=>by
 have:=(ho.lt i e.symm).1;omega)).trans (h.block i hi hn)⟩
theorem MH(w:I)(base ty:Nat)(v:O)(bs:List UInt8)(hown:Q7 base w v bs)(a:Option pG)(m cap:Nat)(cs:List UInt8)(hs:Qe w (tH a m cap) cs)(hbytes:bs.length+m<=140737488355328)(hbase:base<=w.heap.size):∃v' w',(Builtin.append_ #[25,25] ty #[v,tH a m cap]).run tB w=.ok v' w'∧Q7 base w' v' (bs++cs)∧J w w' v.ownBlock:=by
 obtain⟨i0,hi,hz0,hz1,hz2⟩:=oN iA;obtain⟨a',cap',e,hc,h⟩:=hs;simp only[rD]at e;obtain⟨rfl,rfl,rfl⟩:=e;have h63:bs.length+cs.length<=oM:=by unfold oM;omega
 have key:∀ad:pG,(∀j u,(VK cs)[j]?=F u->w.cell? (ad.add j)=F u)->∃v' w',(Builtin.append_ #[25,25] ty #[v,tH (F ad) cs.length cap]).run tB w=.ok v' w'∧Q7 base w' v' (bs++cs)∧J w w' v.ownBlock:=by intro ad hnews;obtain⟨v',w',hr,ho,hg,_⟩:=run_append_own (P:=tB) w base 25 ty 5 i0 (tL rI 0) 1 1 sM hi hz0 hz1 hz2 rfl (by decide) v bs.length (VK bs) hown ad cs.length cap (VK cs) (by simp[VK]) hnews (kC cs) h63 (by omega) hbase;refine⟨v',w',hr,?_,hg⟩;unfold Q7;rw[Dt,T];exact ho
 rcases h with⟨rfl,hz⟩|⟨b,o,rfl,h⟩;·cases a with|none=>obtain rfl:=hz rfl;refine⟨v,w,run_append_owned_none (P:=tB) (w:=w) base 25 ty 5 i0 1 sM hi v bs.length (VK bs) hown,?_,Qb _ _⟩;rw[tW];exact hown|some ad=>exact key ad (by simp[VK])
 ·refine key ⟨b,o,H⟩ fun j u hj=>?_;obtain⟨hlt,rfl⟩:=Bp cs j u hj;rw[ZX];exact h j hlt
theorem QH{w:I}{ops:Array Oper}{rest:List Oper}{o:Oper}{a:Act}{Q:Exit->Act->I->Prop}(hgd:o.guard=H)(s x:Operand)(ho:o.op=.call {callee:=.builtin .append,args:=#[s,x],argTypes:=#[25,25]})(base:Nat)(v:O)(bs:List UInt8)(hs:a.eval s=v)(hown:Q7 base w v bs)(xa:Option pG)(m cap:Nat)(cs:List UInt8)(hx:a.eval x=tH xa m cap)(hsl:Qe w (tH xa m cap) cs)(hbytes:bs.length+m<=140737488355328)(hbase:base<=w.heap.size)(h:∀v' w',Q7 base w' v' (bs++cs)->J w w' v.ownBlock->wpList tB ops Q rest (a.put o.dst v') w'):wpList tB ops Q (o::rest) a w:=by
 refine wpList_plain hgd fun K hK=>?_;obtain⟨v',w',hrun,ho',hg⟩:=MH w base o.type v bs hown xa m cap cs hsl hbytes hbase;unfold Oper.wp;simp[execOp,ho,resolve,invoke,builtin,hs,hx,hrun,Result.andThen];exact hK _ _ (h v' w' ho' hg)
theorem Qe.take{w:I}{a:Option pG}{m cap:Nat}{bs:List UInt8}(h:Qe w (tH a m cap) bs)(k:Nat)(hk:k<=m):Qe w (tH a k cap) (bs.take k):=by
 obtain⟨a',cap',e,hc,h⟩:=h;simp only[rD]at e;obtain⟨rfl,rfl,rfl⟩:=e;have hl:(bs.take k).length=k:=by simp;omega
 refine⟨a,cap,by rw[hl],by omega,?_⟩;rcases h with⟨rfl,hz⟩|⟨b,o,rfl,h⟩;·exact .inl ⟨by simp,hz⟩
 ·refine .inr ⟨b,o,rfl,fun i hi=>?_⟩;rw[h i (by omega)];rw[hl]at hi;simp[hi]
theorem WJ(bs:List UInt8)(s:ByteArray):((bs.map fun c=>((c.toNat:Nat):Int)).foldl (fun r n=>r.push (tD n.toNat)) s)=⟨s.data++bs.toArray⟩:=by
 induction bs generalizing s with|nil=>simp|cons c bs ih=>simp only[oG,List.foldl_cons];rw[ih];congr 1;simp[ByteArray.push]
def kT(bs:List UInt8):ByteArray:=⟨bs.toArray⟩
theorem Ff(bs:List UInt8):(kT bs).toList=bs:=by
 rw[Lib.toList_data];rfl
theorem qK(W:I)(v:O)(bs:List UInt8)(hs:Qe W v bs):(convert 25 9 v).run tB W=.ok (.string (kT bs)) W:=by
 obtain⟨a,cap,rfl,hc,h⟩:=hs;rw[run_convert_bytes_string W 25 9 5 a bs.length cap sM Tryz.underlying5 Tryz.underlying9];have key:∀ad:pG,(∀j u,(VK bs)[j]?=F u->W.cell? (ad.add j)=F u)->(Conv.bytesToString (tH (F ad) bs.length cap)).run tB W=.ok (.string (kT bs)) W:=by intro ad hcells;have hl:=run_loadCells_list (P:=tB) W ad (VK bs) hcells;rw[bH]at hl;have:=run_bytesToString (P:=tB) W ad bs.length cap (bs.map fun c=>((c.toNat:Nat):Int)) (by rw[hl];simp[VK]);rw[this,WJ];simp[kT]
 rcases h with⟨rfl,hz⟩|⟨b,o,rfl,h⟩;·cases a with|none=>simp[Conv.bytesToString,kT];rfl|some ad=>exact key ad (by simp[VK])
 ·refine key ⟨b,o,H⟩ fun j u hj=>?_;obtain⟨hlt,rfl⟩:=Bp bs j u hj;rw[ZX];exact h j hlt
theorem ZJ.slice32{w:I}{b:Nat}{bs:List UInt8}(h:ZJ w b bs)(hl:bs.length=32):Qe w (tH (F ⟨b,0,H⟩) 32 32) bs:=by
 have:=h.slice 32 (by omega);rw[hl]at this;exact this
theorem UJ(w:I)(x:UInt8)(t:sY):Qe (w.alloc (tJ #[tL rI (x.toNat:Int)] t)) (tH (F ⟨w.heap.size,0,H⟩) 1 1) [x]:=(ZJ.new w t [x]).slice 1 (by
 simp)
theorem NU(w:I)(x y:UInt8)(t:sY):Qe (w.alloc (tJ #[tL rI (x.toNat:Int),tL rI (y.toNat:Int)] t)) (tH (F ⟨w.heap.size,0,H⟩) 2 2) [x,y]:=(ZJ.new w t [x,y]).slice 2 (by
 simp)
theorem Ko{base base':Nat}{w:I}{v:O}{bs:List UInt8}(h:Q7 base w v bs)(hb:base'<=base):Q7 base' w v bs:=by
 refine⟨h.1,?_⟩;rcases h.2with h2|⟨g,cap,cur,h1,h2,h3⟩;·exact .inl h2
 ·exact .inr ⟨g,cap,cur,h1,rF hb h2,h3⟩
end
structure Ac where
  kind : Int
  sess : Int
  keep : Int
  data : List UInt8
def UN:Ac:=⟨0,0,0,[]⟩
def YX(a:Ac):Int:=if 1<=a.kind∧a.kind<=4then(if(a.kind=1∧¬(0<=a.sess∧a.sess<=7))∨(a.kind=3∧¬(0<=a.keep∧a.keep<=200000))then 2 else if 4000<a.data.length then 1 else if(a.kind≠1∧a.sess≠0)∨(a.kind≠3∧a.keep≠0)∨(a.kind≠1∧0<a.data.length)then 4 else 0)else 5
structure JM(a:Ac):Prop where kind:1<=a.kind∧a.kind<=4sess:a.kind=1->0<=a.sess∧a.sess<=7keep:a.kind=3->0<=a.keep∧a.keep<=200000data:a.data.length<=4000noSess:a.kind≠1->a.sess=0noKeep:a.kind≠3->a.keep=0noData:a.kind≠1->a.data=[]
theorem uJ(a:Ac):YX a=0↔JM a:=by
 unfold YX;by_cases h0:1<=a.kind∧a.kind<=4;·rw[if_pos h0];by_cases h1:(a.kind=1∧¬(0<=a.sess∧a.sess<=7))∨(a.kind=3∧¬(0<=a.keep∧a.keep<=200000));(·rw[if_pos h1];refine⟨fun e=>(by cases e),fun h=>?_⟩;rcases h1 with⟨h1,h2⟩|⟨h1,h2⟩;(·exact absurd (h.sess h1) h2);·exact absurd (h.keep h1) h2);·rw[if_neg h1];by_cases h2:4000<a.data.length;(·rw[if_pos h2];exact⟨fun e=>(by cases e),fun h=>by have:=h.data;omega⟩);·rw[if_neg h2];by_cases h3:(a.kind≠1∧a.sess≠0)∨(a.kind≠3∧a.keep≠0)∨(a.kind≠1∧0<a.data.length);(·rw[if_pos h3];refine⟨fun e=>(by cases e),fun h=>?_⟩;rcases h3 with⟨h3,h4⟩|⟨h3,h4⟩|⟨h3,h4⟩;(·exact absurd (h.noSess h3) h4);(·exact absurd (h.noKeep h3) h4);·rw[h.noData h3]at h4;simp at h4);·rw[if_neg h3];refine⟨fun _=>⟨h0,fun h=>?_,fun h=>?_,by omega,fun h=>?_,fun h=>?_,fun h=>?_⟩,fun _=>rfl⟩;(·exact sO fun e=>h1 (.inl ⟨h,e⟩));(·exact sO fun e=>h1 (.inr ⟨h,e⟩));(·exact sO fun e=>h3 (.inl ⟨h,e⟩));(·exact sO fun e=>h3 (.inr (.inl ⟨h,e⟩)));·refine V ?_;have:¬0<a.data.length:=fun e=>h3 (.inr (.inr ⟨h,e⟩));omega
 ·rw[if_neg h0];exact⟨fun e=>(by cases e),fun h=>absurd h.kind h0⟩
def mI(n:Nat):UInt8:=tD (48+n)
def iT(n:Nat):List UInt8:=if n<10then[mI n]else iT (n/10)++[mI (n%10)]termination_by n decreasing_by
 omega
def mD(n:Nat):UInt8:=if n<10then tD (48+n)else tD (87+n)
def mU(bs:List UInt8):List UInt8:=bs.flatMap fun c=>[mD (c.toNat/16),mD (c.toNat%16)]
def mV:List UInt8:=[97,115,107]
def lV:List UInt8:=[115,121,110,99]
def i6:List UInt8:=[99,114,97,115,104]
def iH:List UInt8:=[115,116,97,114,116]
def mO(a:Ac):List UInt8:=if a.kind=1then mV++32::(iT a.sess.toNat++32::mU a.data)else if a.kind=2then lV else if a.kind=3then i6++32::iT a.keep.toNat else if a.kind=4then iH else[]
theorem Zx(w:I)(o:Obj):∃W:I,Hid (W=w.alloc o)∧J w W H∧Hid (W.heap[w.heap.size]?=F o):=⟨w.alloc o,rfl,rT _ _ _,rM w o⟩
theorem Qe.shape{w:I}{v:O}{bs:List UInt8}(h:Qe w v bs):∃a cap,v=tH a bs.length cap:=by
 obtain⟨a,cap,rfl,_⟩:=h;exact⟨a,cap,rfl⟩
theorem QO{W w:I}{b:Nat}{x y:O}{t:sY}(hg:J W w H)(h:W.heap[b]?=F (tJ #[x,y] t)):w.cell? ⟨b,0,H⟩=F x∧w.cell? ⟨b,1,H⟩=F y∧w.frozen? ⟨b,0,H⟩=tA∧w.frozen? ⟨b,1,H⟩=tA:=by
 have hb:w.heap[b]?=F (tJ #[x,y] t):=by rw[hg.block b (tM.1 h).1 (by simp)];exact h
 refine⟨by simp[sB,hb],by simp[sB,hb],by simp[sX,hb],by simp[sX,hb]⟩
theorem xA{W w:I}{b:Nat}{x y:O}{t:sY}(hg:J W w H)(h:W.heap[b]?=F (tJ #[x,y] t)){G:Prop}(k:w.heap[b]?=F (tJ #[x,y] t)->w.cell? ⟨b,0,H⟩=F x->w.cell? ⟨b,1,H⟩=F y->w.frozen? ⟨b,0,H⟩=tA->w.frozen? ⟨b,1,H⟩=tA->G):G:=by
 obtain⟨h1,h2,h3,h4⟩:=QO hg h;exact k (by rw[hg.block b (tM.1 h).1 (by simp)];exact h) h1 h2 h3 h4
theorem Qd{W w:I}{b:Nat}{o:Obj}(hg:J W w H)(h:W.heap[b]?=F o):w.heap[b]?=F o:=by
 rw[hg.block b (tM.1 h).1 (by simp)];exact h
def Qf(base:Nat)(w:I)(v:O)(bs:List UInt8):Prop:=Qe w v bs∧(bs=[]∨∃b,v.ownBlock=F b∧b<w.heap.size∧(b<base∨∃cur fz,w.heap[b]?=F (tJ cur 5 fz)))
theorem Qf.slice{base:Nat}{w:I}{v:O}{bs:List UInt8}(h:Qf base w v bs):Qe w v bs:=h.1
theorem Q7.part{base base':Nat}{w:I}{v:O}{bs:List UInt8}(h:Q7 base' w v bs):Qf base w v bs:=by
 refine⟨h.slice,?_⟩;rcases h.2with⟨rfl,h0⟩|⟨g,cap,cur,rfl,hb,hg,_⟩;·exact .inl (V h0)
 ·exact .inr ⟨g,rfl,(tM.1 hg).1,.inr ⟨cur,_,hg⟩⟩
theorem VB{w:I}{b o:Nat}{v:O}(h:w.cell? ⟨b,o,H⟩=F v):b<w.heap.size:=by
 by_cases hb:b<w.heap.size;·exact hb
 ·simp[sB,Array.getElem?_eq_none (Nat.le_of_not_lt hb)]at h
theorem Qe.part{w w':I}{v:O}{bs:List UInt8}(h:Qe w v bs)(hg:J w w' H)(base:Nat)(hb:w.heap.size<=base):Qf base w' v bs:=by
 refine⟨h.grown hg,?_⟩;obtain⟨a,cap,rfl,hc,h⟩:=h;rcases h with⟨rfl,_⟩|⟨b,o,rfl,h⟩;·exact .inl rfl
 ·by_cases h0:bs=[];(·exact .inl h0);·have hl:0<bs.length:=List.length_pos_iff.2 h0;have:=VB (h 0 hl);exact .inr ⟨b,rfl,tU this hg.size,.inl (by omega)⟩
theorem Qf.mono{base base':Nat}{w:I}{v:O}{bs:List UInt8}(h:Qf base w v bs)(hb:base<=base'):Qf base' w v bs:=by
 refine⟨h.1,?_⟩;rcases h.2with h|⟨b,h1,h2,h3⟩;·exact .inl h
 ·refine .inr ⟨b,h1,h2,?_⟩;rcases h3 with h3|h3;(·exact .inl (by omega));·exact .inr h3
theorem Zc{base:Nat}{w:I}{v:O}{bs:List UInt8}(h:Qf base w v bs):v.oneCell'=L:=by
 obtain⟨⟨a,cap,rfl,_⟩,_⟩:=h;rfl
theorem Qf.keptT{base:Nat}{w w':I}{v:O}{bs:List UInt8}(h:Qf base w v bs){row:Option Nat}(hg:J w w' row)(hrow:row=H∨∃g cur t fz,row=F g∧base<=g∧w.heap[g]?=F (tJ cur t fz)∧t≠5):Qf base w' v bs:=by
 obtain⟨hs,ho⟩:=h;rcases ho with rfl|⟨b,hb,hlt,hc⟩;·obtain⟨a,cap,rfl,hc,h⟩:=hs;refine⟨⟨a,cap,rfl,hc,?_⟩,.inl rfl⟩;rcases h with h|⟨b,o,rfl,h⟩;(·exact .inl h);·exact .inr ⟨b,o,rfl,fun i hi=>by simp at hi⟩
 ·(have hne:F b≠row:=by intro e;rcases hrow with rfl|⟨g,cur,t,fz,rfl,hbg,hgc,ht⟩;(·cases e);·cases e;rcases hc with hc|⟨cur2,fz2,hc⟩;(·omega);·rw[hc]at hgc;simp only[tR,Obj.cells.injEq]at hgc;exact ht hgc.2.1.symm);have hblk:=hg.block b hlt hne;refine⟨?_,.inr ⟨b,hb,tU hlt hg.size,?_⟩⟩;(·obtain⟨a,cap,rfl,hcp,h⟩:=hs;refine⟨a,cap,rfl,hcp,?_⟩;rcases h with h|⟨b',o,rfl,h⟩;(·exact .inl h);·refine .inr ⟨b',o,rfl,fun i hi=>?_⟩;simp[oD]at hb;subst hb;exact hg.cell (h i hi) (by simpa using hne));·rcases hc with hc|⟨cur,fz,hc⟩;(·exact .inl hc);·exact .inr ⟨cur,fz,by rw[hblk];exact hc⟩
def ZY(k:List UInt8)(i:Nat):Bool:=if i/9<k.length then(if i%9=0then L else(k.getD (i/9) 0).toNat.testBit (8-i%9))else tA
theorem K5(k:List UInt8)(p:Nat):ZY k (9*p)=tI (p<k.length):=by
 unfold ZY;rw[show 9*p/9=p by omega,show 9*p%9=0 by omega];by_cases h:p<k.length<;>simp[h]
theorem K6(k:List UInt8)(p r:Nat)(hp:p<k.length)(hr:1<=r)(hr8:r<=8):ZY k (9*p+r)=(k.getD p 0).toNat.testBit (8-r):=by
 unfold ZY;rw[show(9*p+r)/9=p by omega,show(9*p+r)%9=r by omega,if_pos hp,if_neg (by omega)]
theorem Nx(k:List UInt8)(i:Nat)(h:k.length<=i/9):ZY k i=tA:=by
 unfold ZY;rw[if_neg (by omega)]
theorem Ba(x y:UInt8)(h:∀j,j<8->x.toNat.testBit j=y.toNat.testBit j):x=y:=by
 apply pY.1;apply pS;intro j;by_cases hj:j<8;·exact h j hj
 ·rw[sW (tU x.toNat_lt (rC (by decide) (by omega:8<=j))),sW (tU y.toNat_lt (rC (by decide) (by omega:8<=j)))]
theorem Iy(a b:List UInt8)(ha:a.length<=16)(hb:b.length<=16)(h:∀i,i<145->ZY a i=ZY b i):a=b:=by
 have hl:a.length=b.length:=by have h1:=h (9*a.length) (by omega);have h2:=h (9*b.length) (by omega);rw[K5,K5]at h1 h2;simp at h1 h2;omega
 apply List.ext_getElem hl;intro p h1 h2;have e:a.getD p 0=b.getD p 0:=by apply Ba;intro j hj;have:=h (9*p+(8-j)) (by omega);rw[K6 a p _ h1 (by omega) (by omega),K6 b p _ h2 (by omega) (by omega),show 8-(8-j)=j by omega]at this;exact this
 simpa[h1,h2]using e
def yH(a b:List UInt8):Nat->Nat->Int|0,_=>-1|n+1,i=>if ZY a i=ZY b i then yH a b n (i+1)else(i:Int)
def JH(a b:List UInt8):Int:=yH a b 145 0
theorem Ep(a b:List UInt8)(n i:Nat):(yH a b n i=-1∧∀j,i<=j->j<i+n->ZY a j=ZY b j)∨∃m:Nat,yH a b n i=(m:Int)∧i<=m∧m<i+n∧(∀j,i<=j->j<m->ZY a j=ZY b j)∧ZY a m≠ZY b m:=by
 induction n generalizing i with|zero=>exact .inl ⟨rfl,fun j _ h=>by omega⟩|succ n ih=>unfold yH;by_cases he:ZY a i=ZY b i;(·rw[if_pos he];rcases ih (i+1)with⟨h1,h2⟩|⟨m,h1,h2,h3,h4,h5⟩;(·refine .inl ⟨h1,fun j hj hj2=>?_⟩;by_cases hji:j=i;(·subst hji;exact he);·exact h2 j (by omega) (by omega));·refine .inr ⟨m,h1,by omega,by omega,fun j hj hj2=>?_,h5⟩;by_cases hji:j=i;(·subst hji;exact he);·exact h4 j (by omega) hj2);·rw[if_neg he];exact .inr ⟨i,rfl,sC _,by omega,fun j h1 h2=>by omega,he⟩
theorem JP(a b:List UInt8):(JH a b=-1∧∀j,j<145->ZY a j=ZY b j)∨∃m:Nat,JH a b=(m:Int)∧m<145∧(∀j,j<m->ZY a j=ZY b j)∧ZY a m≠ZY b m:=by
 rcases Ep a b 145 0with⟨h1,h2⟩|⟨m,h1,_,h3,h4,h5⟩;·exact .inl ⟨h1,fun j hj=>h2 j (by omega) (by omega)⟩
 ·exact .inr ⟨m,h1,by omega,fun j hj=>h4 j (by omega) hj,h5⟩
theorem D7(a b:List UInt8)(m:Nat)(hm:m<145)(h:∀j,j<m->ZY a j=ZY b j)(hd:ZY a m≠ZY b m):JH a b=(m:Int):=by
 rcases JP a b with⟨_,h2⟩|⟨m',h1,h2,h3,h4⟩;·exact absurd (h2 m hm) hd
 ·by_cases hlt:m'<m;(·exact absurd (h m' hlt) h4);·by_cases hgt:m<m';(·exact absurd (h3 m hgt) hd);·rw[h1];omega
theorem T4(a b:List UInt8)(h:∀j,j<145->ZY a j=ZY b j):JH a b=-1:=by
 rcases JP a b with⟨h1,_⟩|⟨m',_,h2,_,h4⟩;·exact h1
 ·exact absurd (h m' h2) h4
theorem Fl(a b:List UInt8):-1<=JH a b∧JH a b<=144:=by
 rcases JP a b with⟨h,_⟩|⟨m,h,hm,_⟩<;>omega
theorem AM(a b:List UInt8)(ha:a.length<=16)(hb:b.length<=16):JH a b<0↔a=b:=by
 constructor;·intro h;rcases JP a b with⟨_,h2⟩|⟨m,h1,_⟩;(·exact Iy a b ha hb h2);·omega
 ·rintro rfl;rw[T4 a a fun _ _=>rfl];decide
theorem PG(x y:UInt8)(a b:List UInt8):sI (x::a) (y::b)=(tI (x<y)||(x==y&&sI a b)):=by
 simp[sI]
theorem N5:∀(p:Nat)(a b:List UInt8),(∀i,i<p->i<a.length∧i<b.length∧a.getD i 0=b.getD i 0)->sI a b=sI (a.drop p) (b.drop p)|0,a,b,_=>by simp|p+1,[],b,h=>by have:=(h 0 (by omega)).1;simp at this|p+1,x::a,[],h=>by have:=(h 0 (by omega)).2.1;simp at this|p+1,x::a,y::b,h=>by have h0:=(h 0 (by omega)).2.2;simp at h0;subst h0;rw[PG,pT,pT,<-N5 p a b fun i hi=>by have:=h (i+1) (by omega);simp at this;simpa using this];simp
theorem Cx(a:List UInt8):sI a []=tA:=by
 cases a<;>rfl
theorem Fa(a:List UInt8)(p:Nat)(h:p<a.length):a.drop p=a.getD p 0::a.drop (p+1):=by
 rw[sF h];simp[h]
theorem E0(x y j:Nat)(hx:x.testBit j=tA)(hy:y.testBit j=L)(h:∀i,j<i->x.testBit i=y.testBit i):x<y:=by
 have hq:x/2^(j+1)=y/2^(j+1):=by apply pS;intro i;rw[pK,pK];exact h _ (by omega)
 rw[Nat.testBit_eq_decide_div_mod_eq]at hx hy;simp at hx hy;rw[Nat.pow_succ,<-pO,<-pO]at hq;exact Nat.lt_of_div_lt_div (c:=2^j) (by omega)
theorem I4(x y:UInt8)(j:Nat)(hd:x.toNat.testBit j≠y.toNat.testBit j)(h:∀i,j<i->x.toNat.testBit i=y.toNat.testBit i):(tI (x<y)||(x==y&&tA))=y.toNat.testBit j:=by
 cases hy:y.toNat.testBit j with|true=>(have hx:x.toNat.testBit j=tA:=by cases hx:x.toNat.testBit j with|true=>exact absurd (hx.trans hy.symm) hd|false=>rfl);have:=E0 _ _ j hx hy h;simp[sL,this]|false=>(have hx:x.toNat.testBit j=L:=by cases hx:x.toNat.testBit j with|true=>rfl|false=>exact absurd (hx.trans hy.symm) hd);have:=E0 _ _ j hy hx (fun i hi=>(h i hi).symm);simp[sL];omega
theorem Tq(a b:List UInt8)(m:Nat)(h:∀j,j<m->ZY a j=ZY b j)(hd:ZY a m≠ZY b m):ZY b m=sI a b:=by
 have hone:m/9<a.length∨m/9<b.length:=by by_cases h1:m/9<a.length;(·exact .inl h1);·by_cases h2:m/9<b.length;(·exact .inr h2);·rw[Nx a m (by omega),Nx b m (by omega)]at hd;exact absurd rfl hd
 have hpre:∀i,i<m/9->i<a.length∧i<b.length∧a.getD i 0=b.getD i 0:=by intro i hi;have hh:=h (9*i) (by omega);rw[K5,K5]at hh;(have hl:i<a.length∧i<b.length:=by simp at hh;omega);refine⟨hl.1,hl.2,Ba _ _ fun j hj=>?_⟩;have:=h (9*i+(8-j)) (by omega);rw[K6 a i _ hl.1 (by omega) (by omega),K6 b i _ hl.2 (by omega) (by omega),show 8-(8-j)=j by omega]at this;exact this
 rw[N5 (m/9) a b hpre];by_cases hr:m%9=0;·(have em:m=9*(m/9):=by omega);have ha:=K5 a (m/9);have hb:=K5 b (m/9);rw[<-em]at ha hb;by_cases hlb:m/9<b.length;(·have hla:¬m/9<a.length:=fun hla=>hd (by rw[ha,hb];simp[hla,hlb]);rw[hb,tX (by omega),Fa b _ hlb];simp[hlb,sI]);·rw[hb,tX (show b.length<=m/9by omega),Cx];simp[hlb]
 ·have hh:=h (9*(m/9)) (by omega);rw[K5,K5]at hh;(have hl:m/9<a.length∧m/9<b.length:=by simp at hh;omega);(have em:m=9*(m/9)+m%9:=by omega);have ha:=K6 a (m/9) (m%9) hl.1 (by omega) (by omega);have hb:=K6 b (m/9) (m%9) hl.2 (by omega) (by omega);rw[<-em]at ha hb;rw[Fa a _ hl.1,Fa b _ hl.2,PG,hb];rw[ha,hb]at hd;(have hne:(a.getD (m/9) 0==b.getD (m/9) 0)=tA:=by rw[beq_eq_false_iff_ne];intro e;rw[e]at hd;exact hd rfl);rw[hne,Bool.false_and];have:=I4 (a.getD (m/9) 0) (b.getD (m/9) 0) (8-m%9) hd (fun i hi=>by by_cases hi8:i<8;(·have:=h (9*(m/9)+(8-i)) (by omega);rw[K6 a _ _ hl.1 (by omega) (by omega),K6 b _ _ hl.2 (by omega) (by omega),show 8-(8-i)=i by omega]at this;exact this);·rw[sW (tU (a.getD (m/9) 0).toNat_lt (rC (by decide) (by omega:8<=i))),sW (tU (b.getD (m/9) 0).toNat_lt (rC (by decide) (by omega:8<=i)))]);rw[Bool.and_false]at this;exact this.symm
def Qn(n:Nat):Int:=if 1<=n∧n<=16then 0 else 1
def AJ(k:List UInt8)(i:Int):Bool×Int:=if 1<=k.length∧k.length<=16then(if 0<=i∧i<=144then(ZY k i.toNat,0)else(tA,2))else(tA,1)
def Th(a b:List UInt8):Int×Int:=if 1<=a.length∧a.length<=16then(if 1<=b.length∧b.length<=16then(JH a b,0)else(0,1))else(0,1)
theorem eM(k:List UInt8)(i:Nat)(hk:1<=k.length∧k.length<=16)(hi:i<145):AJ k (i:Int)=(ZY k i,0):=by
 rw[AJ,if_pos hk,if_pos (by omega)];rfl
theorem aR(a b:List UInt8)(ha:1<=a.length∧a.length<=16)(hb:1<=b.length∧b.length<=16):Th a b=(JH a b,0):=by
 rw[Th,if_pos ha,if_pos hb]
structure Q9 where
  name : List UInt8
  key : List UInt8
  value : List UInt8
  gone : Bool
def YN(p:Q9):Prop:=p.name.length<=140737488355328∧p.key.length<=140737488355328∧p.value.length<=140737488355328
def Qo:Q9:=⟨[],[],[],tA⟩
theorem Qi{W w:I}{b:Nat}{x y z u:O}{t:sY}(hg:J W w H)(h:W.heap[b]?=F (tJ #[x,y,z,u] t)):(w.cell? ⟨b,0,H⟩=F x∧w.cell? ⟨b,1,H⟩=F y∧w.cell? ⟨b,2,H⟩=F z∧w.cell? ⟨b,3,H⟩=F u)∧w.frozen? ⟨b,0,H⟩=tA∧w.frozen? ⟨b,1,H⟩=tA∧w.frozen? ⟨b,2,H⟩=tA∧w.frozen? ⟨b,3,H⟩=tA∧w.heap[b]?=F (tJ #[x,y,z,u] t):=by
 have hb:w.heap[b]?=F (tJ #[x,y,z,u] t):=by rw[hg.block b (tM.1 h).1 (by simp)];exact h
 refine⟨⟨?_,?_,?_,?_⟩,?_,?_,?_,?_,hb⟩;all_goals simp[sB,sX,hb]
theorem Jt{w:I}{b:Nat}{x y z u:O}{t:sY}(h:w.heap[b]?=F (tJ #[x,y,z,u] t))(x' y' z' u':O):((((tG w ⟨b,0,H⟩ x').setCell ⟨b,1,H⟩ y').setCell ⟨b,2,H⟩ z').setCell ⟨b,3,H⟩ u').heap[b]?=F (tJ #[x',y',z',u'] t)∧(tG w ⟨b,0,H⟩ x').cell? ⟨b,0,H⟩=F x'∧((tG w ⟨b,0,H⟩ x').setCell ⟨b,1,H⟩ y').cell? ⟨b,1,H⟩=F y'∧(((tG w ⟨b,0,H⟩ x').setCell ⟨b,1,H⟩ y').setCell ⟨b,2,H⟩ z').cell? ⟨b,2,H⟩=F z'∧((((tG w ⟨b,0,H⟩ x').setCell ⟨b,1,H⟩ y').setCell ⟨b,2,H⟩ z').setCell ⟨b,3,H⟩ u').cell? ⟨b,3,H⟩=F u':=by
 have h0:(tG w ⟨b,0,H⟩ x').heap[b]?=F (tJ #[x',y,z,u] t):=by simp only[tG,tS,if_true,h,sP];first|rfl|simp
 have h1:((tG w ⟨b,0,H⟩ x').setCell ⟨b,1,H⟩ y').heap[b]?=F (tJ #[x',y',z,u] t):=by rw[tG,tS,if_pos rfl,h0];first|rfl|simp
 have h2:(((tG w ⟨b,0,H⟩ x').setCell ⟨b,1,H⟩ y').setCell ⟨b,2,H⟩ z').heap[b]?=F (tJ #[x',y',z',u] t):=by rw[tG,tS,if_pos rfl,h1];first|rfl|simp
 have h3:((((tG w ⟨b,0,H⟩ x').setCell ⟨b,1,H⟩ y').setCell ⟨b,2,H⟩ z').setCell ⟨b,3,H⟩ u').heap[b]?=F (tJ #[x',y',z',u'] t):=by rw[tG,tS,if_pos rfl,h2];first|rfl|simp
 exact⟨h3,by simp[sB,h0],by simp[sB,h1],by simp[sB,h2],by simp[sB,h3]⟩
theorem Q7.setBlk{base:Nat}{w:I}{v:O}{bs:List UInt8}(h:Q7 base w v bs){b:Nat}{cur:Array O}{t:sY}{fz:Nat×Nat}(hb:w.heap[b]?=F (tJ cur t fz))(ht:t≠5)(i:Nat)(u:O):Q7 base (tG w ⟨b,i,H⟩ u) v bs:=by
 refine h.grown (row:=F b) (Qg (Qb _ _) i u) ?_;rcases h.2with⟨rfl,_⟩|⟨g,cap,cur2,rfl,_,hg,_⟩;·exact .inl rfl
 ·right;intro e;simp[oD]at e;subst e;rw[hg]at hb;simp at hb;exact ht hb.2.1.symm
theorem Jp{w w1:I}(h:J w w1 H)(b:Nat)(hb:w.heap.size<=b)(x y z u:O):J w ((((tG w1 ⟨b,0,H⟩ x).setCell ⟨b,1,H⟩ y).setCell ⟨b,2,H⟩ z).setCell ⟨b,3,H⟩ u) H:=Qc (Qc (Qc (Qc h _ hb _ _) _ hb _ _) _ hb _ _) _ hb _ _
abbrev Pr:=List UInt8×List UInt8
abbrev PL:=List Pr
abbrev Ym(a b:List UInt8):Bool:=sI a b
theorem F9(a:List UInt8):Ym a []=tA:=Cx a
theorem vY(x y:UInt8)(a b:List UInt8):Ym (x::a) (y::b)=(tI (x<y)||(x==y&&Ym a b)):=PG x y a b
theorem Xy:∀a:List UInt8,Ym a a=tA|[]=>rfl|x::a=>by rw[vY,Xy a];simp
theorem Yr:∀a b c:List UInt8,Ym a b=L->Ym b c=L->Ym a c=L|_,[],_,h,_=>by rw[F9]at h;cases h|_,_::_,[],_,h=>by rw[F9]at h;cases h|[],_::_,_::_,_,_=>rfl|x::a,y::b,z::c,h1,h2=>by rw[vY]at h1 h2⊢;simp only[oE,decide_eq_true_eq,pZ,beq_iff_eq,sL]at h1 h2⊢;rcases h1 with h1|⟨rfl,h1⟩;(·rcases h2 with h2|⟨rfl,h2⟩;(·left;omega);·left;exact h1);·rcases h2 with h2|⟨rfl,h2⟩;(·left;exact h2);·right;exact⟨rfl,Yr a b c h1 h2⟩
theorem J9:∀a b:List UInt8,Ym a b=tA->a≠b->Ym b a=L|[],[],_,h=>absurd rfl h|[],_::_,h,_=>by cases h|_::_,[],_,_=>rfl|x::a,y::b,h1,h2=>by rw[vY]at h1⊢;simp only[rS,decide_eq_false_iff_not,Bool.and_eq_false_iff,beq_eq_false_iff_ne,sL]at h1;simp only[oE,decide_eq_true_eq,pZ,beq_iff_eq,sL];by_cases e:y=x;(·subst e;right;refine⟨rfl,J9 a b ?_ (fun e=>h2 (by rw[e]))⟩;rcases h1.2with h|h;(·exact absurd rfl h);·exact h);·left;have:x.toNat≠y.toNat:=fun h=>e (pY.1 h.symm);omega
theorem Hz(a b:List UInt8)(h:Ym a b=L):Ym b a=tA:=by
 cases hb:Ym b a with|false=>rfl|true=>have:=Yr a b a h hb;rw[Xy]at this;cases this
theorem BF{a b:List UInt8}(h:Ym a b=L):a≠b:=by
 rintro rfl;rw[Xy]at h;cases h
def QV(p:Pr):Int:=if 32<p.2.length then 1 else Qn p.1.length
def XJ(l:PL)(i:Nat):Int:=if QV (l.getD i ([],[]))=0then(if 0<i∧Ym (l.getD (i-1) ([],[])).1 (l.getD i ([],[])).1=tA then 3 else 0)else QV (l.getD i ([],[]))
def J8(l:PL):Nat->Nat->Int|0,_=>0|n+1,i=>if XJ l i=0then J8 l n (i+1)else XJ l i
def QA(l:PL):Int:=if 60<l.length then 1 else J8 l l.length 0
theorem zQ(l:PL)(n i:Nat)(hi:i<=n)(h:∀j,j<i->XJ l j=0):J8 l n 0=J8 l (n-i) i:=by
 induction i with|zero=>rfl|succ i ih=>rw[ih (by omega) (fun j hj=>h j (by omega)),show n-i=(n-(i+1))+1by omega,J8,if_pos (h i (by omega))]
theorem kA(l:PL)(i:Nat)(hi:i<l.length)(hl:l.length<=60)(h:∀j,j<i->XJ l j=0)(hf:XJ l i≠0):QA l=XJ l i:=by
 rw[QA,if_neg (by omega),zQ l _ i (by omega) h,show l.length-i=(l.length-(i+1))+1by omega,J8,if_neg hf]
theorem zP(l:PL)(hl:l.length<=60)(h:∀j,j<l.length->XJ l j=0):QA l=0:=by
 rw[QA,if_neg (by omega),zQ l _ l.length (sC _) h,oI,J8]
theorem zM(l:PL)(hl:60<l.length):QA l=1:=by
 rw[QA,if_pos hl]
theorem xQ(l:PL):∀(n i:Nat),J8 l n i=0->∀j,i<=j->j<i+n->XJ l j=0|0,i,_,j,h1,h2=>by omega|n+1,i,h,j,h1,h2=>by rw[J8]at h;by_cases e:XJ l i=0;(·rw[if_pos e]at h;by_cases hj:j=i;(·subst hj;exact e);·exact xQ l n (i+1) h j (by omega) (by omega));·rw[if_neg e]at h;exact absurd h e
def Kk(l:PL):Prop:=l.Pairwise fun p q=>Ym p.1 q.1=L
structure ZC(l:PL):Prop where room:l.length<=60pairs:∀p∈l,(1<=p.1.length∧p.1.length<=16)∧p.2.length<=32rises:Kk l
theorem JA(p:Pr):QV p=0↔(1<=p.1.length∧p.1.length<=16)∧p.2.length<=32:=by
 unfold QV Qn;by_cases h:32<p.2.length;·rw[if_pos h];constructor;(·intro h;cases h);·intro h;omega
 ·rw[if_neg h];by_cases h2:1<=p.1.length∧p.1.length<=16;(·rw[if_pos h2];exact⟨fun _=>⟨h2,by omega⟩,fun _=>rfl⟩);·rw[if_neg h2];constructor;(·intro h;cases h);·intro h;exact absurd h.1 h2
theorem Fq(l:PL)(i:Nat):XJ l i=0↔QV (l.getD i ([],[]))=0∧(0<i->Ym (l.getD (i-1) ([],[])).1 (l.getD i ([],[])).1=L):=by
 unfold XJ;by_cases h:QV (l.getD i ([],[]))=0;·rw[if_pos h];by_cases h2:0<i∧Ym (l.getD (i-1) ([],[])).1 (l.getD i ([],[])).1=tA;(·rw[if_pos h2];constructor;(·intro h;cases h);·intro h3;have:=h3.2 h2.1;rw[h2.2]at this;cases this);·rw[if_neg h2];refine⟨fun _=>⟨h,fun hi=>?_⟩,fun _=>rfl⟩;cases hk:Ym (l.getD (i-1) ([],[])).1 (l.getD i ([],[])).1with|true=>rfl|false=>exact absurd ⟨hi,hk⟩ h2
 ·rw[if_neg h];constructor;(·intro h2;exact absurd h2 h);·intro h2;exact absurd h2.1 h
theorem xL:∀l:PL,(∀i,0<i->i<l.length->Ym (l.getD (i-1) ([],[])).1 (l.getD i ([],[])).1=L)->Kk l|[],_=>rB|[_],_=>sR _ _|p::q::r,h=>by(have ih:Kk (q::r):=xL (q::r) fun i h0 hi=>by have:=h (i+1) (by omega) (by simp at hi⊢;omega);rw[show i+1-1=(i-1)+1by omega]at this;simpa using this);(have h01:Ym p.1 q.1=L:=by have:=h 1 (by omega) (by simp);simpa using this);refine tV (fun x hx=>?_) ih;rcases tK.1 hx with rfl|hx;(·exact h01);·exact Yr _ _ _ h01 ((tQ.1 ih).1 x hx)
theorem UI(l:PL)(h:Kk l)(i j:Nat)(hij:i<j)(hj:j<l.length):Ym (l.getD i ([],[])).1 (l.getD j ([],[])).1=L:=by
 have:=pE.1 h i j (by omega) hj hij;simpa[hj,show i<l.length by omega]using this
theorem YM(l:PL):QA l=0↔ZC l:=by
 constructor;·intro h;(have hl:l.length<=60:=by by_cases hl:60<l.length;(·rw[zM l hl]at h;cases h);·omega);rw[QA,if_neg (by omega)]at h;have ha:=fun j(hj:j<l.length)=>(Fq l j).1 (xQ l l.length 0 h j (by omega) (by omega));refine⟨hl,fun p hp=>?_,xL l fun i h0 hi=>(ha i hi).2 h0⟩;obtain⟨i,hi,rfl⟩:=N.1 hp;have:=(JA _).1 (ha i hi).1;simpa[hi]using this
 ·intro h;refine zP l h.room fun j hj=>(Fq l j).2 ⟨(JA _).2 ?_,fun h0=>UI l h.rises _ _ (by omega) hj⟩;have:=h.pairs l[j] (tZ hj);simpa[hj]using this
theorem bB:ZC []:=⟨by
 simp,by
 simp,rB⟩
def Ul(l:PL)(k:List UInt8):Option (List UInt8):=(l.find? fun p=>p.1==k).map (·.2)
theorem Xo(p:Pr)(l:PL)(k:List UInt8):Ul (p::l) k=if p.1=k then F p.2 else Ul l k:=by
 unfold Ul;by_cases h:p.1=k;·rw[pL (by simpa using h),if_pos h];rfl
 ·rw[pM (by simpa using h),if_neg h]
theorem OS:∀(l:PL)(k:List UInt8)(i:Nat),i<l.length->(∀j,j<i->(l.getD j ([],[])).1≠k)->(l.getD i ([],[])).1=k->Ul l k=F (l.getD i ([],[])).2|[],_,_,h,_,_=>by simp at h|p::l,k,0,_,_,h2=>by rw[Xo,if_pos (by simpa using h2)];simp|p::l,k,i+1,h,h1,h2=>by rw[Xo,if_neg (by simpa using h1 0 (by omega))];have:=OS l k i (by simpa using h) (fun j hj=>by simpa using h1 (j+1) (by omega)) (by simpa using h2);simpa using this
theorem T0:∀(l:PL)(k:List UInt8),(∀j,j<l.length->(l.getD j ([],[])).1≠k)->Ul l k=H|[],_,_=>rfl|p::l,k,h=>by rw[Xo,if_neg (by simpa using h 0 (by simp))];exact T0 l k fun j hj=>by simpa using h (j+1) (by simpa using hj)
def JE:PL->Pr->PL|[],p=>[p]|q::r,p=>if Ym q.1 p.1=L then q::JE r p else if q.1=p.1then p::r else p::q::r
def zW(l:PL)(k:List UInt8):PL:=l.filter fun q=>!(q.1==k)
def Vi(l:PL)(a b:List UInt8):PL:=l.filter fun q=>!Ym q.1 a&&!Ym b q.1
theorem MO(l:PL)(p x:Pr):x∈JE l p->x=p∨x∈l:=by
 induction l with|nil=>intro h;simp[JE]at h;exact .inl h|cons q r ih=>intro h;rw[JE]at h;by_cases h1:Ym q.1 p.1=L;(·rw[if_pos h1]at h;rcases tK.1 h with rfl|h;(·exact .inr (by simp));·rcases ih h with h|h;(·exact .inl h);·exact .inr (sA _ h));·rw[if_neg h1]at h;by_cases h2:q.1=p.1;(·rw[if_pos h2]at h;rcases tK.1 h with h|h;(·exact .inl h);·exact .inr (sA _ h));·rw[if_neg h2]at h;rcases tK.1 h with h|h;(·exact .inl h);·exact .inr h
theorem Po(l:PL)(p:Pr)(h:Kk l):Kk (JE l p):=by
 induction l with|nil=>exact sR _ _|cons q r ih=>have hr:=tQ.1 h;rw[JE];by_cases h1:Ym q.1 p.1=L;(·rw[if_pos h1];refine tV (fun x hx=>?_) (ih hr.2);rcases MO r p x hx with rfl|hx;(·exact h1);·exact hr.1 x hx);·rw[if_neg h1];by_cases h2:q.1=p.1;(·rw[if_pos h2];exact tV (fun x hx=>by rw[<-h2];exact hr.1 x hx) hr.2);·rw[if_neg h2];have hpq:=J9 _ _ (by simpa using h1) h2;refine tV (fun x hx=>?_) h;rcases tK.1 hx with rfl|hx;(·exact hpq);·exact Yr _ _ _ hpq (hr.1 x hx)
theorem fU(l:PL)(p:Pr)(k:List UInt8)(h:Kk l):Ul (JE l p) k=if p.1=k then F p.2 else Ul l k:=by
 induction l with|nil=>rw[JE,Xo]|cons q r ih=>have hr:=tQ.1 h;rw[JE];by_cases h1:Ym q.1 p.1=L;(·rw[if_pos h1,Xo,Xo,ih hr.2];by_cases e:p.1=k;(·rw[if_pos e,if_pos e,if_neg (fun e2=>BF h1 (e2.trans e.symm))]);·rw[if_neg e,if_neg e]);·rw[if_neg h1];by_cases h2:q.1=p.1;(·rw[if_pos h2,Xo,Xo];by_cases e:p.1=k;(·rw[if_pos e,if_pos e]);·rw[if_neg e,if_neg e,if_neg (by rw[h2];exact e)]);·rw[if_neg h2,Xo]
theorem eY(l:PL)(k x:List UInt8):Ul (zW l k) x=if k=x then H else Ul l x:=by
 induction l with|nil=>simp[zW,Ul]|cons q r ih=>unfold zW at ih⊢;by_cases e:q.1=k;(·rw[sS (by simp[e]),ih,Xo];by_cases e2:k=x;(·rw[if_pos e2,if_pos e2]);·rw[if_neg e2,if_neg e2,if_neg (by rw[e];exact e2)]);·rw[pH (by simp[e]),Xo,ih,Xo];by_cases e2:k=x;(·rw[if_pos e2,if_pos e2,if_neg (by rw[<-e2];exact e)]);·rw[if_neg e2,if_neg e2]
theorem NQ(l:PL)(k:List UInt8)(h:Kk l):Kk (zW l k):=sU _ h
theorem Bo(l:PL)(a b:List UInt8)(h:Kk l):Kk (Vi l a b):=sU _ h
theorem US(l:PL)(k:List UInt8)(h:∀p∈l,Ym k p.1=L):Ul l k=H:=T0 l k fun j hj e=>by
 have:=h l[j] (tZ hj);rw[show l[j]=l.getD j ([],[])by simp[hj],e,Xy]at this;cases this
theorem Nv:∀(l m:PL),Kk l->Kk m->(∀k,Ul l k=Ul m k)->l=m|[],[],_,_,_=>rfl|[],q::r,_,_,h=>by have:=h q.1;rw[Xo,if_pos rfl]at this;cases this|p::l,[],_,_,h=>by have:=h p.1;rw[Xo,if_pos rfl]at this;cases this|p::l,q::r,hl,hr,h=>by have h1:=tQ.1 hl;have h2:=tQ.1 hr;(have hk:p.1=q.1:=by cases e:Ym p.1 q.1with|true=>have:=h p.1;rw[Xo,if_pos rfl,US (q::r) p.1 fun x hx=>by rcases tK.1 hx with rfl|hx;(·exact e);·exact Yr _ _ _ e (h2.1 x hx)]at this;cases this|false=>by_cases e2:p.1=q.1;(·exact e2);·have e3:=J9 _ _ e e2;have:=h q.1;rw[Xo (p:=q),if_pos rfl,US (p::l) q.1 fun x hx=>by rcases tK.1 hx with rfl|hx;(·exact e3);·exact Yr _ _ _ e3 (h1.1 x hx)]at this;cases this);(have hv:p.2=q.2:=by have:=h p.1;rw[Xo,if_pos rfl,Xo,if_pos hk.symm]at this;exact rH this);have hp:p=q:=Prod.ext hk hv;subst hp;congr 1;refine Nv l r h1.2 h2.2 fun k=>?_;by_cases e:p.1=k;(·subst e;rw[US l p.1 h1.1,US r p.1 h2.1]);·have:=h k;rw[Xo,Xo,if_neg e,if_neg e]at this;exact this
def Xd(l:PL)(k:List UInt8):Int:=if QA l=0then Qn k.length else QA l
theorem jM{l:PL}{k:List UInt8}(h:Xd l k=0):ZC l:=by
 unfold Xd at h;by_cases h0:QA l=0;·exact(YM l).1 h0
 ·rw[if_neg h0]at h;exact absurd h h0
theorem Zl(n:Nat):Qn n=0↔1<=n∧n<=16:=by
 unfold Qn;by_cases h:1<=n∧n<=16;·rw[if_pos h];exact⟨fun _=>h,fun _=>rfl⟩
 ·rw[if_neg h];constructor;(·intro h2;cases h2);·intro h2;exact absurd h2 h
theorem O9{l:PL}{k:List UInt8}(h:Xd l k=0):1<=k.length∧k.length<=16:=by
 have ht:=(YM l).2 (jM h);unfold Xd at h;rw[if_pos ht]at h;exact(Zl _).1 h
theorem jN{l:PL}{k:List UInt8}(h:ZC l)(hk:1<=k.length∧k.length<=16):Xd l k=0:=by
 unfold Xd;rw[if_pos ((YM l).2 h)];exact(Zl _).2 hk
def TL(l:PL)(k:List UInt8):Bool:=Xd l k==0&&(Ul l k).isSome
def Rg(l:PL)(k:List UInt8):List UInt8:=if Xd l k=0then(Ul l k).getD []else[]
def zZ(l:PL)(k:List UInt8):PL:=if Xd l k=0then zW l k else[]
theorem MD(l:PL)(k:List UInt8):(zW l k).length<=l.length:=sZ _ _
def Yz(l:PL)(f t:List UInt8):Int:=if Xd l f=0then Qn t.length else Xd l f
theorem Ae{l:PL}{f t:List UInt8}(h:Yz l f t=0):Xd l f=0:=by
 unfold Yz at h;by_cases h0:Xd l f=0;·exact h0
 ·rw[if_neg h0]at h;exact absurd h h0
def KM(l:PL)(f t:List UInt8):PL:=if Yz l f t=0then Vi l f t else[]
theorem If(l:PL)(f t:List UInt8):(Vi l f t).length<=l.length:=sZ _ _
def V2(l:PL)(p:Pr):Int:=if QA l=0then QV p else QA l
def Ke(l:PL)(p:Pr):Int:=if V2 l p=0then(if 60<(JE l p).length then 11 else 0)else V2 l p
def Vr(l:PL)(p:Pr):PL:=if Ke l p=0then JE l p else[]
theorem LP(l:PL)(p:Pr):(JE l p).length<=l.length+1:=by
 induction l with|nil=>simp[JE]|cons q r ih=>rw[JE];by_cases h1:Ym q.1 p.1=L;(·rw[if_pos h1];simp;omega);·rw[if_neg h1];by_cases h2:q.1=p.1;(·rw[if_pos h2];simp);·rw[if_neg h2];simp
structure uI (l : PL) : Prop where
  many : l.length * 48 <= 140737488355328
  each : ∀ i, i < l.length -> (l.getD i ([], [])).1.length <= 140737488355328 ∧ (l.getD i ([], [])).2.length <= 140737488355328
theorem uI.len{l:PL}(h:uI l):l.length<=140737488355328:=by
 have:=h.many;omega
theorem ZC.fits{l:PL}(h:ZC l):uI l:=by
 refine⟨by have:=h.room;omega,fun i hi=>?_⟩;have:=h.pairs l[i] (tZ hi);rw[show l[i]=l.getD i ([],[])by simp[hi]]at this;omega
abbrev Tn:=List UInt8×PL
abbrev FL:=List Tn
def Xq(l:FL):Prop:=l.Pairwise fun p q=>Ym p.1 q.1=L
def YW(l:FL)(k:List UInt8):Option PL:=(l.find? fun p=>p.1==k).map (·.2)
theorem Zy(p:Tn)(l:FL)(k:List UInt8):YW (p::l) k=if p.1=k then F p.2 else YW l k:=by
 unfold YW;by_cases h:p.1=k;·rw[pL (by simpa using h),if_pos h];rfl
 ·rw[pM (by simpa using h),if_neg h]
theorem Bg:∀(l:FL)(k:List UInt8)(i:Nat),i<l.length->(∀j,j<i->(l.getD j ([],[])).1≠k)->(l.getD i ([],[])).1=k->YW l k=F (l.getD i ([],[])).2|[],_,_,h,_,_=>by simp at h|p::l,k,0,_,_,h2=>by rw[Zy,if_pos (by simpa using h2)];simp|p::l,k,i+1,h,h1,h2=>by rw[Zy,if_neg (by simpa using h1 0 (by omega))];have:=Bg l k i (by simpa using h) (fun j hj=>by simpa using h1 (j+1) (by omega)) (by simpa using h2);simpa using this
theorem kP:∀(l:FL)(k:List UInt8),(∀j,j<l.length->(l.getD j ([],[])).1≠k)->YW l k=H|[],_,_=>rfl|p::l,k,h=>by rw[Zy,if_neg (by simpa using h 0 (by simp))];exact kP l k fun j hj=>by simpa using h (j+1) (by simpa using hj)
def YF:FL->Tn->FL|[],p=>[p]|q::r,p=>if Ym q.1 p.1=L then q::YF r p else if q.1=p.1then p::r else p::q::r
def GA(l:FL)(k:List UInt8):FL:=l.filter fun q=>!(q.1==k)
theorem Pn(l:FL)(p x:Tn):x∈YF l p->x=p∨x∈l:=by
 induction l with|nil=>intro h;simp[YF]at h;exact .inl h|cons q r ih=>intro h;rw[YF]at h;by_cases h1:Ym q.1 p.1=L;(·rw[if_pos h1]at h;rcases tK.1 h with rfl|h;(·exact .inr (by simp));·rcases ih h with h|h;(·exact .inl h);·exact .inr (sA _ h));·rw[if_neg h1]at h;by_cases h2:q.1=p.1;(·rw[if_pos h2]at h;rcases tK.1 h with h|h;(·exact .inl h);·exact .inr (sA _ h));·rw[if_neg h2]at h;rcases tK.1 h with h|h;(·exact .inl h);·exact .inr h
theorem Dq(l:FL)(p:Tn)(h:Xq l):Xq (YF l p):=by
 induction l with|nil=>exact sR _ _|cons q r ih=>have hr:=tQ.1 h;rw[YF];by_cases h1:Ym q.1 p.1=L;(·rw[if_pos h1];refine tV (fun x hx=>?_) (ih hr.2);rcases Pn r p x hx with rfl|hx;(·exact h1);·exact hr.1 x hx);·rw[if_neg h1];by_cases h2:q.1=p.1;(·rw[if_pos h2];exact tV (fun x hx=>by rw[<-h2];exact hr.1 x hx) hr.2);·rw[if_neg h2];have hpq:=J9 _ _ (by simpa using h1) h2;refine tV (fun x hx=>?_) h;rcases tK.1 hx with rfl|hx;(·exact hpq);·exact Yr _ _ _ hpq (hr.1 x hx)
theorem Ob(l:FL)(p:Tn)(k:List UInt8)(h:Xq l):YW (YF l p) k=if p.1=k then F p.2 else YW l k:=by
 induction l with|nil=>rw[YF,Zy]|cons q r ih=>have hr:=tQ.1 h;rw[YF];by_cases h1:Ym q.1 p.1=L;(·rw[if_pos h1,Zy,Zy,ih hr.2];by_cases e:p.1=k;(·rw[if_pos e,if_pos e,if_neg (fun e2=>BF h1 (e2.trans e.symm))]);·rw[if_neg e,if_neg e]);·rw[if_neg h1];by_cases h2:q.1=p.1;(·rw[if_pos h2,Zy,Zy];by_cases e:p.1=k;(·rw[if_pos e,if_pos e]);·rw[if_neg e,if_neg e,if_neg (by rw[h2];exact e)]);·rw[if_neg h2,Zy]
theorem Hd(l:FL)(k x:List UInt8):YW (GA l k) x=if k=x then H else YW l x:=by
 induction l with|nil=>simp[GA,YW]|cons q r ih=>unfold GA at ih⊢;by_cases e:q.1=k;(·rw[sS (by simp[e]),ih,Zy];by_cases e2:k=x;(·rw[if_pos e2,if_pos e2]);·rw[if_neg e2,if_neg e2,if_neg (by rw[e];exact e2)]);·rw[pH (by simp[e]),Zy,ih,Zy];by_cases e2:k=x;(·rw[if_pos e2,if_pos e2,if_neg (by rw[<-e2];exact e)]);·rw[if_neg e2,if_neg e2]
theorem Bh(l:FL)(k:List UInt8)(h:Xq l):Xq (GA l k):=sU _ h
theorem KD(l:FL)(k:List UInt8)(h:∀p∈l,Ym k p.1=L):YW l k=H:=kP l k fun j hj e=>by
 have:=h l[j] (tZ hj);rw[show l[j]=l.getD j ([],[])by simp[hj],e,Xy]at this;cases this
theorem Fw:∀(l m:FL),Xq l->Xq m->(∀k,YW l k=YW m k)->l=m|[],[],_,_,_=>rfl|[],q::r,_,_,h=>by have:=h q.1;rw[Zy,if_pos rfl]at this;cases this|p::l,[],_,_,h=>by have:=h p.1;rw[Zy,if_pos rfl]at this;cases this|p::l,q::r,hl,hr,h=>by have h1:=tQ.1 hl;have h2:=tQ.1 hr;(have hk:p.1=q.1:=by cases e:Ym p.1 q.1with|true=>have:=h p.1;rw[Zy,if_pos rfl,KD (q::r) p.1 fun x hx=>by rcases tK.1 hx with rfl|hx;(·exact e);·exact Yr _ _ _ e (h2.1 x hx)]at this;cases this|false=>by_cases e2:p.1=q.1;(·exact e2);·have e3:=J9 _ _ e e2;have:=h q.1;rw[Zy (p:=q),if_pos rfl,KD (p::l) q.1 fun x hx=>by rcases tK.1 hx with rfl|hx;(·exact e3);·exact Yr _ _ _ e3 (h1.1 x hx)]at this;cases this);(have hv:p.2=q.2:=by have:=h p.1;rw[Zy,if_pos rfl,Zy,if_pos hk.symm]at this;exact rH this);have hp:p=q:=Prod.ext hk hv;subst hp;congr 1;refine Fw l r h1.2 h2.2 fun k=>?_;by_cases e:p.1=k;(·subst e;rw[KD l p.1 h1.1,KD r p.1 h2.1]);·have:=h k;rw[Zy,Zy,if_neg e,if_neg e]at this;exact this
theorem WZ(l:FL)(p:Tn):(YF l p).length<=l.length+1:=by
 induction l with|nil=>simp[YF]|cons q r ih=>rw[YF];by_cases h1:Ym q.1 p.1=L;(·rw[if_pos h1];simp;omega);·rw[if_neg h1];by_cases h2:q.1=p.1;(·rw[if_pos h2];simp);·rw[if_neg h2];simp
theorem N7(l:FL)(k:List UInt8):(GA l k).length<=l.length:=sZ _ _
def Qt(n:Nat):Int:=if 1<=n∧n<=8then 0 else 1
theorem Zn(n:Nat):Qt n=0↔1<=n∧n<=8:=by
 unfold Qt;by_cases h:1<=n∧n<=8;·rw[if_pos h];exact⟨fun _=>h,fun _=>rfl⟩
 ·rw[if_neg h];constructor;(·intro h2;cases h2);·intro h2;exact absurd h2 h
def XD(t:Tn):Int:=if Qt t.1.length=0then(if t.2.length=0then 4 else QA t.2)else Qt t.1.length
theorem Pc(t:Tn):XD t=0↔(1<=t.1.length∧t.1.length<=8)∧t.2≠[]∧ZC t.2:=by
 unfold XD;by_cases h:Qt t.1.length=0;·rw[if_pos h];by_cases h2:t.2.length=0;(·rw[if_pos h2];constructor;(·intro h3;cases h3);·intro h3;exact absurd (V h2) h3.2.1);·rw[if_neg h2,YM];exact⟨fun h3=>⟨(Zn _).1 h,fun e=>h2 (by rw[e];rfl),h3⟩,fun h3=>h3.2.2⟩
 ·rw[if_neg h];constructor;(·intro h2;exact absurd h2 h);·intro h2;exact absurd ((Zn _).2 h2.1) h
def Kh(l:FL)(i:Nat):Int:=if XD (l.getD i ([],[]))=0then(if 0<i∧Ym (l.getD (i-1) ([],[])).1 (l.getD i ([],[])).1=tA then 3 else 0)else XD (l.getD i ([],[]))
def Vz(l:FL):Nat->Nat->Int|0,_=>0|n+1,i=>if Kh l i=0then Vz l n (i+1)else Kh l i
def Q6(l:FL):Int:=if 8<l.length then 1 else Vz l l.length 0
theorem jW(l:FL)(n i:Nat)(hi:i<=n)(h:∀j,j<i->Kh l j=0):Vz l n 0=Vz l (n-i) i:=by
 induction i with|zero=>rfl|succ i ih=>rw[ih (by omega) (fun j hj=>h j (by omega)),show n-i=(n-(i+1))+1by omega,Vz,if_pos (h i (by omega))]
theorem Ed(l:FL)(i:Nat)(hi:i<l.length)(hl:l.length<=8)(h:∀j,j<i->Kh l j=0)(hf:Kh l i≠0):Q6 l=Kh l i:=by
 rw[Q6,if_neg (by omega),jW l _ i (by omega) h,show l.length-i=(l.length-(i+1))+1by omega,Vz,if_neg hf]
theorem uV(l:FL)(hl:l.length<=8)(h:∀j,j<l.length->Kh l j=0):Q6 l=0:=by
 rw[Q6,if_neg (by omega),jW l _ l.length (sC _) h,oI,Vz]
theorem vW(l:FL)(hl:8<l.length):Q6 l=1:=by
 rw[Q6,if_pos hl]
theorem vT(l:FL):∀(n i:Nat),Vz l n i=0->∀j,i<=j->j<i+n->Kh l j=0|0,i,_,j,h1,h2=>by omega|n+1,i,h,j,h1,h2=>by rw[Vz]at h;by_cases e:Kh l i=0;(·rw[if_pos e]at h;by_cases hj:j=i;(·subst hj;exact e);·exact vT l n (i+1) h j (by omega) (by omega));·rw[if_neg e]at h;exact absurd h e
theorem ER(l:FL)(i:Nat):Kh l i=0↔XD (l.getD i ([],[]))=0∧(0<i->Ym (l.getD (i-1) ([],[])).1 (l.getD i ([],[])).1=L):=by
 unfold Kh;by_cases h:XD (l.getD i ([],[]))=0;·rw[if_pos h];by_cases h2:0<i∧Ym (l.getD (i-1) ([],[])).1 (l.getD i ([],[])).1=tA;(·rw[if_pos h2];constructor;(·intro h;cases h);·intro h3;have:=h3.2 h2.1;rw[h2.2]at this;cases this);·rw[if_neg h2];refine⟨fun _=>⟨h,fun hi=>?_⟩,fun _=>rfl⟩;cases hk:Ym (l.getD (i-1) ([],[])).1 (l.getD i ([],[])).1with|true=>rfl|false=>exact absurd ⟨hi,hk⟩ h2
 ·rw[if_neg h];constructor;(·intro h2;exact absurd h2 h);·intro h2;exact absurd h2.1 h
theorem G8:∀l:FL,(∀i,0<i->i<l.length->Ym (l.getD (i-1) ([],[])).1 (l.getD i ([],[])).1=L)->Xq l|[],_=>rB|[_],_=>sR _ _|p::q::r,h=>by(have ih:Xq (q::r):=G8 (q::r) fun i h0 hi=>by have:=h (i+1) (by omega) (by simp at hi⊢;omega);rw[show i+1-1=(i-1)+1by omega]at this;simpa using this);(have h01:Ym p.1 q.1=L:=by have:=h 1 (by omega) (by simp);simpa using this);refine tV (fun x hx=>?_) ih;rcases tK.1 hx with rfl|hx;(·exact h01);·exact Yr _ _ _ h01 ((tQ.1 ih).1 x hx)
theorem qZ(l:FL)(h:Xq l)(i j:Nat)(hij:i<j)(hj:j<l.length):Ym (l.getD i ([],[])).1 (l.getD j ([],[])).1=L:=by
 have:=pE.1 h i j (by omega) hj hij;simpa[hj,show i<l.length by omega]using this
structure Zf(l:FL):Prop where room:l.length<=8tens:∀t∈l,(1<=t.1.length∧t.1.length<=8)∧t.2≠[]∧ZC t.2rises:Xq l
theorem Xm(l:FL):Q6 l=0↔Zf l:=by
 constructor;·intro h;(have hl:l.length<=8:=by by_cases hl:8<l.length;(·rw[vW l hl]at h;cases h);·omega);rw[Q6,if_neg (by omega)]at h;have ha:=fun j(hj:j<l.length)=>(ER l j).1 (vT l l.length 0 h j (by omega) (by omega));refine⟨hl,fun p hp=>?_,G8 l fun i h0 hi=>(ha i hi).2 h0⟩;obtain⟨i,hi,rfl⟩:=N.1 hp;have:=(Pc _).1 (ha i hi).1;simpa[hi]using this
 ·intro h;refine uV l h.room fun j hj=>(ER l j).2 ⟨(Pc _).2 ?_,fun h0=>qZ l h.rises _ _ (by omega) hj⟩;have:=h.tens l[j] (tZ hj);simpa[hj]using this
theorem VN:Zf []:=⟨by
 simp,by
 simp,rB⟩
def XY(l:FL)(n:List UInt8):PL:=(YW l n).getD []
theorem iF(n:List UInt8):XY [] n=[]:=rfl
theorem Jm{l:FL}(h:Zf l)(n:List UInt8):ZC (XY l n):=by
 unfold XY YW;cases hf:l.find? (fun p=>p.1==n)with|none=>exact bB|some t=>exact(h.tens t (pF hf)).2.2
theorem Sd{l m:FL}(hl:Zf l)(hm:Zf m)(h:∀n,XY l n=XY m n):l=m:=by
 have hs:∀{l:FL},Zf l->∀n,YW l n=if XY l n=[]then H else F (XY l n):=by intro l hl n;unfold XY;cases hf:l.find? (fun p=>p.1==n)with|none=>(have:YW l n=H:=by unfold YW;rw[hf];rfl);rw[this];rfl|some t=>(have hg:YW l n=F t.2:=by unfold YW;rw[hf];rfl);have hne:=(hl.tens t (pF hf)).2.1;rw[hg,if_neg (by simpa using hne)];rfl
 refine Fw l m hl.rises hm.rises fun n=>?_;rw[hs hl,hs hm,h n]
def QC(w:Q9):Int:=if Qt w.name.length=0then(if w.gone=L then(if Qn w.key.length=0then(if 0<w.value.length then 4 else 0)else Qn w.key.length)else QV (w.key,w.value))else Qt w.name.length
def XK(l:FL)(w:Q9):PL:=if w.gone=L then zW (XY l w.name) w.key else JE (XY l w.name) (w.key,w.value)
def qF(l:FL)(w:Q9):Int:=if w.gone=L then Xd (XY l w.name) w.key else Ke (XY l w.name) (w.key,w.value)
def QR(l:FL)(w:Q9):FL:=if(XK l w).length=0then GA l w.name else YF l (w.name,XK l w)
def XM(l:FL)(w:Q9):Int:=if qF l w=0then(if 8<(QR l w).length then 11 else 0)else qF l w
def ZL:FL->List Q9->Int|_,[]=>0|l,w::ws=>if QC w=0then(if XM l w=0then ZL (QR l w) ws else XM l w)else QC w
def Jc:FL->List Q9->FL|l,[]=>l|l,w::ws=>Jc (QR l w) ws
def QJ(l:FL)(ws:List Q9):Int:=if Q6 l=0then(if 10<ws.length then 1 else ZL l ws)else Q6 l
def ZW(l:FL)(ws:List Q9):FL:=if QJ l ws=0then Jc l ws else[]
theorem XN(w:Q9):QC w=0↔(1<=w.name.length∧w.name.length<=8)∧(1<=w.key.length∧w.key.length<=16)∧(if w.gone=L then w.value=[]else w.value.length<=32):=by
 unfold QC;by_cases hn:Qt w.name.length=0;·rw[if_pos hn];have hn':=(Zn _).1 hn;by_cases hg:w.gone=L;(·rw[if_pos hg,if_pos hg];by_cases hk:Qn w.key.length=0;(·rw[if_pos hk];have hk':=(Zl _).1 hk;by_cases hv:0<w.value.length;(·rw[if_pos hv];constructor;(·intro h;cases h);·intro h;rw[h.2.2]at hv;simp at hv);·rw[if_neg hv];exact⟨fun _=>⟨hn',hk',V (by omega)⟩,fun _=>rfl⟩);·rw[if_neg hk];constructor;(·intro h;exact absurd h hk);·intro h;exact absurd ((Zl _).2 h.2.1) hk);·rw[if_neg hg,if_neg hg,JA];exact⟨fun h=>⟨hn',h.1,h.2⟩,fun h=>⟨h.2.1,h.2.2⟩⟩
 ·rw[if_neg hn];constructor;(·intro h;exact absurd h hn);·intro h;exact absurd ((Zn _).2 h.1) hn
theorem I6{l:FL}(h:Zf l){w:Q9}(hw:QC w=0)(he:qF l w=0):ZC (XK l w):=by
 obtain⟨_,hk,hv⟩:=(XN w).1 hw;have hT:=Jm h w.name;unfold XK;unfold qF at he;by_cases hg:w.gone=L;·rw[if_pos hg];exact⟨rF (MD _ _) hT.room,fun p hp=>hT.pairs p (r8.1 hp).1,NQ _ _ hT.rises⟩
 ·rw[if_neg hg]at he hv⊢;(have h60:¬60<(JE (XY l w.name) (w.key,w.value)).length:=by intro h60;unfold Ke at he;by_cases h0:V2 (XY l w.name) (w.key,w.value)=0;(·rw[if_pos h0,if_pos h60]at he;cases he);·rw[if_neg h0]at he;exact h0 he);refine⟨by omega,fun q hq=>?_,Po _ _ hT.rises⟩;rcases MO _ _ q hq with rfl|hq;(·exact⟨hk,hv⟩);·exact hT.pairs q hq
theorem Er{l:FL}(h:Xq l)(w:Q9):Xq (QR l w):=by
 unfold QR;by_cases hn:(XK l w).length=0;·rw[if_pos hn];exact Bh _ _ h
 ·rw[if_neg hn];exact Dq _ _ h
theorem Ea{l:FL}(h:Xq l)(w:Q9)(n:List UInt8):XY (QR l w) n=if w.name=n then XK l w else XY l n:=by
 unfold QR;by_cases hn:(XK l w).length=0;·rw[if_pos hn];have hn':XK l w=[]:=V hn;rw[hn'];unfold XY;rw[Hd];by_cases e:w.name=n;(·rw[if_pos e,if_pos e];rfl);·rw[if_neg e,if_neg e]
 ·rw[if_neg hn];unfold XY;rw[Ob _ _ _ h];by_cases e:w.name=n;(·rw[if_pos e,if_pos e];rfl);·rw[if_neg e,if_neg e]
theorem Ut{l:FL}(h:Zf l){w:Q9}(hw:QC w=0)(he:XM l w=0):Zf (QR l w):=by
 have hE:qF l w=0:=by by_cases h0:qF l w=0;(·exact h0);·unfold XM at he;rw[if_neg h0]at he;exact absurd he h0
 have hl:(QR l w).length<=8:=by unfold XM at he;rw[if_pos hE]at he;by_cases h8:8<(QR l w).length;(·rw[if_pos h8]at he;cases he);·omega
 obtain⟨hn,_,_⟩:=(XN w).1 hw;refine⟨hl,fun t ht=>?_,Er h.rises w⟩;unfold QR at ht;by_cases h0:(XK l w).length=0;·rw[if_pos h0]at ht;exact h.tens t (r8.1 ht).1
 ·rw[if_neg h0]at ht;rcases Pn _ _ t ht with rfl|ht;(·exact⟨hn,fun e=>h0 (by rw[show XK l w=[]from e];rfl),I6 h hw hE⟩);·exact h.tens t ht
structure Rd where
  name : List UInt8
  key : List UInt8
  wide : Bool
  last : List UInt8
def Ze:Rd:=⟨[],[],tA,[]⟩
def XF(r:Rd):Int:=if Qt r.name.length=0then(if Qn r.key.length=0then(if r.wide=L then Qn r.last.length else(if 0<r.last.length then 4 else 0))else Qn r.key.length)else Qt r.name.length
theorem EP(r:Rd):XF r=0↔(1<=r.name.length∧r.name.length<=8)∧(1<=r.key.length∧r.key.length<=16)∧(if r.wide=L then 1<=r.last.length∧r.last.length<=16 else r.last=[]):=by
 unfold XF;by_cases hn:Qt r.name.length=0;·rw[if_pos hn];have hn':=(Zn _).1 hn;by_cases hk:Qn r.key.length=0;(·rw[if_pos hk];have hk':=(Zl _).1 hk;by_cases hw:r.wide=L;(·rw[if_pos hw,if_pos hw,Zl];exact⟨fun h=>⟨hn',hk',h⟩,fun h=>h.2.2⟩);·rw[if_neg hw,if_neg hw];by_cases hl:0<r.last.length;(·rw[if_pos hl];exact⟨fun h=>by omega,fun h=>by rw[h.2.2]at hl;simp at hl⟩);·rw[if_neg hl];exact⟨fun _=>⟨hn',hk',V (by omega)⟩,fun _=>rfl⟩);·rw[if_neg hk];exact⟨fun h=>absurd h hk,fun h=>absurd ((Zl _).2 h.2.1) hk⟩
 ·rw[if_neg hn];exact⟨fun h=>absurd h hn,fun h=>absurd ((Zn _).2 h.1) hn⟩
def Xb(w:I)(v:O)(p:Q9):Prop:=∃vn vk vv,v=pP #[vn,vk,pQ p.gone,vv]∧Qe w vn p.name∧Qe w vk p.key∧Qe w vv p.value
theorem Xb.grown{w w':I}{v:O}{p:Q9}(h:Xb w v p)(hg:J w w' H):Xb w' v p:=by
 obtain⟨vn,vk,vv,rfl,h1,h2,h3⟩:=h;exact⟨vn,vk,vv,rfl,h1.grown hg,h2.grown hg,h3.grown hg⟩
theorem Xb.aggW{w:I}{v:O}{p:Q9}(h:Xb w v p):∃na nc ka kc va vc,v=pP #[tH na p.name.length nc,tH ka p.key.length kc,pQ p.gone,tH va p.value.length vc]:=by
 obtain⟨vn,vk,vv,rfl,h1,h2,h3⟩:=h;obtain⟨na,nc,rfl⟩:=h1.shape;obtain⟨ka,kc,rfl⟩:=h2.shape;obtain⟨va,vc,rfl⟩:=h3.shape;exact⟨na,nc,ka,kc,va,vc,rfl⟩
def vI(w:I)(b o:Nat)(p:Q9):Prop:=∃vn vk vv,w.cell? ⟨b,o,H⟩=F vn∧w.cell? ⟨b,o+1,H⟩=F vk∧w.cell? ⟨b,o+2,H⟩=F (pQ p.gone)∧w.cell? ⟨b,o+3,H⟩=F vv∧Qe w vn p.name∧Qe w vk p.key∧Qe w vv p.value
theorem vI.grown{w w':I}{b o:Nat}{p:Q9}(h:vI w b o p)(hg:J w w' H):vI w' b o p:=by
 obtain⟨vn,vk,vv,c1,c2,c3,c4,h1,h2,h3⟩:=h;exact⟨vn,vk,vv,hg.cell c1 (by simp),hg.cell c2 (by simp),hg.cell c3 (by simp),hg.cell c4 (by simp),h1.grown hg,h2.grown hg,h3.grown hg⟩
def QN(w:I)(v:O)(l:List Q9):Prop:=∃a cap,v=tH a l.length cap∧l.length<=cap∧((l=[]∧(a=H->cap=0))∨∃b o,a=F ⟨b,o,H⟩∧∀i,i<l.length->vI w b (o+i*4) (l.getD i Qo))
theorem QN.shape{w:I}{v:O}{l:List Q9}(h:QN w v l):∃a cap,v=tH a l.length cap:=by
 obtain⟨a,cap,rfl,_⟩:=h;exact⟨a,cap,rfl⟩
theorem QN.grown{w w':I}{v:O}{l:List Q9}(h:QN w v l)(hg:J w w' H):QN w' v l:=by
 obtain⟨a,cap,rfl,hc,h⟩:=h;refine⟨a,cap,rfl,hc,?_⟩;rcases h with h|⟨b,o,rfl,h⟩;·exact .inl h
 ·exact .inr ⟨b,o,rfl,fun i hi=>(h i hi).grown hg⟩
theorem QN.at{w:I}{a:Option pG}{n cap:Nat}{l:List Q9}(h:QN w (tH a n cap) l)(i:Nat)(hi:i<l.length):∃b o,a=F ⟨b,o,H⟩∧vI w b (o+i*4) (l.getD i Qo):=by
 obtain⟨a',cap',e,hc,h⟩:=h;simp only[rD]at e;obtain⟨rfl,rfl,rfl⟩:=e;rcases h with⟨rfl,_⟩|⟨b,o,rfl,h⟩;·simp at hi
 ·exact⟨b,o,rfl,h i hi⟩
structure uL (l : List Q9) : Prop where
  many : l.length * 80 <= 140737488355328
  each : ∀ i, i < l.length -> YN (l.getD i Qo)
theorem uL.len{l:List Q9}(h:uL l):l.length<=140737488355328:=by
 have:=h.many;omega
structure XE where
  turn : Int
  writes : List Q9
def Zm:XE:=⟨0,[]⟩
def Ad:Nat->List Q9->Int|_,[]=>0|i,w::ws=>if(if 10<=i then(1:Int)else QC w)=0then Ad (i+1) ws else(if 10<=i then(1:Int)else QC w)
def QW(c:XE):Int:=if 1<=c.turn∧c.turn<=1048576then(if c.writes.length=0then 1 else Ad 0 c.writes)else 2
theorem LU:∀(ws:List Q9)(i:Nat),Ad i ws=0↔(ws=[]∨i+ws.length<=10)∧∀w∈ws,QC w=0|[],i=>by simp[Ad]|w::ws,i=>by have ih:=LU ws (i+1);rw[Ad];by_cases h10:10<=i;(·rw[if_pos h10,if_neg (by omega)];constructor;(·intro h;omega);·rintro⟨h|h,_⟩;(·cases h);·simp at h;omega);·rw[if_neg h10];by_cases hw:QC w=0;(·rw[if_pos hw,ih];constructor;(·rintro⟨h1,h2⟩;refine⟨.inr ?_,?_⟩;(·rcases h1 with rfl|h1;(·simp;omega);·simp;omega);·intro x hx;rcases tK.1 hx with rfl|hx;(·exact hw);·exact h2 x hx);·rintro⟨h1,h2⟩;refine⟨.inr ?_,fun x hx=>h2 x (sA _ hx)⟩;rcases h1 with h1|h1;(·cases h1);·simp at h1;omega);·rw[if_neg hw];constructor;(·intro h;exact absurd h hw);·rintro⟨_,h2⟩;exact absurd (h2 w (rV ..)) hw
theorem KQ(c:XE):QW c=0↔(1<=c.turn∧c.turn<=1048576)∧(1<=c.writes.length∧c.writes.length<=10)∧∀w∈c.writes,QC w=0:=by
 unfold QW;by_cases h1:1<=c.turn∧c.turn<=1048576;·rw[if_pos h1];by_cases h2:c.writes.length=0;(·rw[if_pos h2];constructor;(·intro h;omega);·rintro⟨_,h,_⟩;omega);·rw[if_neg h2,LU];constructor;(·rintro⟨h3|h3,h4⟩;(·rw[h3]at h2;simp at h2);·exact⟨h1,⟨by omega,by omega⟩,h4⟩);·rintro⟨_,h3,h4⟩;exact⟨.inr (by omega),h4⟩
 ·rw[if_neg h1];constructor;(·intro h;omega);·rintro⟨h,_⟩;exact absurd h h1
theorem dC(ws:List Q9)(i:Nat)(h:i<ws.length):Ad i (ws.drop i)=if(if 10<=i then(1:Int)else QC (ws.getD i Qo))=0then Ad (i+1) (ws.drop (i+1))else(if 10<=i then(1:Int)else QC (ws.getD i Qo)):=by
 rw[sF h,Ad,show ws[i]=ws.getD i Qo by simp[h]]
theorem eQ(ws:List Q9):Ad ws.length (ws.drop ws.length)=0:=by
 rw[List.drop_length,Ad]
def XP(p:List UInt8):List UInt8:=tD p.length::p
theorem qL(p:List UInt8):(XP p).length=p.length+1:=rfl
def Gw(w:Q9):List UInt8:=if w.gone=L then[255]else XP w.value
def Ye(w:Q9):List UInt8:=XP w.name++XP w.key++Gw w
def Va(t n:Nat):List UInt8:=[tD (t/65536),tD (t/256%256),tD (t%256),tD n]
def Zi(c:XE):List UInt8:=Va c.turn.toNat c.writes.length++c.writes.flatMap Ye
def Zv:List UInt8->Option (List UInt8×List UInt8)|[]=>H|x::r=>if x.toNat<=r.length then F (r.take x.toNat,r.drop x.toNat)else H
def uZ(n k r:List UInt8):Option (Q9×List UInt8):=if r.head?=F 255then F (⟨n,k,[],L⟩,r.tail)else match Zv r with|F (v,r2)=>F (⟨n,k,v,tA⟩,r2)|none=>H
def M5(n r:List UInt8):Option (Q9×List UInt8):=match Zv r with|F (k,r2)=>uZ n k r2|none=>H
def Ja(r:List UInt8):Option (Q9×List UInt8):=match Zv r with|F (n,r2)=>M5 n r2|none=>H
def ZZ:Nat->List UInt8->Option (List Q9×List UInt8)|0,r=>F ([],r)|n+1,r=>match Ja r with|F (w,r1)=>(match ZZ n r1 with|F (ws,r2)=>F (w::ws,r2)|none=>H)|none=>H
theorem D8{p:List UInt8}(h:p.length<256):(tD p.length).toNat=p.length:=by
 simp;omega
theorem Vs(p r:List UInt8)(h:p.length<256):Zv (XP p++r)=F (p,r):=by
 show Zv (tD p.length::(p++r))=_;rw[Zv,D8 h,if_pos (by simp),rO,rP]<;>rfl
theorem Gn{r p r2:List UInt8}(h:Zv r=F (p,r2)):r=XP p++r2:=by
 cases r with|nil=>cases h|cons x r=>rw[Zv]at h;by_cases hx:x.toNat<=r.length;(·rw[if_pos hx]at h;simp only[tR,sE]at h;obtain⟨rfl,rfl⟩:=h;(have hl:(r.take x.toNat).length=x.toNat:=by simp;omega);show x::r=tD (r.take x.toNat).length::(r.take x.toNat++r.drop x.toNat);rw[hl,tE];simp);·rw[if_neg hx]at h;cases h
theorem Au{r p r2:List UInt8}(h:Zv r=F (p,r2))(x:List UInt8):Zv (r++x)=F (p,r2++x):=by
 cases r with|nil=>cases h|cons y r=>rw[Zv]at h;by_cases hy:y.toNat<=r.length;(·rw[if_pos hy]at h;simp only[tR,sE]at h;obtain⟨rfl,rfl⟩:=h;show Zv (y::(r++x))=_;rw[Zv,if_pos (by simp;omega),pA hy,pB hy]);·rw[if_neg hy]at h;cases h
theorem AS{w:Q9}(hw:QC w=0)(r:List UInt8):Ja (Ye w++r)=F (w,r):=by
 obtain⟨h1,h2,h3⟩:=(XN w).1 hw;unfold Ja Ye;rw[tC,tC,Vs _ _ (by omega)];show M5 w.name (XP w.key++(Gw w++r))=_;unfold M5;rw[Vs _ _ (by omega)];show uZ w.name w.key (Gw w++r)=_;unfold uZ Gw;by_cases hg:w.gone=L;·rw[if_pos hg]at h3⊢;rw[if_pos (by rfl)];obtain⟨n,k,v,g⟩:=w;simp only at hg h3;subst hg h3;rfl
 ·rw[if_neg hg]at h3⊢;rw[if_neg,Vs _ _ (by omega)];(·obtain⟨n,k,v,g⟩:=w;simp only[Bool.not_eq_true]at hg;subst hg;rfl);·show¬(F (tD w.value.length)=F 255);intro e;have:=congrArg UInt8.toNat (rH e);rw[D8 (by omega)]at this;have h255:(255:UInt8).toNat=255:=rfl;omega
theorem FF:∀(ws:List Q9)(_:∀w∈ws,QC w=0)(r:List UInt8),ZZ ws.length (ws.flatMap Ye++r)=F (ws,r)|[],_,r=>rfl|w::ws,h,r=>by show ZZ (ws.length+1) ((w::ws).flatMap Ye++r)=_;rw[ZZ,rJ,tC,AS (h w (rV ..))];show(match ZZ ws.length (ws.flatMap Ye++r)with|F (ws',r2)=>F (w::ws',r2)|none=>H)=_;rw[FF ws (fun x hx=>h x (sA _ hx)) r]
theorem DO{r r2:List UInt8}{w:Q9}(h:Ja r=F (w,r2)):r=Ye w++r2:=by
 unfold Ja at h;cases h1:Zv r with|none=>rw[h1]at h;cases h|some q=>obtain⟨n,ra⟩:=q;rw[h1]at h;have h:M5 n ra=F (w,r2):=h;unfold M5 at h;cases h2:Zv ra with|none=>rw[h2]at h;cases h|some q=>obtain⟨k,rb⟩:=q;rw[h2]at h;have h:uZ n k rb=F (w,r2):=h;rw[Gn h1,Gn h2];unfold uZ at h;by_cases hg:rb.head?=F 255;(·rw[if_pos hg]at h;simp only[tR,sE]at h;obtain⟨rfl,rfl⟩:=h;cases rb with|nil=>cases hg|cons x rb=>obtain rfl:x=255:=rH hg;show XP n++(XP k++255::rb)=XP n++XP k++[255]++rb;simp[tC]);·rw[if_neg hg]at h;cases h3:Zv rb with|none=>rw[h3]at h;cases h|some q=>obtain⟨v,rc⟩:=q;rw[h3]at h;simp only[tR,sE]at h;obtain⟨rfl,rfl⟩:=h;rw[Gn h3];show XP n++(XP k++(XP v++rc))=XP n++XP k++XP v++rc;simp[tC]
theorem Ph:∀(n:Nat){r r2:List UInt8}{ws:List Q9},ZZ n r=F (ws,r2)->r=ws.flatMap Ye++r2∧ws.length=n|0,r,r2,ws,h=>by rw[ZZ]at h;simp only[tR,sE]at h;obtain⟨rfl,rfl⟩:=h;exact⟨rfl,rfl⟩|n+1,r,r2,ws,h=>by rw[ZZ]at h;cases h1:Ja r with|none=>rw[h1]at h;cases h|some q=>obtain⟨w,ra⟩:=q;rw[h1]at h;have h:(match ZZ n ra with|F (ws,r2)=>F (w::ws,r2)|none=>H)=F (ws,r2):=h;cases h2:ZZ n ra with|none=>rw[h2]at h;cases h|some q=>obtain⟨ws',rb⟩:=q;rw[h2]at h;simp only[tR,sE]at h;obtain⟨rfl,rfl⟩:=h;obtain⟨e1,e2⟩:=Ph n h2;exact⟨by rw[DO h1,e1,rJ,tC],by simp[e2]⟩
theorem xK : ∀ (n : Nat) (r : List UInt8), ZZ (n + 1) r = match ZZ n r with | F (ws, r1) => (match Ja r1 with | F (w, r2) => F (ws ++ [w], r2) | none => H) | none => H
  | 0, r => by
    rw [ZZ]
    cases h : Ja r with
    | none => simp [ZZ, h]
    | some q => obtain ⟨w, ra⟩ := q; simp [ZZ, h]
  | n + 1, r => by
    rw [ZZ]
    cases h : Ja r with
    | none =>
      show H = _
      rw [ZZ, h]
    | some q =>
      obtain ⟨w, ra⟩ := q
      show (match ZZ (n + 1) ra with | F (ws, r2) => F (w :: ws, r2) | none => H) = _
      rw [xK n ra, show ZZ (n + 1) r = (match ZZ n ra with | F (ws, r2) => F (w :: ws, r2) | none => H) by rw [ZZ, h]]
      cases h2 : ZZ n ra with
      | none => rfl
      | some q =>
        obtain ⟨ws, rb⟩ := q
        show (match (match Ja rb with | F (w, r2) => F (ws ++ [w], r2) | none => H) with | F (ws, r2) => F (w :: ws, r2) | none => H) = (match Ja rb with | F (w', r2) => F (w :: ws ++ [w'], r2) | none => H)
        cases Ja rb with
        | none => rfl
        | some q => rfl
def Gc(b:List UInt8):Nat:=65536*(b.getD 0 0).toNat+256*(b.getD 1 0).toNat+(b.getD 2 0).toNat
def G6(b:List UInt8):Option (List Q9×List UInt8):=ZZ (b.getD 3 0).toNat (b.drop 4)
def YE(b:List UInt8):Int:=if 4000<b.length then 1 else if b.length<4then 14 else match G6 b with|none=>14|F (ws,r)=>if r.length=0then QW ⟨(Gc b:Int),ws⟩else 4
def JB(b:List UInt8):XE:=if YE b=0then(match G6 b with|F (ws,_)=>⟨(Gc b:Int),ws⟩|none=>Zm)else Zm
theorem P6(t n:Nat):(Va t n).length=4:=rfl
theorem IJ(t n:Nat)(x:List UInt8)(ht:t<=1048576):Gc (Va t n++x)=t:=by
 show 65536*(tD (t/65536)).toNat+256*(tD (t/256%256)).toNat+(tD (t%256)).toNat=t;simp only[pU];omega
theorem Wh(t n:Nat)(x:List UInt8)(hn:n<=10):((Va t n++x).getD 3 0).toNat=n:=by
 show(tD n).toNat=n;simp;omega
theorem Hk(t n:Nat)(x:List UInt8):(Va t n++x).drop 4=x:=rfl
theorem Sx{w:Q9}(hw:QC w=0):(Ye w).length=3+w.name.length+w.key.length+w.value.length∧(Ye w).length<=59:=by
 obtain⟨h1,h2,h3⟩:=(XN w).1 hw;unfold Ye Gw;by_cases hg:w.gone=L;·rw[if_pos hg]at h3⊢;rw[h3];simp only[T,qL,r7,List.length_nil];omega
 ·rw[if_neg hg]at h3⊢;simp only[T,qL];omega
def Ln(ws:List Q9):Nat:=(ws.map fun w=>3+w.name.length+w.key.length+w.value.length).sum
theorem xT:∀(ws:List Q9)(_:∀w∈ws,QC w=0),(ws.flatMap Ye).length=Ln ws∧(ws.flatMap Ye).length<=59*ws.length|[],_=>by simp[Ln]|w::ws,h=>by obtain⟨i1,i2⟩:=xT ws (fun x hx=>h x (sA _ hx));obtain⟨j1,j2⟩:=Sx (h w (rV ..));rw[rJ,T];unfold Ln at i1⊢;rw[oG,List.sum_cons,r7];omega
theorem U9{c:XE}(h:QW c=0):(Zi c).length=4+Ln c.writes∧(Zi c).length<=594:=by
 obtain⟨_,h2,h3⟩:=(KQ c).1 h;obtain⟨i1,i2⟩:=xT c.writes h3;unfold Zi;rw[T,P6];omega
theorem DU{c:XE}(h:QW c=0)(x:List UInt8):G6 (Zi c++x)=F (c.writes,x)∧Gc (Zi c++x)=c.turn.toNat:=by
 obtain⟨h1,h2,h3⟩:=(KQ c).1 h;unfold G6 Zi;rw[tC,Wh _ _ _ h2.2,Hk,IJ _ _ _ (by omega)];exact⟨FF _ h3 _,rfl⟩
theorem Dr{c:XE}(h:QW c=0):YE (Zi c)=0∧JB (Zi c)=c:=by
 obtain⟨h1,h2,h3⟩:=(KQ c).1 h;obtain⟨s1,s2⟩:=U9 h;obtain⟨b1,b2⟩:=DU h [];rw[tW]at b1 b2;have hc:(⟨(Gc (Zi c):Int),c.writes⟩:XE)=c:=by rw[b2,Int.toNat_of_nonneg (by omega)]
 have hd:YE (Zi c)=0:=by rw[YE,if_neg (by omega),if_neg (by omega),b1];show(if([]:List UInt8).length=0then QW ⟨(Gc (Zi c):Int),c.writes⟩else 4)=0;rw[if_pos (show([]:List UInt8).length=0from rfl),hc,h]
 refine⟨hd,?_⟩;rw[JB,if_pos hd,b1];exact hc
theorem ME{b:List UInt8}(h:YE b=0):QW (JB b)=0∧Zi (JB b)=b:=by
 have hC:JB b=(match G6 b with|F (ws,_)=>⟨(Gc b:Int),ws⟩|none=>Zm):=by rw[JB,if_pos h]
 rw[YE]at h;by_cases h1:4000<b.length;·rw[if_pos h1]at h;omega
 rw[if_neg h1]at h;by_cases h2:b.length<4;·rw[if_pos h2]at h;omega
 rw[if_neg h2]at h;cases hb:G6 b with|none=>rw[hb]at h;simp at h|some q=>obtain⟨ws,r⟩:=q;rw[hb]at h hC;have h:(if r.length=0then QW ⟨(Gc b:Int),ws⟩else 4)=0:=h;have hC:JB b=⟨(Gc b:Int),ws⟩:=hC;by_cases hr:r.length=0;(·rw[if_pos hr]at h;obtain rfl:r=[]:=V hr;rw[hC];refine⟨h,?_⟩;obtain⟨k1,k2,k3⟩:=(KQ _).1 h;unfold G6 at hb;obtain⟨e1,e2⟩:=Ph _ hb;rw[tW]at e1;show Va ((Gc b:Int)).toNat ws.length++ws.flatMap Ye=b;rw[<-e1,e2,rK];match b,h2 with|x0::x1::x2::x3::t,_=>show Va (65536*x0.toNat+256*x1.toNat+x2.toNat) x3.toNat++t=_;have a0:=x0.toNat_lt;have a1:=x1.toNat_lt;have a2:=x2.toNat_lt;have a3:=x3.toNat_lt;unfold Va;rw[show(65536*x0.toNat+256*x1.toNat+x2.toNat)/65536=x0.toNat by omega,show(65536*x0.toNat+256*x1.toNat+x2.toNat)/256%256=x1.toNat by omega,show(65536*x0.toNat+256*x1.toNat+x2.toNat)%256=x2.toNat by omega];simp);·rw[if_neg hr]at h;omega
def FY(b:List UInt8):List UInt8:=tD (b.length/256)::tD (b.length%256)::b
theorem xC(b:List UInt8):(FY b).length=b.length+2:=rfl
def ZD(D:List UInt8->List UInt8)(c:XE):List UInt8:=FY (Zi c)++D (FY (Zi c))
def Zh(r:List UInt8):Nat:=256*(r.getD 0 0).toNat+(r.getD 1 0).toNat
def XI(D:List UInt8->List UInt8)(r:List UInt8):Option (XE×List UInt8):=if r.length<6then H else if r.length<Zh r+6∨4000<Zh r+2then H else if D (r.take (Zh r+2))=(r.drop (Zh r+2)).take 4then(if YE ((r.drop 2).take (Zh r))=0then F (JB ((r.drop 2).take (Zh r)),r.drop (Zh r+6))else H)else H
theorem Al{D:List UInt8->List UInt8}{r r2:List UInt8}{c:XE}(h:XI D r=F (c,r2)):∃m,6<=m∧m<=r.length∧r2=r.drop m∧QW c=0:=by
 unfold XI at h;by_cases h1:r.length<6;·rw[if_pos h1]at h;cases h
 rw[if_neg h1]at h;by_cases h2:r.length<Zh r+6∨4000<Zh r+2;·rw[if_pos h2]at h;cases h
 rw[if_neg h2]at h;by_cases h3:D (r.take (Zh r+2))=(r.drop (Zh r+2)).take 4;·rw[if_pos h3]at h;by_cases h4:YE ((r.drop 2).take (Zh r))=0;(·rw[if_pos h4]at h;simp only[tR,sE]at h;obtain⟨rfl,rfl⟩:=h;exact⟨Zh r+6,by omega,by omega,rfl,(ME h4).1⟩);·rw[if_neg h4]at h;cases h
 ·rw[if_neg h3]at h;cases h
theorem Ng{b:List UInt8}(h:b.length<65536)(x:List UInt8):Zh (FY b++x)=b.length:=by
 show 256*(tD (b.length/256)).toNat+(tD (b.length%256)).toNat=b.length;simp only[pU];omega
theorem PQ{D:List UInt8->List UInt8}(hD:∀x,(D x).length=4)(c:XE):(ZD D c).length=(Zi c).length+6:=by
 unfold ZD;rw[T,hD,xC]
theorem Af{D:List UInt8->List UInt8}(hD:∀x,(D x).length=4){c:XE}(h:QW c=0)(r:List UInt8):XI D (ZD D c++r)=F (c,r):=by
 obtain⟨s1,s2⟩:=U9 h;obtain⟨d1,d2⟩:=Dr h;have hl:=PQ hD c;have hz:Zh (ZD D c++r)=(Zi c).length:=by unfold ZD;rw[tC];exact Ng (by omega) _
 have ht:(ZD D c++r).take ((Zi c).length+2)=FY (Zi c):=by unfold ZD;rw[tC];exact rO (xC _)
 have hd:(ZD D c++r).drop ((Zi c).length+2)=D (FY (Zi c))++r:=by unfold ZD;rw[tC];exact rP (xC _)
 have hm:((ZD D c++r).drop 2).take (Zi c).length=Zi c:=by unfold ZD;rw[tC];exact rO rfl
 have he:(ZD D c++r).drop ((Zi c).length+6)=r:=rP hl;have hlen:(ZD D c++r).length=(Zi c).length+6+r.length:=by rw[T,hl]
 unfold XI;rw[if_neg (by omega),hz,if_neg (by omega),ht,hd,hm,he,if_pos (rO (hD _)).symm,if_pos d1,d2]
theorem Lj{D:List UInt8->List UInt8}(hD:∀x,(D x).length=4){c:XE}(h:QW c=0)(k:Nat)(hk:k<(ZD D c).length):XI D ((ZD D c).take k)=H:=by
 obtain⟨s1,s2⟩:=U9 h;have hl:=PQ hD c;have hkl:((ZD D c).take k).length=k:=by simp;omega
 unfold XI;by_cases h6:k<6;·rw[if_pos (by omega)]
 ·(have hz:Zh ((ZD D c).take k)=(Zi c).length:=by(have hz:Zh (ZD D c++[])=(Zi c).length:=by unfold ZD;rw[tC];exact Ng (by omega) _);rw[tW]at hz;rw[<-hz];unfold Zh;simp only[List.getD_eq_getElem?_getD,pW];rw[if_pos (by omega),if_pos (by omega)]);rw[if_neg (by omega),hz,if_pos (by omega)]
def Kz(D:List UInt8->List UInt8)(turn:Nat)(r:List UInt8):List XE×List UInt8:=match h:XI D r with|F (c,r2)=>if c.turn=(turn:Int)then(c::(Kz D (turn+1) r2).1,(Kz D (turn+1) r2).2)else([],r)|none=>([],r)termination_by r.length decreasing_by
 all_goals obtain⟨m,h1,h2,h3,_⟩:=Al h;rw[h3,oC];omega
theorem Oq{D:List UInt8->List UInt8}{turn:Nat}{r r2:List UInt8}{c:XE}(h:XI D r=F (c,r2))(ht:c.turn=(turn:Int)):Kz D turn r=(c::(Kz D (turn+1) r2).1,(Kz D (turn+1) r2).2):=by
 rw[Kz];split;·next c' r' h'=>rw[h]at h';simp only[tR,sE]at h';obtain⟨rfl,rfl⟩:=h';rw[if_pos ht]
 ·next h'=>rw[h]at h';cases h'
theorem Iq{D:List UInt8->List UInt8}{turn:Nat}{r r2:List UInt8}{c:XE}(h:XI D r=F (c,r2))(ht:c.turn≠(turn:Int)):Kz D turn r=([],r):=by
 rw[Kz];split;·next c' r' h'=>rw[h]at h';simp only[tR,sE]at h';obtain⟨rfl,rfl⟩:=h';rw[if_neg ht]
 ·rfl
theorem Rf{D:List UInt8->List UInt8}{turn:Nat}{r:List UInt8}(h:XI D r=H):Kz D turn r=([],r):=by
 rw[Kz];split;·next c' r' h'=>rw[h]at h';cases h'
 ·rfl
theorem IQ(D:List UInt8->List UInt8):XI D []=H:=by
 unfold XI;rw[if_pos (by simp)]
def zB:Nat->List XE->Prop|_,[]=>True|t,c::cs=>c.turn=(t:Int)∧QW c=0∧zB (t+1) cs
theorem zB.take:∀{t:Nat}{cs:List XE}(_:zB t cs)(j:Nat),zB t (cs.take j)|_,[],_,j=>by rw[oH];trivial|_,c::cs,_,0=>trivial|t,c::cs,h,j+1=>⟨h.1,h.2.1,zB.take h.2.2 j⟩
def QT(D:List UInt8->List UInt8)(cs:List XE):List UInt8:=cs.flatMap (ZD D)
theorem KJ(D:List UInt8->List UInt8)(c:XE)(cs:List XE):QT D (c::cs)=ZD D c++QT D cs:=rJ
theorem VA(D:List UInt8->List UInt8)(a b:List XE):QT D (a++b)=QT D a++QT D b:=List.flatMap_append
theorem PC(D:List UInt8->List UInt8)(c:XE):QT D [c]=ZD D c:=by
 simp[QT]
def DV(D:List UInt8->List UInt8)(r:List UInt8):Nat:=r.length-(Kz D 1 r).2.length
theorem Bn{D:List UInt8->List UInt8}(hD:∀x,(D x).length=4):∀{t:Nat}{cs:List XE}(_:zB t cs)(k:Nat),∃j,j<=cs.length∧Kz D t ((QT D cs).take k)=(cs.take j,((QT D cs).take k).drop (QT D (cs.take j)).length)∧(QT D (cs.take j)).length<=k∧(QT D (cs.take j)).length<=(QT D cs).length∧(j<cs.length->k<(QT D (cs.take (j+1))).length)|t,[],_,k=>⟨0,by simp,by show Kz D t (([]:List UInt8).take k)=_;rw[oH,Rf (IQ D)];simp[QT],by simp[QT],by simp[QT],fun h=>by simp at h⟩|t,c::cs,h,k=>by by_cases hk:k<(ZD D c).length;(·refine⟨0,by simp,?_,by simp[QT],by simp[QT],fun _=>?_⟩;(·rw[KJ,pA (by omega),Rf (Lj hD h.2.1 k hk)];simp[QT]);·show k<(QT D [c]).length;rw[PC];exact hk);·obtain⟨j,h1,h2,h3,h4,h5⟩:=Bn hD h.2.2 (k-(ZD D c).length);(have ht:(QT D (c::cs)).take k=ZD D c++(QT D cs).take (k-(ZD D c).length):=by rw[KJ,List.take_append,pJ (by omega)]);refine⟨j+1,by simp;omega,?_,?_,?_,fun hj=>?_⟩;(·rw[ht,Oq (Af hD h.2.1 _) h.1,h2,sH,KJ];rw[T,<-List.drop_drop,rP rfl]);(·rw[sH,KJ,T];omega);(·rw[sH,KJ,KJ,T,T];omega);·have:=h5 (by simpa using hj);rw[sH,KJ,T];omega
theorem UY(D:List UInt8->List UInt8)(cs:List XE)(i j:Nat)(h:i<=j):(QT D (cs.take i)).length<=(QT D (cs.take j)).length:=by
 have:cs.take i=(cs.take j).take i:=by rw[List.take_take,oF h]
 rw[this];conv=>rhs;rw[<-tE i (cs.take j),VA]
 rw[T];omega
theorem RY{D:List UInt8->List UInt8}{cs:List XE}{k j i:Nat}(hi:i<=cs.length)(hj:j<cs.length->k<(QT D (cs.take (j+1))).length)(hk:(QT D (cs.take i)).length<=k):i<=j:=by
 by_cases h:i<=j;·exact h
 ·have:=UY D cs (j+1) i (by omega);have:=hj (by omega);omega
theorem Na(t:PL)(p:Pr)(h:∀q∈t,(1<=q.1.length∧q.1.length<=16)∧q.2.length<=32)(hp:(1<=p.1.length∧p.1.length<=16)∧p.2.length<=32):∀q∈JE t p,(1<=q.1.length∧q.1.length<=16)∧q.2.length<=32:=by
 intro q hq;rcases MO t p q hq with rfl|hq;·exact hp
 ·exact h q hq
theorem L8:∀(t:PL)(p:Pr)(k:Nat),k<=t.length->(∀j,j<k->Ym (t.getD j ([],[])).1 p.1=L)->(k<t.length->Ym (t.getD k ([],[])).1 p.1=tA)->JE t p=if k<t.length∧(t.getD k ([],[])).1=p.1then t.set k p else t.take k++([p]++t.drop k)|[],p,k,hk,_,_=>by(obtain rfl:k=0:=by simpa using hk);simp[JE]|q::r,p,0,_,_,h2=>by have h:=h2 (by simp);simp only[tY]at h;rw[JE,if_neg (by rw[h];simp)];by_cases e:q.1=p.1;(·rw[if_pos e,if_pos ⟨by simp,by simpa using e⟩];simp);·rw[if_neg e,if_neg (fun h=>e (by simpa using h.2))];simp|q::r,p,k+1,hk,h1,h2=>by have h:=h1 0 (by omega);simp only[tY]at h;rw[JE,if_pos h,L8 r p k (by simpa using hk) (fun j hj=>by simpa using h1 (j+1) (by omega)) (fun hk=>by simpa using h2 (by simpa using hk))];by_cases e:k<r.length∧(r.getD k ([],[])).1=p.1;(·rw[if_pos e,if_pos ⟨by simpa using e.1,by simpa using e.2⟩];simp);·rw[if_neg e,if_neg (fun h=>e ⟨by simpa using h.1,by simpa using h.2⟩)];simp
theorem dN(t:PL)(p:Pr)(h:ZC t)(hp:(1<=p.1.length∧p.1.length<=16)∧p.2.length<=32)(hl:t.length<60):Ke t p=0∧Vr t p=JE t p∧ZC (JE t p):=by
 have h0:V2 t p=0:=by rw[V2,if_pos ((YM t).2 h)];exact(JA p).2 hp
 have hlen:=LP t p;have h1:Ke t p=0:=by rw[Ke,if_pos h0,if_neg (by omega)]
 exact⟨h1,by rw[Vr,if_pos h1],⟨by omega,Na t p h.pairs hp,Po t p h.rises⟩⟩
def vL(m:Nat)(l:FL):Prop:=∀n,(XY l n).length<=m
theorem Nw:vL 0 []:=fun n=>by
 rw[iF];simp
theorem bU(l:FL)(w:Q9):(XK l w).length<=(XY l w.name).length+1:=by
 unfold XK;by_cases hg:w.gone=L;·rw[if_pos hg];have:=MD (XY l w.name) w.key;omega
 ·rw[if_neg hg];exact LP _ _
theorem jX{l:FL}{m:Nat}(hr:Xq l)(h:vL m l)(w:Q9):vL (m+1) (QR l w):=fun n=>by
 rw[Ea hr];by_cases e:w.name=n;·rw[if_pos e];have:=bU l w;have:=h w.name;omega
 ·rw[if_neg e];have:=h n;omega
theorem fW{l:FL}{m:Nat}(h:Zf l){w:Q9}(hw:QC w=0)(hs:vL m l)(hm:m<60):qF l w=0:=by
 obtain⟨_,hk,hv⟩:=(XN w).1 hw;have hT:=Jm h w.name;have hl:=hs w.name;unfold qF;by_cases hg:w.gone=L;·rw[if_pos hg];exact jN hT hk
 ·rw[if_neg hg]at hv⊢;exact(dN _ _ hT ⟨hk,hv⟩ (by omega)).1
theorem xB{l:FL}{m:Nat}(h:Zf l){w:Q9}(hw:QC w=0)(hs:vL m l)(hm:m<60):XM l w=if 8<(QR l w).length then 11 else 0:=by
 rw[XM,if_pos (fW h hw hs hm)]
theorem Fi(l:FL)(w:Q9):(QR l w).length<=l.length+1:=by
 unfold QR;by_cases hn:(XK l w).length=0;·rw[if_pos hn];have:=N7 l w.name;omega
 ·rw[if_neg hn];exact WZ _ _
theorem Bf{l:FL}(h:Zf l)(w:Q9)(n k:List UInt8):Ul (XY (QR l w) n) k=if w.name=n∧w.key=k then(if w.gone=L then H else F w.value)else Ul (XY l n) k:=by
 rw[Ea h.rises];by_cases e:w.name=n;·subst e;rw[if_pos rfl];unfold XK;by_cases hg:w.gone=L;(·rw[if_pos hg,if_pos hg,eY];by_cases e2:w.key=k;(·rw[if_pos e2,if_pos ⟨rfl,e2⟩]);·rw[if_neg e2,if_neg (fun h=>e2 h.2)]);·rw[if_neg hg,if_neg hg,fU _ _ _ (Jm h _).rises];by_cases e2:w.key=k;(·rw[if_pos e2,if_pos ⟨rfl,e2⟩]);·rw[if_neg e2,if_neg (fun h=>e2 h.2)]
 ·rw[if_neg e,if_neg (fun h=>e h.1)]
theorem DS{l m:FL}(hl:Zf l)(hm:Zf m)(h:∀n k,Ul (XY l n) k=Ul (XY m n) k):l=m:=Sd hl hm fun n=>Nv _ _ (Jm hl n).rises (Jm hm n).rises (h n)
theorem vP:∀(ws:List Q9)(l:FL),Zf l->ZL l ws=0->Zf (Jc l ws)|[],l,h,_=>h|w::ws,l,h,he=>by rw[ZL]at he;by_cases hw:QC w=0;(·rw[if_pos hw]at he;by_cases h2:XM l w=0;(·rw[if_pos h2]at he;exact vP ws _ (Ut h hw h2) he);·rw[if_neg h2]at he;exact absurd he h2);·rw[if_neg hw]at he;exact absurd he hw
theorem R9{l:FL}(h:Zf l)(ws:List Q9)(hn:ws.length<=10):QJ l ws=ZL l ws:=by
 rw[QJ,if_pos ((Xm l).2 h),if_neg (by omega)]
theorem IC{l:FL}(h:Zf l)(ws:List Q9)(hn:ws.length<=10):ZW l ws=if ZL l ws=0then Jc l ws else[]:=by
 rw[ZW,R9 h ws hn]
def GJ(l:FL)(n:List UInt8):Int:=if Q6 l=0then Qt n.length else Q6 l
theorem OK{l:FL}{n:List UInt8}(h:Zf l)(hn:1<=n.length∧n.length<=8):GJ l n=0:=by
 rw[GJ,if_pos ((Xm l).2 h)];exact(Zn _).2 hn
theorem qY{l:FL}{n:List UInt8}(h:GJ l n=0):Zf l∧(1<=n.length∧n.length<=8):=by
 unfold GJ at h;by_cases h0:Q6 l=0;·rw[if_pos h0]at h;exact⟨(Xm l).1 h0,(Zn _).1 h⟩
 ·rw[if_neg h0]at h;exact absurd h h0
def U4(l:FL)(n k:List UInt8):Int:=if GJ l n=0then Xd (XY l n) k else GJ l n
def K3(l:FL)(n k:List UInt8):Bool:=if GJ l n=0then TL (XY l n) k else tA
def K7(l:FL)(n k:List UInt8):List UInt8:=if GJ l n=0then Rg (XY l n) k else[]
theorem eZ{l:FL}(h:Zf l)(n k:List UInt8)(hn:1<=n.length∧n.length<=8)(hk:1<=k.length∧k.length<=16):U4 l n k=0∧K3 l n k=(Ul (XY l n) k).isSome∧K7 l n k=(Ul (XY l n) k).getD []:=by
 have h0:=OK h hn;have hE:=jN (Jm h n) hk;refine⟨by rw[U4,if_pos h0,hE],by rw[K3,if_pos h0,TL,hE];rfl,by rw[K7,if_pos h0,Rg,if_pos hE]⟩
def YA(l:FL)(n f t:List UInt8):Int:=if GJ l n=0then Yz (XY l n) f t else GJ l n
def Kf(l:FL)(n f t:List UInt8):PL:=if GJ l n=0then KM (XY l n) f t else[]
structure Rq where
  kind : Int
  name : List UInt8
  key : List UInt8
  last : List UInt8
  value : List UInt8
def JT:Rq:=⟨0,[],[],[],[]⟩
def QU(k:Int):Bool:=tI (2<=k∧k<=5)||tI (k=8)
def jD(r:Rq):Int:=if QU r.kind=L then(if Qt r.name.length=0then(if Qn r.key.length=0then(if r.kind=3then Qn r.last.length else 0)else Qn r.key.length)else Qt r.name.length)else 0
def El(r:Rq):Int:=if QU r.kind=tA∧0<r.name.length+r.key.length then 4 else if(r.kind≠3∧0<r.last.length)∨(r.kind≠4∧0<r.value.length)then 4 else 0
def Yg(r:Rq):Int:=if 1<=r.kind∧r.kind<=8then(if jD r=0then(if 32<r.value.length then 1 else El r)else jD r)else 5
structure Kc(r:Rq):Prop where kind:1<=r.kind∧r.kind<=8name:QU r.kind=L->1<=r.name.length∧r.name.length<=8key:QU r.kind=L->1<=r.key.length∧r.key.length<=16last:r.kind=3->1<=r.last.length∧r.last.length<=16value:r.value.length<=32noName:QU r.kind=tA->r.name=[]noKey:QU r.kind=tA->r.key=[]noLast:r.kind≠3->r.last=[]noValue:r.kind≠4->r.value=[]
theorem FH(r:Rq):jD r=0↔(QU r.kind=L->(1<=r.name.length∧r.name.length<=8)∧(1<=r.key.length∧r.key.length<=16)∧(r.kind=3->1<=r.last.length∧r.last.length<=16)):=by
 unfold jD;by_cases h:QU r.kind=L;·rw[if_pos h];by_cases h1:Qt r.name.length=0;(·rw[if_pos h1];by_cases h2:Qn r.key.length=0;(·rw[if_pos h2];by_cases h3:r.kind=3;(·rw[if_pos h3,Zl];exact⟨fun e _=>⟨(Zn _).1 h1,(Zl _).1 h2,fun _=>e⟩,fun e=>(e h).2.2 h3⟩);·rw[if_neg h3];exact⟨fun _ _=>⟨(Zn _).1 h1,(Zl _).1 h2,fun e=>absurd e h3⟩,fun _=>rfl⟩);·rw[if_neg h2];exact⟨fun e=>absurd e h2,fun e=>(Zl _).2 (e h).2.1⟩);·rw[if_neg h1];exact⟨fun e=>absurd e h1,fun e=>(Zn _).2 (e h).1⟩
 ·rw[if_neg h];exact⟨fun _ e=>absurd e h,fun _=>rfl⟩
theorem Ia{l:List UInt8}(h:¬0<l.length):l=[]:=V (by
 omega)
theorem Sq(r:Rq):El r=0↔(QU r.kind=tA->r.name=[]∧r.key=[])∧(r.kind≠3->r.last=[])∧(r.kind≠4->r.value=[]):=by
 unfold El;by_cases h1:QU r.kind=tA∧0<r.name.length+r.key.length;·rw[if_pos h1];refine⟨fun e=>(by cases e),fun e=>?_⟩;have:=e.1 h1.1;rw[this.1,this.2]at h1;simp at h1
 ·rw[if_neg h1];by_cases h2:(r.kind≠3∧0<r.last.length)∨(r.kind≠4∧0<r.value.length);(·rw[if_pos h2];refine⟨fun e=>(by cases e),fun e=>?_⟩;rcases h2 with h2|h2;(·rw[e.2.1 h2.1]at h2;simp at h2);·rw[e.2.2 h2.1]at h2;simp at h2);·rw[if_neg h2];refine⟨fun _=>⟨fun h=>?_,fun h=>Ia fun e=>h2 (.inl ⟨h,e⟩),fun h=>Ia fun e=>h2 (.inr ⟨h,e⟩)⟩,fun _=>rfl⟩;have hz:¬0<r.name.length+r.key.length:=fun e=>h1 ⟨h,e⟩;exact⟨Ia (by omega),Ia (by omega)⟩
theorem Vv(r:Rq):Yg r=0↔Kc r:=by
 unfold Yg;by_cases h0:1<=r.kind∧r.kind<=8;·rw[if_pos h0];by_cases h1:jD r=0;(·rw[if_pos h1];have hp:=(FH r).1 h1;by_cases h2:32<r.value.length;(·rw[if_pos h2];exact⟨fun e=>(by cases e),fun e=>by have:=e.value;omega⟩);·rw[if_neg h2,Sq];refine⟨fun⟨e1,e2,e3⟩=>⟨h0,fun h=>(hp h).1,fun h=>(hp h).2.1,fun h=>(hp (by rw[h];decide)).2.2 h,by omega,fun h=>(e1 h).1,fun h=>(e1 h).2,e2,e3⟩,fun e=>⟨fun h=>⟨e.noName h,e.noKey h⟩,e.noLast,e.noValue⟩⟩);·rw[if_neg h1];refine⟨fun e=>absurd e h1,fun e=>(FH r).2 fun h=>⟨e.name h,e.key h,e.last⟩⟩
 ·rw[if_neg h0];exact⟨fun e=>(by cases e),fun e=>absurd e.kind h0⟩
def Xp(c:Bool)(p:List UInt8):List UInt8:=if c=L then XP p else[]
def Jg(c:Bool)(r:List UInt8):Option (List UInt8×List UInt8):=if c=L then Zv r else F ([],r)
theorem yZ(c:Bool)(p r:List UInt8)(h:c=L->p.length<256)(h0:c=tA->p=[]):Jg c (Xp c p++r)=F (p,r):=by
 cases c with|true=>exact Vs p r (h rfl)|false=>rw[h0 rfl];rfl
theorem VU{c:Bool}{r p r2:List UInt8}(h:Jg c r=F (p,r2)):r=Xp c p++r2:=by
 cases c with|true=>exact Gn h|false=>(obtain⟨rfl,rfl⟩:[]=p∧r=r2:=by simpa[Jg]using h);rfl
theorem jP{c:Bool}{r p r2:List UInt8}(h:Jg c r=F (p,r2))(x:List UInt8):Jg c (r++x)=F (p,r2++x):=by
 cases c with|true=>exact Au h x|false=>(obtain⟨rfl,rfl⟩:[]=p∧r=r2:=by simpa[Jg]using h);rfl
theorem Io{c:Bool}{r p r2:List UInt8}(h:Jg c r=F (p,r2))(hc:c=tA):p=[]:=by
 subst hc;have:[]=p∧r=r2:=by simpa[Jg]using h
 exact this.1.symm
def zR(r:Rq):List UInt8:=Xp (QU r.kind) r.name++(Xp (QU r.kind) r.key++(Xp (tI (r.kind=3)) r.last++Xp (tI (r.kind=4)) r.value))
def Je(r:Rq):List UInt8:=tD r.kind.toNat::zR r
def Vm(k:Int)(n q l r:List UInt8):Option (Rq×List UInt8):=match Jg (tI (k=4)) r with|F (v,r2)=>F (⟨k,n,q,l,v⟩,r2)|none=>H
def Vn(k:Int)(n q r:List UInt8):Option (Rq×List UInt8):=match Jg (tI (k=3)) r with|F (l,r2)=>Vm k n q l r2|none=>H
def Vl(k:Int)(n r:List UInt8):Option (Rq×List UInt8):=match Jg (QU k) r with|F (q,r2)=>Vn k n q r2|none=>H
def Yc(k:Int)(r:List UInt8):Option (Rq×List UInt8):=match Jg (QU k) r with|F (n,r2)=>Vl k n r2|none=>H
theorem Nl{r:Rq}(h:Kc r)(x:List UInt8):Yc r.kind (zR r++x)=F (r,x):=by
 have e1:=yZ (QU r.kind) r.name (Xp (QU r.kind) r.key++(Xp (tI (r.kind=3)) r.last++(Xp (tI (r.kind=4)) r.value++x))) (fun e=>by have:=h.name e;omega) h.noName;have e2:=yZ (QU r.kind) r.key (Xp (tI (r.kind=3)) r.last++(Xp (tI (r.kind=4)) r.value++x)) (fun e=>by have:=h.key e;omega) h.noKey;have e3:=yZ (tI (r.kind=3)) r.last (Xp (tI (r.kind=4)) r.value++x) (fun e=>by have:=h.last (by simpa using e);omega) (fun e=>h.noLast (by simpa using e));have e4:=yZ (tI (r.kind=4)) r.value x (fun _=>by have:=h.value;omega) (fun e=>h.noValue (by simpa using e));rw[zR,tC,tC,tC,Yc,e1];show Vl _ _ _=_;rw[Vl,e2];show Vn _ _ _ _=_;rw[Vn,e3];show Vm _ _ _ _ _=_;rw[Vm,e4]
theorem uC{k:Int}{b x:List UInt8}{r:Rq}(h:Yc k b=F (r,x)):r.kind=k∧∃r1 r2 r3,Jg (QU k) b=F (r.name,r1)∧Jg (QU k) r1=F (r.key,r2)∧Jg (tI (k=3)) r2=F (r.last,r3)∧Jg (tI (k=4)) r3=F (r.value,x):=by
 rw[Yc]at h;match h1:Jg (QU k) b with|none=>rw[h1]at h;cases h|F (n,r1)=>rw[h1]at h;replace h:Vl k n r1=F (r,x):=h;rw[Vl]at h;match h2:Jg (QU k) r1 with|none=>rw[h2]at h;cases h|F (q,r2)=>rw[h2]at h;replace h:Vn k n q r2=F (r,x):=h;rw[Vn]at h;match h3:Jg (tI (k=3)) r2 with|none=>rw[h3]at h;cases h|F (l,r3)=>rw[h3]at h;replace h:Vm k n q l r3=F (r,x):=h;rw[Vm]at h;match h4:Jg (tI (k=4)) r3 with|none=>rw[h4]at h;cases h|F (v,r4)=>rw[h4]at h;(obtain⟨rfl,rfl⟩:(⟨k,n,q,l,v⟩:Rq)=r∧r4=x:=by simpa using h);exact⟨rfl,r1,r2,r3,rfl,h2,h3,h4⟩
theorem dQ{k:Int}{b r1 r2 r3 x n q l v:List UInt8}(h1:Jg (QU k) b=F (n,r1))(h2:Jg (QU k) r1=F (q,r2))(h3:Jg (tI (k=3)) r2=F (l,r3))(h4:Jg (tI (k=4)) r3=F (v,x)):Yc k b=F (⟨k,n,q,l,v⟩,x):=by
 rw[Yc,h1];show Vl _ _ _=_;rw[Vl,h2];show Vn _ _ _ _=_;rw[Vn,h3];show Vm _ _ _ _ _=_;rw[Vm,h4]
theorem TN{k:Int}{b x:List UInt8}{r:Rq}(h:Yc k b=F (r,x)):b=zR r++x∧r.kind=k:=by
 obtain⟨hk,r1,r2,r3,h1,h2,h3,h4⟩:=uC h;refine⟨?_,hk⟩;rw[zR,hk,VU h1,VU h2,VU h3,VU h4];simp[tC]
theorem Ww{k:Int}{b y:List UInt8}{r:Rq}(h:Yc k b=F (r,y))(x:List UInt8):Yc k (b++x)=F (r,y++x):=by
 obtain⟨hk,r1,r2,r3,h1,h2,h3,h4⟩:=uC h;have:=dQ (jP h1 x) (jP h2 x) (jP h3 x) (jP h4 x);rw[this,<-hk]
def Up(b:List UInt8):Int:=((b.getD 0 0).toNat:Int)
def XG(b:List UInt8):Int:=if 4000<b.length then 1 else if b.length=0then 14 else if 1<=Up b∧Up b<=8then(match Yc (Up b) (b.drop 1)with|none=>14|F (r,x)=>if x.length=0then Yg r else 4)else 5
def JY(b:List UInt8):Rq:=if XG b=0then(match Yc (Up b) (b.drop 1)with|F (r,_)=>r|none=>JT)else JT
theorem NA{r:Rq}(h:Kc r)(x:List UInt8):Up (Je r++x)=r.kind∧(Je r++x).drop 1=zR r++x:=by
 have h0:=h.kind;refine⟨?_,rfl⟩;show(((tD r.kind.toNat).toNat:Nat):Int)=r.kind;simp;omega
theorem KX(c:Bool)(p:List UInt8):(Xp c p).length<=p.length+1:=by
 cases c with|true=>exact sC _|false=>exact Nat.zero_le _
theorem To{r:Rq}(h:Kc r):(Je r).length<=78∧1<=(Je r).length:=by
 have l1:=KX (QU r.kind) r.name;have l2:=KX (QU r.kind) r.key;have l3:=KX (tI (r.kind=3)) r.last;have l4:=KX (tI (r.kind=4)) r.value;have k1:r.name.length<=8:=by by_cases e:QU r.kind=L;(·exact(h.name e).2);·rw[h.noName (by simpa using e)];simp
 have k2:r.key.length<=16:=by by_cases e:QU r.kind=L;(·exact(h.key e).2);·rw[h.noKey (by simpa using e)];simp
 have k3:r.last.length<=16:=by by_cases e:r.kind=3;(·exact(h.last e).2);·rw[h.noLast e];simp
 have k4:=h.value;have e:(Je r).length=1+(Xp (QU r.kind) r.name).length+(Xp (QU r.kind) r.key).length+(Xp (tI (r.kind=3)) r.last).length+(Xp (tI (r.kind=4)) r.value).length:=by rw[Je,zR,r7,T,T,T];omega
 omega
theorem C5{r:Rq}(h:Kc r):XG (Je r)=0∧JY (Je r)=r:=by
 have hl:=To h;obtain⟨e1,e2⟩:=NA h [];rw[tW]at e1 e2;have e3:=Nl h [];have e:XG (Je r)=0:=by rw[XG,if_neg (by omega),if_neg (by omega),e1,if_pos h.kind,e2,e3];show(if([]:List UInt8).length=0then Yg r else 4)=0;rw[if_pos (by simp)];exact(Vv r).2 h
 refine⟨e,?_⟩;rw[JY,if_pos e,e1,e2,e3]
theorem lW{r:Rq}(h:Kc r)(k:Nat)(hk:k<(Je r).length):XG ((Je r).take k)=14:=by
 have hl2:=To h;have hlen:((Je r).take k).length=k:=by rw[List.length_take];omega
 rw[XG,if_neg (by omega)];by_cases h0:k=0;·rw[if_pos (by omega)]
 ·rw[if_neg (by omega)];have hsp:(Je r).take k++(Je r).drop k=Je r:=tE _ _;(have hkd:Up ((Je r).take k)=r.kind:=by obtain⟨e1,_⟩:=NA h [];rw[tW]at e1;rw[<-e1];match k,h0 with|k+1,_=>rfl);rw[hkd,if_pos h.kind];match hD:Yc r.kind (((Je r).take k).drop 1)with|none=>rfl|F (r',y)=>have hm:=Ww hD ((Je r).drop k);(have hd:((Je r).take k).drop 1++(Je r).drop k=zR r:=by match k,h0 with|k+1,_=>show(zR r).take k++(zR r).drop k=zR r;exact tE _ _);rw[hd]at hm;have hb:=Nl h [];rw[tW,hm]at hb;(have he:y++(Je r).drop k=[]:=by have:=congrArg (fun o=>o.map Prod.snd) hb;simpa using this);have:=congrArg List.length he;rw[T,oC]at this;simp at this;omega
theorem Nq{b:List UInt8}(h:XG b=0):Yg (JY b)=0∧Je (JY b)=b:=by
 have h':=h;rw[XG]at h;by_cases h1:4000<b.length;·rw[if_pos h1]at h;cases h
 ·rw[if_neg h1]at h;by_cases h2:b.length=0;(·rw[if_pos h2]at h;cases h);·rw[if_neg h2]at h;by_cases h3:1<=Up b∧Up b<=8;(·rw[if_pos h3]at h;match hD:Yc (Up b) (b.drop 1)with|none=>rw[hD]at h;cases h|F (r,x)=>rw[hD]at h;replace h:(if x.length=0then Yg r else 4)=0:=h;by_cases hx:x.length=0;(·rw[if_pos hx]at h;(have hr:JY b=r:=by rw[JY,if_pos h',hD]);rw[hr];refine⟨h,?_⟩;obtain⟨f1,f2⟩:=TN hD;rw[V hx,tW]at f1;rw[Je,<-f1,f2];match b,h2 with|c::b,_=>show tD ((c.toNat:Nat):Int).toNat::b=c::b;simp);·rw[if_neg hx]at h;cases h);·rw[if_neg h3]at h;cases h
theorem jO{b:List UInt8}(h:XG b≠0):JY b=JT:=by
 rw[JY,if_neg h]
def Ug(r:Rq):Int:=if Yg r=0then(if r.kind=2∨r.kind=3then 0 else 7)else Yg r
def Zu(r:Rq):Rd:=if Ug r=0then⟨r.name,r.key,tI (r.kind=3),r.last⟩else Ze
def YP(r:Rq):Int:=if Yg r=0then(if r.kind=4∨r.kind=5then 0 else 7)else Yg r
def Zs(r:Rq):Q9:=if YP r=0then⟨r.name,r.key,r.value,tI (r.kind=5)⟩else Qo
theorem bF{r:Rq}(h:Ug r=0):XF (Zu r)=0:=by
 have h':=h;unfold Ug at h;by_cases h0:Yg r=0;·rw[if_pos h0]at h;have ho:=(Vv r).1 h0;by_cases h1:r.kind=2∨r.kind=3;(·(have hn:QU r.kind=L:=by rcases h1 with h1|h1<;>rw[h1]<;>decide);rw[Zu,if_pos h',EP];refine⟨ho.name hn,ho.key hn,?_⟩;show if tI (r.kind=3)=L then _ else _;by_cases h3:r.kind=3;(·rw[if_pos (by simpa using h3)];exact ho.last h3);·rw[if_neg (by simpa using h3)];exact ho.noLast h3);·rw[if_neg h1]at h;cases h
 ·rw[if_neg h0]at h;exact absurd h h0
theorem E5{r:Rq}(h:YP r=0):QC (Zs r)=0:=by
 have h':=h;unfold YP at h;by_cases h0:Yg r=0;·rw[if_pos h0]at h;have ho:=(Vv r).1 h0;by_cases h1:r.kind=4∨r.kind=5;(·(have hn:QU r.kind=L:=by rcases h1 with h1|h1<;>rw[h1]<;>decide);rw[Zs,if_pos h',XN];refine⟨ho.name hn,ho.key hn,?_⟩;show if tI (r.kind=5)=L then _ else _;by_cases h3:r.kind=5;(·rw[if_pos (by simpa using h3)];exact ho.noValue (by omega));·rw[if_neg (by simpa using h3)];exact ho.value);·rw[if_neg h1]at h;cases h
 ·rw[if_neg h0]at h;exact absurd h h0
theorem D0{r:Rq}(h:Kc r):Ug r=(if r.kind=2∨r.kind=3then 0 else 7)∧YP r=(if r.kind=4∨r.kind=5then 0 else 7):=by
 have:=(Vv r).2 h;exact⟨by rw[Ug,if_pos this],by rw[YP,if_pos this]⟩
def O0(l:List Ac):List UInt8:=l.flatMap fun a=>mO a++[10]
def K8:Nat->List Ac->Option (Nat×Int)|_,[]=>H|n,a::l=>if YX a=0then K8 (n+1) l else F (n,YX a)
def Gg(l:List Ac):Int:=if 100000<l.length then 1 else match K8 0 l with|none=>0|F (_,e)=>e
def Fc(l:List Ac):Nat:=if 100000<l.length then 0 else match K8 0 l with|none=>0|F (i,_)=>i
def Fr(l:List Ac):List UInt8:=if Gg l=0then O0 l else[]
theorem ND:∀(l:List Ac)(n:Nat),K8 n l=H↔∀a∈l,JM a|[],_=>by simp[K8]|a::l,n=>by rw[K8];by_cases ha:YX a=0;(·rw[if_pos ha,ND l (n+1)];simp only[tK,forall_eq_or_imp];exact⟨fun h=>⟨(uJ a).1 ha,h⟩,fun h=>h.2⟩);·rw[if_neg ha];exact⟨fun h=>(by cases h),fun h=>absurd ((uJ a).2 (h a (by simp))) ha⟩
theorem Wn(l:List Ac)(m:Nat)(hm:m<l.length):K8 m (l.drop m)=if YX (l.getD m UN)=0then K8 (m+1) (l.drop (m+1))else F (m,YX (l.getD m UN)):=by
 rw[sF hm,K8,show l[m]=l.getD m UN by simp[hm]]
theorem mS{l:List Ac}(h:∀a∈l,JM a)(hl:l.length<=100000):Gg l=0∧Fc l=0∧Fr l=O0 l:=by
 have hb:=(ND l 0).2 h;have he:Gg l=0:=by rw[Gg,if_neg (by omega),hb]
 exact⟨he,by rw[Fc,if_neg (by omega),hb],by rw[Fr,if_pos he]⟩
theorem Ht{l:List Ac}(h:100000<l.length):Gg l=1∧Fc l=0∧Fr l=[]:=by
 have e:Gg l=1:=by rw[Gg,if_pos h]
 exact⟨e,by rw[Fc,if_pos h],by rw[Fr,e,if_neg (by decide)]⟩
theorem TJ{l:List Ac}(h:l.length<=100000)(hb:K8 0 l=H):Gg l=0∧Fc l=0∧Fr l=O0 l:=by
 have e:Gg l=0:=by rw[Gg,if_neg (by omega),hb]
 exact⟨e,by rw[Fc,if_neg (by omega),hb],by rw[Fr,if_pos e]⟩
theorem cM{l:List Ac}(h:l.length<=100000){i:Nat}{e:Int}(hb:K8 0 l=F (i,e))(he:e≠0):Gg l=e∧Fc l=i∧Fr l=[]:=by
 have h1:Gg l=e:=by rw[Gg,if_neg (by omega),hb]
 exact⟨h1,by rw[Fc,if_neg (by omega),hb],by rw[Fr,h1,if_neg he]⟩
theorem f7{l:List Ac}{m:Nat}(hm:m<l.length)(hb:K8 0 l=K8 m (l.drop m)):(YX (l.getD m UN)=0->K8 0 l=K8 (m+1) (l.drop (m+1)))∧(YX (l.getD m UN)≠0->K8 0 l=F (m,YX (l.getD m UN))):=by
 rw[hb,Wn l m hm];exact⟨fun h=>by rw[if_pos h],fun h=>by rw[if_neg h]⟩
def K9(w:I)(v:O)(r:Rq):Prop:=∃vn vk vl vv,v=pP #[tL rA r.kind,vn,vk,vl,vv]∧Qe w vn r.name∧Qe w vk r.key∧Qe w vl r.last∧Qe w vv r.value
theorem K9.grown{w w':I}{v:O}{r:Rq}(h:K9 w v r)(hg:J w w' H):K9 w' v r:=by
 obtain⟨vn,vk,vl,vv,rfl,h1,h2,h3,h4⟩:=h;exact⟨vn,vk,vl,vv,rfl,h1.grown hg,h2.grown hg,h3.grown hg,h4.grown hg⟩
theorem K9.agg{w:I}{v:O}{r:Rq}(h:K9 w v r):∃n1 n2 k1 k2 l1 l2 v1 v2,v=pP #[tL rA r.kind,tH n1 r.name.length n2,tH k1 r.key.length k2,tH l1 r.last.length l2,tH v1 r.value.length v2]:=by
 obtain⟨vn,vk,vl,vv,rfl,h1,h2,h3,h4⟩:=h;obtain⟨n1,n2,rfl⟩:=h1.shape;obtain⟨k1,k2,rfl⟩:=h2.shape;obtain⟨l1,l2,rfl⟩:=h3.shape;obtain⟨v1,v2,rfl⟩:=h4.shape;exact⟨n1,n2,k1,k2,l1,l2,v1,v2,rfl⟩
theorem K9.parts{w:I}{r:Rq}{x a b c d:O}(h:K9 w (pP #[x,a,b,c,d]) r):x=tL rA r.kind∧Qe w a r.name∧Qe w b r.key∧Qe w c r.last∧Qe w d r.value:=by
 obtain⟨vn,vk,vl,vv,e,h1,h2,h3,h4⟩:=h;simp only[Value.agg.injEq,Array.mk.injEq,List.cons.injEq,and_true]at e;obtain⟨rfl,rfl,rfl,rfl,rfl⟩:=e;exact⟨rfl,h1,h2,h3,h4⟩
theorem vE(w:I):K9 w (pP #[tL rA 0,tH H 0 0,tH H 0 0,tH H 0 0,tH H 0 0]) JT:=⟨_,_,_,_,rfl,QG w,QG w,QG w,QG w⟩
structure yV(r:Rq):Prop where kind:-9223372036854775808<=r.kind∧r.kind<=9223372036854775807name:r.name.length<=140737488355328key:r.key.length<=140737488355328last:r.last.length<=140737488355328value:r.value.length<=140737488355328
theorem uH{r:Rq}(h:Kc r):yV r:=by
 have h0:=h.kind;have h5:=h.value;have k1:r.name.length<=8:=by by_cases e:QU r.kind=L;(·exact(h.name e).2);·rw[h.noName (by simpa using e)];simp
 have k2:r.key.length<=16:=by by_cases e:QU r.kind=L;(·exact(h.key e).2);·rw[h.noKey (by simpa using e)];simp
 have k3:r.last.length<=16:=by by_cases e:r.kind=3;(·exact(h.last e).2);·rw[h.noLast e];simp
 exact⟨by omega,by omega,by omega,by omega,by omega⟩
theorem Qq{W w:I}{b:Nat}{x y z u s:O}{t:sY}(hg:J W w H)(h:W.heap[b]?=F (tJ #[x,y,z,u,s] t)):(w.cell? ⟨b,0,H⟩=F x∧w.cell? ⟨b,1,H⟩=F y∧w.cell? ⟨b,2,H⟩=F z∧w.cell? ⟨b,3,H⟩=F u∧w.cell? ⟨b,4,H⟩=F s)∧(w.frozen? ⟨b,0,H⟩=tA∧w.frozen? ⟨b,1,H⟩=tA∧w.frozen? ⟨b,2,H⟩=tA∧w.frozen? ⟨b,3,H⟩=tA∧w.frozen? ⟨b,4,H⟩=tA)∧w.heap[b]?=F (tJ #[x,y,z,u,s] t):=by
 have hb:w.heap[b]?=F (tJ #[x,y,z,u,s] t):=by rw[hg.block b (tM.1 h).1 (by simp)];exact h
 refine⟨⟨?_,?_,?_,?_,?_⟩,⟨?_,?_,?_,?_,?_⟩,hb⟩;all_goals simp[sB,sX,hb]
theorem Yp{w:I}{b i:Nat}{cs:Array O}{t:sY}{fz:Nat×Nat}{u:O}(h:w.heap[b]?=F (tJ cs t fz)):(tG w ⟨b,i,H⟩ u).heap[b]?=F (tJ (cs.setIfInBounds i u) t fz):=by
 simp only[tG,tS,if_true,h,sP];rfl
theorem qX{w:I}{b c i:Nat}{o:Obj}{u:O}(h:w.heap[b]?=F o)(hne:b≠c):(tG w ⟨c,i,H⟩ u).heap[b]?=F o:=by
 simp only[tG,tS];rw[if_neg (fun e=>hne e.symm)];exact h
abbrev Ow(w:I)(b:Nat)(x y z u s:O):I:=((((tG w ⟨b,0,H⟩ x).setCell ⟨b,1,H⟩ y).setCell ⟨b,2,H⟩ z).setCell ⟨b,3,H⟩ u).setCell ⟨b,4,H⟩ s
theorem vF{w:I}{b:Nat}{x y z u s:O}{t:sY}(h:w.heap[b]?=F (tJ #[x,y,z,u,s] t))(x' y' z' u' s':O):(Ow w b x' y' z' u' s').heap[b]?=F (tJ #[x',y',z',u',s'] t):=Yp (Yp (Yp (Yp (Yp h))))
theorem zL{w W:I}{b:Nat}(hg:J w W H)(hb:w.heap.size<=b)(x y z u s:O):J w (Ow W b x y z u s) H:=Qc (Qc (Qc (Qc (Qc hg _ hb _ _) _ hb _ _) _ hb _ _) _ hb _ _) _ hb _ _
theorem Wj(W:I)(b:Nat)(x y z u s:O):J W (Ow W b x y z u s) (F b):=Qg (Qg (Qg (Qg (Qg (Qb W (F b)) _ _) _ _) _ _) _ _) _ _
abbrev V8(w:I)(b:Nat)(x y z u:O):I:=(((tG w ⟨b,0,H⟩ x).setCell ⟨b,1,H⟩ y).setCell ⟨b,2,H⟩ z).setCell ⟨b,3,H⟩ u
theorem X8{w:I}{b:Nat}{x y z u:O}{t:sY}(h:w.heap[b]?=F (tJ #[x,y,z,u] t))(x' y' z' u':O):(V8 w b x' y' z' u').heap[b]?=F (tJ #[x',y',z',u'] t):=Yp (Yp (Yp (Yp h)))
theorem Z9{w W:I}{b:Nat}(hg:J w W H)(hb:w.heap.size<=b)(x y z u:O):J w (V8 W b x y z u) H:=Qc (Qc (Qc (Qc hg _ hb _ _) _ hb _ _) _ hb _ _) _ hb _ _
theorem Yn(W:I)(b:Nat)(x y z u:O):J W (V8 W b x y z u) (F b):=Qg (Qg (Qg (Qg (Qb W (F b)) _ _) _ _) _ _) _ _
theorem Q7.later{base:Nat}{w w':I}{v:O}{bs:List UInt8}(h:Q7 base w v bs){b:Nat}(hg:J w w' (F b))(hb:b<base):Q7 base w' v bs:=by
 refine h.grown hg (.inr fun e=>?_);have:=(h.lt b e).1;omega
def Ns(i:Nat):Nat:=[0,0,3,7,11,3,0,0,3].getD i 0
def Uz(w:I):Prop:=∀i,i<9->w.cell? ⟨0,i,H⟩=F (tL rI ((Ns i:Nat):Int))
theorem Uz.grown{w w':I}(h:Uz w)(hg:J w w' H):Uz w':=fun i hi=>hg.cell (h i hi) (by
 simp)
def QP(k:Int):Nat->Bool|0=>QU k|1=>QU k|2=>tI (k=3)|_=>tI (k=4)
theorem gA(k j:Nat)(hk:k<9)(hj:j<4):(bits BinOp.and rI ((Ns k:Nat):Int) ((2^j:Nat):Int)!=0)=QP (k:Int) j:=(by
 decide+kernel:∀(k:Fin 9)(j:Fin 4),(bits BinOp.and rI ((Ns k.1:Nat):Int) ((2^j.1:Nat):Int)!=0)=QP (k.1:Int) j.1) ⟨k,hk⟩ ⟨j,hj⟩
def yF(r:Rq):List UInt8:=if Yg r=0then Je r else[]
def aJ:Prop:=∀(w:I)(v:O)(r:Rq),Uz w->K9 w v r->yV r->rY tB 10 #[v] w fun e w'=>∃x,e=sQ (pX #[x,tL rA (Yg r)])∧Qf 0 w' x (yF r)∧J w w' H
def Yt(w:I)(v:O)(r:Rd):Prop:=∃vn vk vl,v=pP #[vn,vk,pQ r.wide,vl]∧Qe w vn r.name∧Qe w vk r.key∧Qe w vl r.last
theorem Yt.grown{w w':I}{v:O}{r:Rd}(h:Yt w v r)(hg:J w w' H):Yt w' v r:=by
 obtain⟨vn,vk,vl,rfl,h1,h2,h3⟩:=h;exact⟨vn,vk,vl,rfl,h1.grown hg,h2.grown hg,h3.grown hg⟩
theorem Yt.agg{w:I}{v:O}{r:Rd}(h:Yt w v r):∃na nc ka kc la lc,v=pP #[tH na r.name.length nc,tH ka r.key.length kc,pQ r.wide,tH la r.last.length lc]:=by
 obtain⟨vn,vk,vl,rfl,h1,h2,h3⟩:=h;obtain⟨na,nc,rfl⟩:=h1.shape;obtain⟨ka,kc,rfl⟩:=h2.shape;obtain⟨la,lc,rfl⟩:=h3.shape;exact⟨na,nc,ka,kc,la,lc,rfl⟩
theorem Yt.parts{w:I}{r:Rd}{x y g z:O}(h:Yt w (pP #[x,y,g,z]) r):Qe w x r.name∧Qe w y r.key∧g=pQ r.wide∧Qe w z r.last:=by
 obtain⟨vn,vk,vl,e,h1,h2,h3⟩:=h;simp only[Value.agg.injEq,Array.mk.injEq,List.cons.injEq,and_true]at e;obtain⟨rfl,rfl,rfl,rfl⟩:=e;exact⟨h1,h2,rfl,h3⟩
structure P8(r:Rd):Prop where name:r.name.length<=140737488355328key:r.key.length<=140737488355328last:r.last.length<=140737488355328
structure uD where
  bit : Int
  right : Bool
  other : List UInt8
structure Cj where
  empty : Bool
  steps : List uD
  pair : Pr
def LA:uD:=⟨0,tA,[]⟩
def Vd:Cj:=⟨tA,[],([],[])⟩
instance:Inhabited uD:=⟨LA⟩
instance:Inhabited Cj:=⟨Vd⟩
def Ur(l:PL):Nat->Int|0=>999|1=>999|m+2=>if JH (l.getD 0 ([],[])).1 (l.getD (m+1) ([],[])).1<Ur l (m+1)then JH (l.getD 0 ([],[])).1 (l.getD (m+1) ([],[])).1 else Ur l (m+1)
def Qw(l:PL):Int:=Ur l l.length
def YZ(l:PL)(b:Nat)(x:Bool):PL:=l.filter fun q=>ZY q.1 b==x
theorem Cw(l:PL)(b:Nat)(x:Bool):(YZ l b x).length<=l.length:=sZ _ _
theorem X5{l:PL}(h:ZC l)(b:Nat)(x:Bool):ZC (YZ l b x):=⟨rF (Cw l b x) h.room,fun p hp=>h.pairs p (r8.1 hp).1,sU _ h.rises⟩
theorem Cz{l:PL}(h:ZC l)(i j:Nat)(hij:i<j)(hj:j<l.length):0<=JH (l.getD i ([],[])).1 (l.getD j ([],[])).1:=by
 have hk:=UI l h.rises i j hij hj;have h1:=(h.pairs l[i] (tZ (by omega))).1;have h2:=(h.pairs l[j] (tZ hj)).1;rw[show l[i]=l.getD i ([],[])by simp[show i<l.length by omega]]at h1;rw[show l[j]=l.getD j ([],[])by simp[hj]]at h2;have:=AM (l.getD i ([],[])).1 (l.getD j ([],[])).1 h1.2 h2.2;have hne:=BF hk;by_cases hp:JH (l.getD i ([],[])).1 (l.getD j ([],[])).1<0;·exact absurd (this.1 hp) hne
 ·omega
theorem Fh{l:PL}(h:ZC l):∀m,m<=l.length->0<=Ur l m∧(2<=m->Ur l m<=144)∧Ur l m<=999|0,_=>⟨by simp[Ur],by omega,by simp[Ur]⟩|1,_=>⟨by simp[Ur],by omega,by simp[Ur]⟩|m+2,hm=>by have ih:=Fh h (m+1) (by omega);have hp:=Cz h 0 (m+1) (by omega) (by omega);have hr:=Fl (l.getD 0 ([],[])).1 (l.getD (m+1) ([],[])).1;rw[Ur];by_cases hlt:JH (l.getD 0 ([],[])).1 (l.getD (m+1) ([],[])).1<Ur l (m+1);(·rw[if_pos hlt];omega);·rw[if_neg hlt];omega
theorem Yi{l:PL}(h:ZC l)(h2:2<=l.length):0<=Qw l∧Qw l<=144:=by
 have:=Fh h l.length (sC _);exact⟨this.1,this.2.1 h2⟩
theorem Ek{l:PL}(_h:ZC l):∀m,2<=m->m<=l.length->∃j,0<j∧j<m∧Ur l m=JH (l.getD 0 ([],[])).1 (l.getD j ([],[])).1|0,h,_=>by omega|1,h,_=>by omega|m+2,_,hm=>by rw[Ur];by_cases hlt:JH (l.getD 0 ([],[])).1 (l.getD (m+1) ([],[])).1<Ur l (m+1);(·rw[if_pos hlt];exact⟨m+1,by omega,by omega,rfl⟩);·rw[if_neg hlt];by_cases h0:m=0;(·subst h0;have hr:=Fl (l.getD 0 ([],[])).1 (l.getD (0+1) ([],[])).1;simp only[Ur]at hlt;omega);·obtain⟨j,h1,h2,h3⟩:=Ek _h (m+1) (by omega) (by omega);exact⟨j,h1,by omega,h3⟩
theorem kO{l:PL}(h:ZC l)(h2:2<=l.length):∀x,(YZ l (Qw l).toNat x).length<l.length:=by
 obtain⟨j,hj1,hj2,hj3⟩:=Ek h l.length h2 (sC _);have hr:=Yi h h2;have hd:ZY (l.getD 0 ([],[])).1 (Qw l).toNat≠ZY (l.getD j ([],[])).1 (Qw l).toNat:=by rcases JP (l.getD 0 ([],[])).1 (l.getD j ([],[])).1with⟨e,_⟩|⟨m,e,_,_,hd⟩;(·rw[<-hj3]at e;unfold Qw at hr;omega);·(have:(Qw l).toNat=m:=by unfold Qw;omega);rw[this];exact hd
 intro x;by_cases hlt:(YZ l (Qw l).toNat x).length<l.length;·exact hlt
 ·(have he:(YZ l (Qw l).toNat x).length=l.length:=by have:=Cw l (Qw l).toNat x;omega);have hall:=List.length_filter_eq_length_iff.1 he;have h0:=hall l[0] (tZ (by omega));have hj:=hall l[j] (tZ hj2);rw[show l[0]=l.getD 0 ([],[])by simp[show 0<l.length by omega]]at h0;rw[show l[j]=l.getD j ([],[])by simp[hj2]]at hj;simp only[beq_iff_eq]at h0 hj;exact absurd (h0.trans hj.symm) hd
def JG(l:PL)(b:Nat):Nat:=(l.takeWhile fun q=>!ZY q.1 b).length
theorem xS(l:PL):∀m j,0<j->j<m->m<=l.length->Ur l m<=JH (l.getD 0 ([],[])).1 (l.getD j ([],[])).1|0,j,_,h,_=>by omega|1,j,h0,h,_=>by omega|m+2,j,h0,h,hm=>by rw[Ur];by_cases hlt:JH (l.getD 0 ([],[])).1 (l.getD (m+1) ([],[])).1<Ur l (m+1);(·rw[if_pos hlt];by_cases e:j=m+1;(·subst e;exact oL _);·have:=xS l (m+1) j h0 (by omega) (by omega);omega);·rw[if_neg hlt];by_cases e:j=m+1;(·subst e;omega);·exact xS l (m+1) j h0 (by omega) (by omega)
theorem Px{l:PL}(h:ZC l)(h2:2<=l.length)(j:Nat)(hj:j<l.length)(b:Nat)(hb:b<(Qw l).toNat):ZY (l.getD 0 ([],[])).1 b=ZY (l.getD j ([],[])).1 b:=by
 by_cases h0:j=0;·subst h0;rfl
 ·have hm:=xS l l.length j (by omega) hj (sC _);have hr:=Yi h h2;rcases JP (l.getD 0 ([],[])).1 (l.getD j ([],[])).1with⟨e,hs⟩|⟨m,e,hm1,hs,_⟩;(·exact hs b (by omega));·exact hs b (by unfold Qw at hb;omega)
theorem Ma{l:PL}(h:ZC l)(h2:2<=l.length)(i j:Nat)(hij:i<j)(hj:j<l.length)(hi:ZY (l.getD i ([],[])).1 (Qw l).toNat=L):ZY (l.getD j ([],[])).1 (Qw l).toNat=L:=by
 have hk:=UI l h.rises i j hij hj;have hp:=Cz h i j hij hj;rcases JP (l.getD i ([],[])).1 (l.getD j ([],[])).1with⟨e,_⟩|⟨m,e,hm,hs,hd⟩;·omega
 ·(have hge:(Qw l).toNat<=m:=by by_cases hlt:m<(Qw l).toNat;(·exact absurd ((Px h h2 i (by omega) m hlt).symm.trans (Px h h2 j hj m hlt)) hd);·omega);by_cases he:(Qw l).toNat=m;(·rw[he];have:=Tq _ _ m hs hd;rw[this];exact hk);·rw[<-hs _ (by omega)];exact hi
theorem Mf{l:PL}(h:ZC l)(h2:2<=l.length):ZY (l.getD 0 ([],[])).1 (Qw l).toNat=tA∧ZY (l.getD (l.length-1) ([],[])).1 (Qw l).toNat=L:=by
 obtain⟨j,hj1,hj2,hj3⟩:=Ek h l.length h2 (sC _);have hr:=Yi h h2;have hk:=UI l h.rises 0 j hj1 hj2;rcases JP (l.getD 0 ([],[])).1 (l.getD j ([],[])).1with⟨e,_⟩|⟨m,e,hm,hs,hd⟩;·rw[<-hj3]at e;unfold Qw at hr;omega
 ·(have em:(Qw l).toNat=m:=by unfold Qw;omega);have ho:=Tq _ _ m hs hd;(have hjt:ZY (l.getD j ([],[])).1 m=L:=by rw[ho];exact hk);refine⟨?_,?_⟩;(·rw[em];cases hx:ZY (l.getD 0 ([],[])).1 m with|false=>rfl|true=>exact absurd (hx.trans hjt.symm) hd);·by_cases hl:j=l.length-1;(·rw[<-hl,em];exact hjt);·exact Ma h h2 j (l.length-1) (by omega) (by omega) (by rw[em];exact hjt)
theorem N4{l:PL}(h:ZC l)(h2:2<=l.length):JH (l.getD 0 ([],[])).1 (l.getD (l.length-1) ([],[])).1=Qw l:=by
 have hr:=Yi h h2;obtain⟨e1,e2⟩:=Mf h h2;rw[D7 _ _ (Qw l).toNat (by omega) (fun b hb=>Px h h2 _ (by omega) b hb) (by rw[e1,e2];simp)];omega
theorem LG:∀(l:PL)(b j:Nat),j<JG l b->ZY (l.getD j ([],[])).1 b=tA|[],b,j,h=>by simp[JG]at h|p::r,b,j,h=>by cases hk:ZY p.1 b with|true=>simp[JG,hk]at h|false=>cases j with|zero=>simpa using hk|succ j=>have:=LG r b j (by unfold JG at h⊢;rw[tN (p:=fun q:Pr=>!ZY q.1 b) (by simp[hk])]at h;simpa using h);simpa using this
theorem Br:∀(l:PL)(b:Nat),JG l b<l.length->ZY (l.getD (JG l b) ([],[])).1 b=L|[],b,h=>by simp at h|p::r,b,h=>by cases hk:ZY p.1 b with|true=>simp[JG,hk]|false=>(have e:JG (p::r) b=JG r b+1:=by unfold JG;rw[tN (p:=fun q:Pr=>!ZY q.1 b) (by simp[hk])];simp);rw[e]at h⊢;have:=Br r b (by simpa using h);simpa using this
theorem GN{l:PL}(h:ZC l)(h2:2<=l.length)(j:Nat)(hj:j<l.length):ZY (l.getD j ([],[])).1 (Qw l).toNat=tI (JG l (Qw l).toNat<=j):=by
 by_cases hlt:j<JG l (Qw l).toNat;·rw[decide_eq_false (by omega)];exact LG l _ j hlt
 ·rw[decide_eq_true (by omega)];have h0:=Br l (Qw l).toNat (by omega);by_cases e:j=JG l (Qw l).toNat;(·rw[e];exact h0);·exact Ma h h2 _ j (by omega) hj h0
theorem Uy{l:PL}(h:ZC l)(h2:2<=l.length):0<JG l (Qw l).toNat∧JG l (Qw l).toNat<l.length:=by
 obtain⟨e1,e2⟩:=Mf h h2;rw[GN h h2 0 (by omega)]at e1;rw[GN h h2 _ (by omega)]at e2;simp at e1 e2;omega
theorem kY{l:PL}(h:ZC l)(h2:2<=l.length):YZ l (Qw l).toNat tA=l.take (JG l (Qw l).toNat):=by
 have hs:=Uy h h2;have hb:=fun j hj=>GN h h2 j hj;generalize(Qw l).toNat=b at*;generalize JG l b=n at*;have e:l=l.take n++l.drop n:=(tE n l).symm;rw[YZ];conv=>lhs;rw[e]
 rw[sJ,tP.2,sK.2,tW];·intro q hq;obtain⟨j,hj,rfl⟩:=N.1 hq;(have hjn:n+j<l.length:=by simp at hj;omega);rw[sN,show l[n+j]=l.getD (n+j) ([],[])by simp[hjn],hb _ hjn];simp
 ·intro q hq;obtain⟨j,hj,rfl⟩:=N.1 hq;(have hjn:j<n:=by simp at hj;omega);rw[sG,show l[j]'(by omega)=l.getD j ([],[])by simp[show j<l.length by omega],hb _ (by omega)];simp[hjn]
theorem PZ{l:PL}(h:ZC l)(h2:2<=l.length):YZ l (Qw l).toNat L=l.drop (JG l (Qw l).toNat):=by
 have hs:=Uy h h2;have hb:=fun j hj=>GN h h2 j hj;generalize(Qw l).toNat=b at*;generalize JG l b=n at*;have e:l=l.take n++l.drop n:=(tE n l).symm;rw[YZ];conv=>lhs;rw[e]
 rw[sJ,sK.2,tP.2,pC];·intro q hq;obtain⟨j,hj,rfl⟩:=N.1 hq;(have hjn:n+j<l.length:=by simp at hj;omega);rw[sN,show l[n+j]=l.getD (n+j) ([],[])by simp[hjn],hb _ hjn];simp
 ·intro q hq;obtain⟨j,hj,rfl⟩:=N.1 hq;(have hjn:j<n:=by simp at hj;omega);rw[sG,show l[j]'(by omega)=l.getD j ([],[])by simp[show j<l.length by omega],hb _ (by omega)];simp[hjn]
def U(x:BitVec 64):Int:=(x.toNat:Int)
theorem jI(x:BitVec 64):sD 64 (U x)=x:=by
 unfold U;rw[pN];simp
theorem kQ(x:BitVec 64):rG.wrap (x.toNat:Int)=U x:=by
 rw[rW];unfold U;have:=x.isLt;omega
theorem Zp(x y:BitVec 64):bits .xor .u64 (U x) (U y)=U (x^^^y):=by
 show rG.wrap ((sD 64 (U x)^^^sD 64 (U y)).toNat:Int)=_;rw[jI,jI,kQ]
theorem Nm(x y:BitVec 64):bits .or .u64 (U x) (U y)=U (x|||y):=by
 show rG.wrap ((sD 64 (U x)|||sD 64 (U y)).toNat:Int)=_;rw[jI,jI,kQ]
theorem Kx(x y:BitVec 64):bits .andNot .u64 (U x) (U y)=U (x&&&~~~y):=by
 show rG.wrap ((sD 64 (U x)&&&~~~sD 64 (U y)).toNat:Int)=_;rw[jI,jI,kQ]
theorem JQ(x:BitVec 64)(k:Nat):rG.wrap (U x*2^k)=U (x<<<k):=by
 rw[rW];unfold U;rw[BitVec.toNat_shiftLeft,Nat.shiftLeft_eq];have e:((x.toNat:Int)*2^k)=((x.toNat*2^k:Nat):Int):=by simp
 rw[e];omega
theorem N9(x:BitVec 64)(k:Nat):U x/2^k=U (x>>>k):=by
 unfold U;rw[BitVec.toNat_ushiftRight,Nat.shiftRight_eq_div_pow];simp
theorem lQ(k:Int)(h0:0<=k)(h:k<64):bits .and .u64 k 63=k:=by
 obtain⟨n,rfl⟩:=Int.eq_ofNat_of_zero_le h0;show rG.wrap ((sD 64 (n:Int)&&&sD 64 63).toNat:Int)=_;rw[pN,BitVec.toNat_and];have h1:(BitVec.ofNat 64 n).toNat=n:=by rw[BitVec.toNat_ofNat];omega
 have h2:(sD 64 63).toNat=2^6-1:=by decide
 rw[h1,h2,Nat.and_two_pow_sub_one_eq_mod,rW];omega
def xN(x:BitVec 64)(k:Nat):BitVec 64:=(x<<<k)|||(x>>>(64-k))
section
theorem Hb(x:BitVec 64)(k:Int)(h0:0<=k)(h:k<64)(w:I):rY tB 149 #[tL .u64 (U x),tL rA k] w fun e w'=>e=sQ (tL .u64 (U (xN x k.toNat)))∧w'=w:=by
 have h63:=lQ k h0 h;go_enter Tryz.func149,Tryz.ntmps149;go_wp2;go_ret;refine⟨?_,rfl⟩;rw[show(64-k).toNat=64-k.toNat by omega,JQ,N9,Nm];rfl
def Kb(st:List (BitVec 64)):Array O:=(st.map fun x=>tL .u64 (U x)).toArray
structure XZ (n : Nat) (w : I) (b : Nat) (st : List (BitVec 64)) : Prop where
  len : st.length = n
  blk : ∃ t, w.heap[b]? = F (tJ (Kb st) t (0, 0))
section
variable{n:Nat}{w:I}{b:Nat}{st:List (BitVec 64)}
theorem XZ.cell(h:XZ n w b st)(i:Nat)(hi:i<n):w.cell? ⟨b,i,H⟩=F (tL .u64 (U (st.getD i 0))):=by
 obtain⟨t,hb⟩:=h.blk;simp[sB,hb,Kb,sV,rN (show i<st.length by have:=h.len;omega)]
theorem XZ.frozen(h:XZ n w b st)(i:Nat):w.frozen? ⟨b,i,H⟩=tA:=by
 obtain⟨t,hb⟩:=h.blk;simp[sX,hb]
theorem XZ.lt(h:XZ n w b st):b<w.heap.size:=by
 obtain⟨t,hb⟩:=h.blk;exact(tM.1 hb).1
theorem DH(st:List (BitVec 64))(i:Nat)(x:BitVec 64):(Kb st).setIfInBounds i (tL .u64 (U x))=Kb (st.set i x):=by
 simp[Kb]
theorem XZ.set(h:XZ n w b st)(i:Nat)(x:BitVec 64):XZ n (tG w ⟨b,i,H⟩ (tL .u64 (U x))) b (st.set i x):=by
 obtain⟨t,hb⟩:=h.blk;refine⟨by simp[h.len],t,?_⟩;simp only[tG,tS,if_true,hb,sP];simp[DH]
theorem XZ.setOther(h:XZ n w b st)(c:Nat)(hc:b≠c)(i:Nat)(v:O):XZ n (tG w ⟨c,i,H⟩ v) b st:=by
 obtain⟨t,hb⟩:=h.blk;exact⟨h.len,t,by rw[Below.heap_setCell _ _ _ _ hc];exact hb⟩
theorem XZ.drewN(h:XZ n w b st)(k:Nat):XZ n (w.drewN k) b st:=⟨h.len,h.blk⟩
theorem XZ.drew(h:XZ n w b st):XZ n w.drew b st:=⟨h.len,h.blk⟩
theorem XZ.alloc(h:XZ n w b st)(o:Obj):XZ n (w.alloc o) b st:=by
 obtain⟨t,hb⟩:=h.blk;exact⟨h.len,t,by rw[Below.heap_alloc _ _ _ h.lt];exact hb⟩
theorem XZ.grown(h:XZ n w b st){w':I}{r:Option Nat}(hg:J w w' r)(hr:F b≠r):XZ n w' b st:=by
 obtain⟨t,hb⟩:=h.blk;exact⟨h.len,t,by rw[hg.block b h.lt hr];exact hb⟩
theorem XZ.new(w:I)(t:sY)(st:List (BitVec 64))(hl:st.length=n):XZ n (w.alloc (tJ (Kb st) t)) w.heap.size st:=⟨hl,t,rM w _⟩
end
abbrev St:=XZ 25
def LJ(st:List (BitVec 64))(n:Nat):List (BitVec 64):=let a:=st.getD n 0;let b:=st.getD (n+1) 0;let c:=st.getD (n+2) 0;let d:=st.getD (n+3) 0;let e:=st.getD (n+4) 0;((((st.set n (a^^^(c&&&~~~b))).set (n+1) (b^^^(d&&&~~~c))).set (n+2) (c^^^(e&&&~~~d))).set (n+3) (d^^^(a&&&~~~e))).set (n+4) (e^^^(b&&&~~~a))
def VM(st:List (BitVec 64)):Nat->List (BitVec 64)|0=>st|k+1=>LJ (VM st k) (5*k)
theorem Oi(w:I)(b:Nat)(st:List (BitVec 64))(h:St w b st):rY tB 147 #[.pointer (F ⟨b,0,H⟩)] w fun e w'=>e=sQ (pX #[])∧St w' b (VM st 5)∧J w w' (F b):=by
 go_enter Tryz.func147,Tryz.ntmps147;go_wp2;go_loopw[2](fun y wr=>∃k:Nat,k<=5∧y=tL rA ((5*k:Nat):Int)∧St wr b (VM st k)∧J w wr (F b))(fun y _=>25-(intOf y).toNat);case atStart=>exact⟨0,by omega,rfl,h,Qb _ _⟩
 case round=>obtain⟨k,hk,rfl,hst,hg⟩:=hrel;by_cases hlt:k<5;(·generalize hn:5*k=n;have HN:Hid (5*k=n):=hn;clear hn;(have h25:n+4<25:=by have:=HN.out;omega);have hc:=hst.cell;have hf:=hst.frozen;have c0:=hc n (by omega);have c1:=hc (n+1) (by omega);have c2:=hc (n+2) (by omega);have c3:=hc (n+3) (by omega);have c4:=hc (n+4) (by omega);clear hc;generalize hS:VM st k=S at*;have HS:Hid (VM st k=S):=hS;clear hS;generalize hA:S.getD n 0=A at*;generalize hB:S.getD (n+1) 0=B at*;generalize hC:S.getD (n+2) 0=C at*;generalize hD:S.getD (n+3) 0=D at*;generalize hE:S.getD (n+4) 0=E at*;have HA:Hid (S.getD n 0=A):=hA;have HB:Hid (S.getD (n+1) 0=B):=hB;have HC:Hid (S.getD (n+2) 0=C):=hC;have HD:Hid (S.getD (n+3) 0=D):=hD;have HE:Hid (S.getD (n+4) 0=E):=hE;clear hA hB hC hD hE;(have i1:(n:Int)+4<25:=by omega);go_wp2;go_quiet(fail);go_wp2;go_roundw;(case rel=>refine⟨k+1,by omega,by have:=HN.out;congr 1;omega,?_,?_⟩;(·rw[Kx,Kx,Kx,Kx,Kx,Zp,Zp,Zp,Zp,Zp];(have e:VM st (k+1)=((((S.set n (A^^^(C&&&~~~B))).set (n+1) (B^^^(D&&&~~~C))).set (n+2) (C^^^(E&&&~~~D))).set (n+3) (D^^^(A&&&~~~E))).set (n+4) (E^^^(B&&&~~~A)):=by simp only[VM,LJ,HS.out,HN.out,HA.out,HB.out,HC.out,HD.out,HE.out]);rw[e];exact(((((hst.drewN nq).set n _).set (n+1) _).set (n+2) _).set (n+3) _).set (n+4) _);·exact Qg (Qg (Qg (Qg (Qg (Qr hg nq) n _) (n+1) _) (n+2) _) (n+3) _) (n+4) _);case measure=>simp[intOf];omega);·(obtain rfl:k=5:=by omega);go_wp2;go_end0;exact⟨rfl,hst,hg⟩
end
def Lk(st:List (BitVec 64))(x:Nat):BitVec 64:=st.getD x 0^^^st.getD (x+5) 0^^^st.getD (x+10) 0^^^st.getD (x+15) 0^^^st.getD (x+20) 0
def Vj(st:List (BitVec 64)):Nat->List (BitVec 64)|0=>[0,0,0,0,0]|k+1=>(Vj st k).set k (Lk st k)
def cQ(c:List (BitVec 64)):List (BitVec 64):=[c.getD 4 0^^^xN (c.getD 1 0) 1,c.getD 0 0^^^xN (c.getD 2 0) 1,c.getD 1 0^^^xN (c.getD 3 0) 1,c.getD 2 0^^^xN (c.getD 4 0) 1,c.getD 3 0^^^xN (c.getD 0 0) 1]
def F8(d st:List (BitVec 64))(k:Nat):List (BitVec 64):=let y:=d.getD k 0;((((st.set k (st.getD k 0^^^y)).set (k+5) (st.getD (k+5) 0^^^y)).set (k+10) (st.getD (k+10) 0^^^y)).set (k+15) (st.getD (k+15) 0^^^y)).set (k+20) (st.getD (k+20) 0^^^y)
def kB(d st:List (BitVec 64)):Nat->List (BitVec 64)|0=>st|k+1=>F8 d (kB d st k) k
theorem cK(w:I)(b:Nat)(st:List (BitVec 64))(h:St w b st):rY tB 145 #[.pointer (F ⟨b,0,H⟩)] w fun e w'=>e=sQ (pX #[])∧St w' b (kB (cQ (Vj st 5)) st 5)∧J w w' (F b):=by
 have hbn:b≠w.heap.size:=Nat.ne_of_lt h.lt;have h0:=h;go_enter Tryz.func145,Tryz.ntmps145;go_wp2_with fail;go_loopw[6](fun i wr=>∃k:Nat,k<=5∧i=tL rA (k:Int)∧St wr b st∧XZ 5 wr w.heap.size (Vj st k)∧J w wr (F b))(fun i _=>5-(intOf i).toNat);case atStart=>exact⟨0,by omega,rfl,h.alloc _,XZ.new w 245 [0,0,0,0,0] rfl,Qx (Qb _ _) _⟩
 case round=>obtain⟨k,hk,rfl,hst,hcl,hg⟩:=hrel;by_cases hlt:k<5;(·have c0:=hst.cell k (by omega);have c1:=hst.cell (k+5) (by omega);have c2:=hst.cell (k+10) (by omega);have c3:=hst.cell (k+15) (by omega);have c4:=hst.cell (k+20) (by omega);have d0:=hcl.cell k hlt;have hf:=hcl.frozen k;generalize hx0:st.getD k 0=x0 at*;generalize hx1:st.getD (k+5) 0=x1 at*;generalize hx2:st.getD (k+10) 0=x2 at*;generalize hx3:st.getD (k+15) 0=x3 at*;generalize hx4:st.getD (k+20) 0=x4 at*;(have HX:Hid (Lk st k=x0^^^x1^^^x2^^^x3^^^x4):=by show Lk st k=_;simp only[Lk,hx0,hx1,hx2,hx3,hx4]);generalize hcc:Vj st k=cc at*;have HC:Hid (Vj st k=cc):=hcc;generalize hy:cc.getD k 0=y at*;clear hx0 hx1 hx2 hx3 hx4 hcc hy h;(have i1:(k:Int)+20<25:=by omega);(have i2:(k:Int)<5:=by omega);go_wp2_with fail;go_region;(all_goals go_wp2);go_roundw;(case rel=>rw[Zp,Zp,Zp,Zp];have hlt':=hst.lt;have hlt2:=hcl.lt;refine⟨k+1,by omega,by go_num,(hst.setOther _ hbn _ _).drew,?_,Ql (Qc hg _ (sC _) _ _)⟩;simp only[Vj,HC.out,HX.out];exact(hcl.set k _).drew);case measure=>simp[intOf];omega);·(obtain rfl:k=5:=by omega);have e0:=hcl.cell 0 (by omega);have e1:=hcl.cell 1 (by omega);have e2:=hcl.cell 2 (by omega);have e3:=hcl.cell 3 (by omega);have e4:=hcl.cell 4 (by omega);generalize hcc:Vj st 5=cc at*;have HC:Hid (Vj st 5=cc):=hcc;generalize hx0:cc.getD 0 0=x0 at*;generalize hx1:cc.getD 1 0=x1 at*;generalize hx2:cc.getD 2 0=x2 at*;generalize hx3:cc.getD 3 0=x3 at*;generalize hx4:cc.getD 4 0=x4 at*;(have HD:Hid (cQ cc=[x4^^^xN x1 1,x0^^^xN x2 1,x1^^^xN x3 1,x2^^^xN x4 1,x3^^^xN x0 1]):=by show cQ cc=_;simp only[cQ,hx0,hx1,hx2,hx3,hx4]);clear hcc hx0 hx1 hx2 hx3 hx4 h;have hwr:=hcl.lt;go_upto_region 6with fail;go_cut[4](fun s4 wx=>s4=.pointer (F ⟨wr.heap.size,0,H⟩)∧St wx b st∧XZ 5 wx wr.heap.size (cQ cc)∧J w wx (F b));(case first=>go_region_held3(fun w'=>w'.cell? ⟨w.heap.size,0,H⟩=F (tL .u64 (U x0))∧w'.cell? ⟨w.heap.size,1,H⟩=F (tL .u64 (U x1))∧w'.cell? ⟨w.heap.size,2,H⟩=F (tL .u64 (U x2))∧w'.cell? ⟨w.heap.size,3,H⟩=F (tL .u64 (U x3))∧w'.cell? ⟨w.heap.size,4,H⟩=F (tL .u64 (U x4)))(go_keep)(first|(go_at_call 149;refine(Hb _ (1:Int) (by omega) (by omega) _).mono ?_;rintro e w'⟨rfl,rfl⟩));all_goals(go_wp2_with fail;go_meet;case rel=>(rw[HD.out,Zp,Zp,Zp,Zp,Zp];exact⟨rfl,(hst.alloc _).drew,(XZ.new wr 245 [x4^^^xN x1 1,x0^^^xN x2 1,x1^^^xN x3 1,x2^^^xN x4 1,x3^^^xN x0 1] rfl).drew,Ql (Qx hg _)⟩)));case rest=>obtain⟨rfl,hst2,hd2,hg2⟩:=hcut;clear e0 e1 e2 e3 e4 hst hcl hg;(have hbw:b≠wr.heap.size:=by have:=h0.lt;omega);generalize hD:cQ cc=dd at*;have HDD:Hid (cQ cc=dd):=hD;clear hD HD;generalize hdn:wr.heap.size=db at*;clear hdn hwr;go_wp2_with fail;go_loopw[76](fun i wr=>∃k:Nat,k<=5∧i=tL rA (k:Int)∧St wr b (kB dd st k)∧XZ 5 wr db dd∧J w wr (F b))(fun i _=>5-(intOf i).toNat);(case atStart=>exact⟨0,by omega,rfl,hst2,hd2,hg2⟩);case round=>clear hst2 hd2 hg2;obtain⟨k,hk,rfl,hst,hd,hg⟩:=hrel;by_cases hlt:k<5;(·have c0:=hst.cell k (by omega);have c1:=hst.cell (k+5) (by omega);have c2:=hst.cell (k+10) (by omega);have c3:=hst.cell (k+15) (by omega);have c4:=hst.cell (k+20) (by omega);have d0:=hd.cell k hlt;have hf:=hst.frozen;generalize hS:kB dd st k=S at*;have HS:Hid (kB dd st k=S):=hS;generalize hy:dd.getD k 0=y at*;generalize hx0:S.getD k 0=x0 at*;generalize hx1:S.getD (k+5) 0=x1 at*;generalize hx2:S.getD (k+10) 0=x2 at*;generalize hx3:S.getD (k+15) 0=x3 at*;generalize hx4:S.getD (k+20) 0=x4 at*;(have HX:Hid (F8 dd S k=((((S.set k (x0^^^y)).set (k+5) (x1^^^y)).set (k+10) (x2^^^y)).set (k+15) (x3^^^y)).set (k+20) (x4^^^y)):=by show F8 dd S k=_;simp only[F8,hy,hx0,hx1,hx2,hx3,hx4]);clear hS hy hx0 hx1 hx2 hx3 hx4;(have i1:(k:Int)+20<25:=by omega);(have i2:(k:Int)<5:=by omega);go_wp2_with fail;go_region;go_wp2_with fail;go_region;go_wp2_with fail;go_region;go_wp2_with fail;go_region;go_wp2_with fail;go_region;go_wp2_with fail;go_roundw;(case rel=>rw[Zp,Zp,Zp,Zp,Zp];refine⟨k+1,by omega,by go_num,?_,?_,?_⟩;(·simp only[kB,HS.out,HX.out];exact(((((hst.set k _).set (k+5) _).set (k+10) _).set (k+15) _).set (k+20) _).drew.drew.drew.drew.drew);(·exact(((((hd.setOther b hbw.symm k _).setOther b hbw.symm (k+5) _).setOther b hbw.symm (k+10) _).setOther b hbw.symm (k+15) _).setOther b hbw.symm (k+20) _).drew.drew.drew.drew.drew);·exact Ql (Ql (Ql (Ql (Ql (Qg (Qg (Qg (Qg (Qg hg k _) (k+5) _) (k+10) _) (k+15) _) (k+20) _))))));case measure=>simp[intOf];omega);·(obtain rfl:k=5:=by omega);go_wp2;go_end0;refine⟨rfl,?_,hg⟩;rw[HC.out,HDD.out];exact hst
def Jx:List Nat:=[10,7,11,17,18,3,5,16,8,21,24,4,15,23,19,13,12,2,20,14,22,9,6,1]
def J6:List Nat:=[1,3,6,10,15,21,28,36,45,55,2,14,27,41,56,8,25,43,62,18,39,61,20,44]
def Jy:List (BitVec 64):=[0x0000000000000001,0x0000000000008082,0x800000000000808a,0x8000000080008000,0x000000000000808b,0x0000000080000001,0x8000000080008081,0x8000000000008009,0x000000000000008a,0x0000000000000088,0x0000000080008009,0x000000008000000a,0x000000008000808b,0x800000000000008b,0x8000000000008089,0x8000000000008003,0x8000000000008002,0x8000000000000080,0x000000000000800a,0x800000008000000a,0x8000000080008081,0x8000000000008080,0x0000000080000001,0x8000000080008008]
theorem eW(k:Nat)(h:k<24):Jx.getD k 0<25:=(by
 decide:∀k:Fin 24,Jx.getD k.1 0<25) ⟨k,h⟩
theorem Oy(k:Nat)(h:k<24):J6.getD k 0<64:=(by
 decide:∀k:Fin 24,J6.getD k.1 0<64) ⟨k,h⟩
structure Yu(w:I):Prop where nums:∀i,i<24->w.cell? ⟨2,i,H⟩=F (tL .u64 (U (Jy.getD i 0)))walk:∀i,i<24->w.cell? ⟨3,i,H⟩=F (tL rA ((Jx.getD i 0:Nat):Int))turns:∀i,i<24->w.cell? ⟨4,i,H⟩=F (tL rA ((J6.getD i 0:Nat):Int))
theorem Yu.grown{w w':I}{b:Nat}(h:Yu w)(hg:J w w' (F b))(hb:5<=b):Yu w':=⟨fun i hi=>hg.cell (h.nums i hi) (by
 simp;omega),fun i hi=>hg.cell (h.walk i hi) (by
 simp;omega),fun i hi=>hg.cell (h.turns i hi) (by
 simp;omega)⟩
def JW(st:List (BitVec 64)):Nat->List (BitVec 64)×BitVec 64|0=>(st,st.getD 1 0)|k+1=>((JW st k).1.set (Jx.getD k 0) (xN (JW st k).2 (J6.getD k 0)),(JW st k).1.getD (Jx.getD k 0) 0)
theorem aX(w:I)(b:Nat)(hb:5<=b)(st:List (BitVec 64))(h:St w b st)(ht:Yu w):rY tB 146 #[.pointer (F ⟨b,0,H⟩)] w fun e w'=>e=sQ (pX #[])∧St w' b (JW st 24).1∧J w w' (F b):=by
 have c1:=h.cell 1 (by omega);go_enter Tryz.func146,Tryz.ntmps146;go_wp2;go_loopw[2,10](fun m i wr=>∃k:Nat,k<=24∧i=tL rA (k:Int)∧m=tL .u64 (U (JW st k).2)∧St wr b (JW st k).1∧J w wr (F b))(fun _ i _=>24-(intOf i).toNat);case atStart=>exact⟨0,by omega,rfl,by simp[JW],h,Qb _ _⟩
 case round=>obtain⟨k,hk,rfl,rfl,hst,hg⟩:=hrel;clear c1;by_cases hlt:k<24;(·have hT:=ht.grown hg hb;have hw:=eW k hlt;have hr:=Oy k hlt;have t1:=hT.walk k hlt;have t2:=hT.turns k hlt;have c:=hst.cell (Jx.getD k 0) hw;have hf:=hst.frozen;generalize hS:(JW st k).1=S at*;have HS:Hid ((JW st k).1=S):=hS;generalize hM:(JW st k).2=M at*;have HM:Hid ((JW st k).2=M):=hM;generalize hW:Jx.getD k 0=W at*;have HW:Hid (Jx.getD k 0=W):=hW;generalize hR:J6.getD k 0=R at*;have HR:Hid (J6.getD k 0=R):=hR;clear hS hM hW hR;generalize hX:S.getD W 0=X at*;have HX:Hid (S.getD W 0=X):=hX;clear hX hT ht h;(have i1:(W:Int)<25:=by omega);go_wp2_with fail;go_region_with(go_at_call 149;refine(Hb M (R:Int) (by omega) (by omega) _).mono ?_;rintro e w'⟨rfl,rfl⟩);(all_goals go_wp2);go_roundw;(case rel=>refine⟨k+1,by omega,by go_num,?_,?_,Ql (Qg hg _ _)⟩;(·simp only[JW,HS.out,HW.out,HX.out]);·simp only[JW,HS.out,HM.out,HW.out,HR.out];exact(hst.set W _).drew);case measure=>simp[intOf];omega);·(obtain rfl:k=24:=by omega);go_wp2;go_end0;exact⟨rfl,hst,hg⟩
def Ag(st:List (BitVec 64))(n:BitVec 64):List (BitVec 64):=let r:=VM (JW (kB (cQ (Vj st 5)) st 5) 24).1 5;r.set 0 (r.getD 0 0^^^n)
theorem Oa(w:I)(b:Nat)(hb:5<=b)(st:List (BitVec 64))(n:BitVec 64)(h:St w b st)(ht:Yu w):rY tB 142 #[.pointer (F ⟨b,0,H⟩),tL .u64 (U n)] w fun e w'=>e=sQ (pX #[])∧St w' b (Ag st n)∧J w w' (F b):=by
 go_enter Tryz.func142,Tryz.ntmps142;go_wp2_with fail;refine(cK _ b st h).mono ?_;rintro e w1⟨rfl,h1,g1⟩;go_wp2_with fail;refine(aX _ b hb _ h1 (ht.grown g1 hb)).mono ?_;rintro e w2⟨rfl,h2,g2⟩;go_wp2_with fail;refine(Oi _ b _ h2).mono ?_;rintro e w3⟨rfl,h3,g3⟩;have g:=Qa g1 (Qa g2 g3);clear g1 g2 g3 h1 h2 h ht;have HR:Hid (Ag st n=(VM (JW (kB (cQ (Vj st 5)) st 5) 24).1 5).set 0 ((VM (JW (kB (cQ (Vj st 5)) st 5) 24).1 5).getD 0 0^^^n)):=rfl;generalize VM (JW (kB (cQ (Vj st 5)) st 5) 24).1 5=S at*;have c0:=h3.cell 0 (by omega);have hf:=h3.frozen 0;generalize hx:S.getD 0 0=x at*;clear hx;go_wp2_with fail;go_region;go_wp2_with fail;go_end0;refine⟨rfl,?_,Ql (Qg g 0 _)⟩;rw[HR.out,Zp];exact(h3.set 0 _).drew
def kN{α:Type}(p:α->Bool):List α->Option Nat|[]=>H|a::l=>if p a=L then F 0 else(kN p l).map (·+1)
def ZP{α:Type}(p:α->Bool)(l:List α):Int:=match kN p l with|F i=>(i:Int)|none=>-1
theorem Tm{α:Type}(p:α->Bool)(d:α):∀(l:List α)(m:Nat),m<l.length->(l.take m).any p=tA->p (l.getD m d)=L->kN p l=F m|[],_,h,_,_=>by simp at h|a::l,0,_,_,h=>by have h':p a=L:=h;rw[kN,if_pos h']|a::l,m+1,h0,h1,h2=>by rw[sH,rU,rS]at h1;rw[kN,if_neg (by rw[h1.1];decide),Tm p d l m (by simpa using h0) h1.2 (by simpa using h2)];rfl
theorem Fn{α:Type}(p:α->Bool):∀(l:List α),l.any p=tA->kN p l=H|[],_=>rfl|a::l,h=>by rw[rU,rS]at h;rw[kN,if_neg (by rw[h.1];decide),Fn p l h.2];rfl
theorem qU{α:Type}(p:α->Bool)(d:α)(l:List α)(m:Nat)(h:m<l.length)(h1:(l.take m).any p=tA)(h2:p (l.getD m d)=L):ZP p l=(m:Int):=by
 rw[ZP,Tm p d l m h h1 h2]
theorem KW{α:Type}(p:α->Bool)(l:List α)(h:l.any p=tA):ZP p l=-1:=by
 rw[ZP,Fn p l h]
theorem Vc{α:Type}(p:α->Bool)(d:α):∀(l:List α),l.any p=L->∃m,m<l.length∧(l.take m).any p=tA∧p (l.getD m d)=L∧ZP p l=(m:Int)|[],h=>by simp at h|a::l,h=>by by_cases ha:p a=L;(·exact⟨0,by simp,by simp,ha,qU p d (a::l) 0 (by simp) (by simp) ha⟩);·(have hf:p a=tA:=by simpa using ha);rw[rU,hf,Bool.false_or]at h;obtain⟨m,h1,h2,h3,_⟩:=Vc p d l h;(have e1:m+1<(a::l).length:=by simp;omega);(have e2:((a::l).take (m+1)).any p=tA:=by rw[sH,rU,hf,h2];rfl);(have e3:p ((a::l).getD (m+1) d)=L:=by simpa using h3);exact⟨m+1,e1,e2,e3,qU p d _ _ e1 e2 e3⟩
theorem kZ{α:Type}(p:α->Bool)(l:List α):(ZP p l==-1)=!(l.any p):=by
 cases h:l.any p with|false=>rw[KW p l h];rfl|true=>cases l with|nil=>simp at h|cons a l=>obtain⟨m,_,_,_,e⟩:=Vc p a (a::l) h;rw[e];(have:((m:Int)==-1)=tA:=by simp);rw[this];rfl
theorem TW{α:Type}(p:α->Bool)(l:List α):tI (0<=ZP p l)=l.any p:=by
 cases h:l.any p with|false=>rw[KW p l h];rfl|true=>cases l with|nil=>simp at h|cons a l=>obtain⟨m,_,_,_,e⟩:=Vc p a (a::l) h;rw[e];simp
theorem KZ(w:I)(v1 v2:O)(b1 b2:List UInt8)(h1:Qe w v1 b1)(h2:Qe w v2 b2):rY tB 78 #[v1,v2] w fun e w'=>e=sQ (pQ (tI (b1=b2)))∧w'=w:=by
 have c1:=qK w v1 b1 h1;have c2:=qK w v2 b2 h2;go_enter Tryz.func78,Tryz.ntmps78;go_wp2;go_ret;refine⟨?_,rfl⟩;have e:((kT b1).toList==(kT b2).toList)=tI (b1=b2):=by rw[Ff,Ff];by_cases h:b1=b2<;>simp[h]
 rw[<-e];rfl
theorem Pd(p:Q9):QJ [] [p]=QC p:=by
 have h0:Q6 []=0:=(Xm []).2 VN;rw[QJ,if_pos h0,if_neg (by simp),ZL];by_cases h:QC p=0;·have h2:=xB VN h Nw (by omega);have h3:(QR [] p).length<=1:=Fi [] p;rw[if_neg (by omega)]at h2;rw[if_pos h,if_pos h2,ZL,h]
 ·rw[if_neg h]
def Td:Prop:=∀(w:I)(a:Option pG)(n cap:Nat),rY tB 21 #[tH a n cap] w fun e w'=>e=sQ (tL rA (Qn n))∧J w w' H
theorem YK:Td:=by
 intro w a n cap;by_cases h1:1<=n;·by_cases h2:n<=16;(·rw[Qn,if_pos ⟨h1,h2⟩];(have t1:¬(n:Int)<1:=by omega);(have t2:¬(n:Int)>16:=by omega);go_enter pR,pI;go_wp2;go_ret;exact⟨rfl,Qb _ _⟩);·rw[Qn,if_neg (by omega)];(have t1:¬(n:Int)<1:=by omega);(have t2:(n:Int)>16:=by omega);go_enter pR,pI;go_wp2;go_ret;exact⟨rfl,Qb _ _⟩
 ·rw[Qn,if_neg (by omega)];(have t1:(n:Int)<1:=by omega);go_enter pR,pI;go_wp2;go_ret;exact⟨rfl,Qb _ _⟩
def Zt(l:PL)(k:List UInt8):Nat:=(l.takeWhile fun p=>Ym p.1 k).length
def GQ(l:PL)(k:List UInt8):Bool:=tI (Zt l k<l.length∧(l.getD (Zt l k) ([],[])).1=k)
def XT(l:PL)(k:List UInt8):Nat:=if GQ l k=L then Zt l k+1 else Zt l k
theorem yJ(l:PL)(k:List UInt8):Zt l k<=l.length:=by
 induction l with|nil=>simp[Zt]|cons p r ih=>unfold Zt at ih⊢;rw[pV];cases h:Ym p.1 k with|true=>simpa using ih|false=>simp
theorem O6:∀(l:PL)(k:List UInt8)(i:Nat),i<=l.length->(∀j,j<i->Ym (l.getD j ([],[])).1 k=L)->(i<l.length->Ym (l.getD i ([],[])).1 k=tA)->Zt l k=i|[],k,i,h,_,_=>by(obtain rfl:i=0:=by simpa using h);rfl|p::r,k,0,_,_,h2=>by have:=h2 (by simp);simp only[tY]at this;simp[Zt,this]|p::r,k,i+1,h,h1,h2=>by have h0:=h1 0 (by omega);simp only[tY]at h0;have:=O6 r k i (by simpa using h) (fun j hj=>by simpa using h1 (j+1) (by omega)) (fun hi=>by simpa using h2 (by simpa using hi));unfold Zt at this⊢;rw[tN (p:=fun p:Pr=>Ym p.1 k) h0];simpa using this
theorem Mu:∀(l:PL)(k:List UInt8)(j:Nat),j<Zt l k->Ym (l.getD j ([],[])).1 k=L|[],k,j,h=>by simp[Zt]at h|p::r,k,j,h=>by cases hk:Ym p.1 k with|false=>simp[Zt,hk]at h|true=>cases j with|zero=>simpa using hk|succ j=>unfold Zt at h;rw[tN (p:=fun p:Pr=>Ym p.1 k) hk]at h;have:=Mu r k j (by unfold Zt;simpa using h);simpa using this
theorem MR:∀(l:PL)(k:List UInt8),Zt l k<l.length->Ym (l.getD (Zt l k) ([],[])).1 k=tA|[],k,h=>by simp at h|p::r,k,h=>by cases hk:Ym p.1 k with|false=>simp[Zt,hk]|true=>(have e:Zt (p::r) k=Zt r k+1:=by unfold Zt;rw[tN (p:=fun p:Pr=>Ym p.1 k) hk];simp);rw[e]at h⊢;have:=MR r k (by simpa using h);simpa using this
theorem uN(l:PL)(k:List UInt8)(hr:Kk l)(j:Nat)(hj:j<l.length):Ym (l.getD j ([],[])).1 k=tI (j<Zt l k):=by
 by_cases h:j<Zt l k;·rw[decide_eq_true h];exact Mu l k j h
 ·rw[decide_eq_false h];have h0:=MR l k (by omega);by_cases e:j=Zt l k;(·rw[e];exact h0);·cases hk:Ym (l.getD j ([],[])).1 k with|false=>rfl|true=>have:=Yr _ _ _ (UI l hr (Zt l k) j (by omega) hj) hk;rw[this]at h0;cases h0
theorem vV{l:PL}{k:List UInt8}(h:GQ l k=L):Zt l k<l.length∧(l.getD (Zt l k) ([],[])).1=k:=by
 simpa only[GQ,decide_eq_true_eq]using h
theorem jB(l:PL)(k:List UInt8):Zt l k<=XT l k∧XT l k<=l.length∧XT l k<=Zt l k+1:=by
 have:=yJ l k;unfold XT;by_cases h:GQ l k=L;·rw[if_pos h];have:=(vV h).1;omega
 ·rw[if_neg h];omega
theorem Tf(l:PL)(k:List UInt8)(hr:Kk l)(j:Nat)(hj:j<l.length)(he:(l.getD j ([],[])).1=k):GQ l k=L∧j=Zt l k:=by
 have hp:Zt l k=j:=by refine O6 l k j (by omega) (fun i hi=>?_) (fun _=>?_);(·rw[<-he];exact UI l hr i j hi hj);·rw[he];exact Xy k
 refine⟨?_,hp.symm⟩;rw[GQ,hp];exact decide_eq_true ⟨hj,he⟩
theorem dL(l:PL)(k:List UInt8)(hr:Kk l):Ul l k=if GQ l k=L then F (l.getD (Zt l k) ([],[])).2 else H:=by
 by_cases h:GQ l k=L;·rw[if_pos h];obtain⟨h1,h2⟩:=vV h;refine OS l k _ h1 (fun j hj e=>?_) h2;have:=Mu l k j hj;rw[e,Xy]at this;cases this
 ·rw[if_neg h];exact T0 l k fun j hj e=>h (Tf l k hr j hj e).1
theorem Ck(l:PL)(p:Pr):JE l p=l.take (Zt l p.1)++([p]++l.drop (XT l p.1)):=by
 rw[L8 l p (Zt l p.1) (yJ l p.1) (fun j hj=>Mu l p.1 j hj) (MR l p.1)];by_cases h:Zt l p.1<l.length∧(l.getD (Zt l p.1) ([],[])).1=p.1;·rw[if_pos h,XT,if_pos (by rw[GQ];exact decide_eq_true h),rX,if_pos h.1];rfl
 ·rw[if_neg h,XT,if_neg (by rw[GQ];simpa using h)]
theorem Oo(l:PL)(p:Pr):(JE l p).length=Zt l p.1+1+(l.length-XT l p.1):=by
 rw[Ck];have h1:=yJ l p.1;simp;omega
theorem Oe(l:PL)(p:Pr)(hl:l.length<=60):(60<(JE l p).length)↔(Zt l p.1=XT l p.1∧l.length=60):=by
 rw[Oo];have:=jB l p.1;omega
theorem CI(l:PL)(f:Pr->Bool)(n:Nat)(hn:n<=l.length)(h1:∀j,j<n->f (l.getD j ([],[]))=tA)(h2:∀j,n<=j->j<l.length->f (l.getD j ([],[]))=L):l.filter f=l.drop n:=by
 have e:l=l.take n++l.drop n:=(tE n l).symm;have ha:(l.take n).filter f=[]:=by rw[sK];intro q hq;obtain⟨j,hj,rfl⟩:=N.1 hq;(have hjn:j<n:=by simp at hj;omega);have:=h1 j hjn;rw[sG];rw[show l[j]'(by omega)=l.getD j ([],[])by simp[show j<l.length by omega],this];simp
 have hb:(l.drop n).filter f=l.drop n:=by rw[tP];intro q hq;obtain⟨j,hj,rfl⟩:=N.1 hq;(have hjn:n+j<l.length:=by simp at hj;omega);rw[sN,show l[n+j]=l.getD (n+j) ([],[])by simp[hjn]];exact h2 _ (by omega) hjn
 conv=>lhs;rw[e]
 rw[sJ,ha,hb,pC]
theorem C7(l:PL)(f:Pr->Bool)(n:Nat)(hn:n<=l.length)(h1:∀j,j<n->f (l.getD j ([],[]))=L)(h2:∀j,n<=j->j<l.length->f (l.getD j ([],[]))=tA):l.filter f=l.take n:=by
 have e:l=l.take n++l.drop n:=(tE n l).symm;have hb:(l.drop n).filter f=[]:=by rw[sK];intro q hq;obtain⟨j,hj,rfl⟩:=N.1 hq;(have hjn:n+j<l.length:=by simp at hj;omega);rw[sN,show l[n+j]=l.getD (n+j) ([],[])by simp[hjn],h2 _ (by omega) hjn];simp
 have ha:(l.take n).filter f=l.take n:=by rw[tP];intro q hq;obtain⟨j,hj,rfl⟩:=N.1 hq;(have hjn:j<n:=by simp at hj;omega);rw[sG,show l[j]'(by omega)=l.getD j ([],[])by simp[show j<l.length by omega]];exact h1 j hjn
 conv=>lhs;rw[e]
 rw[sJ,ha,hb,tW]
theorem aB(l:PL)(k:List UInt8)(hr:Kk l):zW l k=l.take (Zt l k)++l.drop (XT l k):=by
 by_cases h:GQ l k=L;·obtain⟨h1,h2⟩:=vV h;(have e:l=l.take (Zt l k)++(l.getD (Zt l k) ([],[])::l.drop (Zt l k+1)):=by(conv=>lhs;rw[<-tE (Zt l k) l,sF h1]);simp[h1]);have hne:∀j,j<l.length->j≠Zt l k->(l.getD j ([],[])).1≠k:=fun j hj hn e=>hn (Tf l k hr j hj e).2;(have ha:(l.take (Zt l k)).filter (fun q=>!(q.1==k))=l.take (Zt l k):=by rw[tP];intro q hq;obtain⟨j,hj,rfl⟩:=N.1 hq;(have hjn:j<Zt l k:=by simp at hj;omega);rw[sG,show l[j]'(by omega)=l.getD j ([],[])by simp[show j<l.length by omega]];simpa using hne j (by omega) (by omega));(have hb:(l.drop (Zt l k+1)).filter (fun q=>!(q.1==k))=l.drop (Zt l k+1):=by rw[tP];intro q hq;obtain⟨j,hj,rfl⟩:=N.1 hq;(have hjn:Zt l k+1+j<l.length:=by simp at hj;omega);rw[sN,show l[Zt l k+1+j]=l.getD (Zt l k+1+j) ([],[])by simp[hjn]];simpa using hne _ hjn (by omega));rw[XT,if_pos h,zW];(conv=>lhs;rw[e]);rw[sJ,sS (by simpa using h2),ha,hb]
 ·rw[XT,if_neg h,tE,zW,tP];intro q hq;obtain⟨j,hj,rfl⟩:=N.1 hq;have:=fun e=>h (Tf l k hr j hj e).1;rw[show l.getD j ([],[])=l[j]by simp[hj]]at this;simpa using this
theorem Fu(l:PL)(k:List UInt8)(hr:Kk l)(j:Nat)(hj:j<l.length):Ym k (l.getD j ([],[])).1=tI (XT l k<=j):=by
 have hp:=uN l k hr j hj;have hn:=jB l k;by_cases h1:j<Zt l k;·rw[decide_eq_true h1]at hp;rw[Hz _ _ hp,decide_eq_false (by omega)]
 ·rw[decide_eq_false h1]at hp;by_cases e:(l.getD j ([],[])).1=k;(·obtain⟨h2,h3⟩:=Tf l k hr j hj e;rw[e,Xy,XT,if_pos h2,decide_eq_false (by omega)]);·rw[J9 _ _ hp e];by_cases h:GQ l k=L;(·rw[XT,if_pos h,decide_eq_true (by by_cases hjp:j=Zt l k;(·exact absurd (by rw[hjp];exact(vV h).2) e);·omega)]);·rw[XT,if_neg h,decide_eq_true (by omega)]
theorem Ai(l:PL)(f t:List UInt8)(hr:Kk l):Vi l f t=(l.take (max (Zt l f) (XT l t))).drop (Zt l f):=by
 have h1:=yJ l f;have h2:=jB l t;have e:Vi l f t=(l.filter fun q=>!Ym t q.1).filter fun q=>!Ym q.1 f:=by rw[Vi,List.filter_filter]
 rw[e,C7 l _ (XT l t) h2.2.1 (fun j hj=>by rw[Fu l t hr j (by omega),decide_eq_false (by omega)];rfl) (fun j hj hjl=>by rw[Fu l t hr j hjl,decide_eq_true hj];rfl)];have hd:∀(n:Nat),n<=l.length->(l.take n).filter (fun q=>!Ym q.1 f)=(l.take n).drop (Zt l f):=by intro n hn;by_cases hc:Zt l f<=n;(·refine CI _ _ _ (by simp;omega) (fun j hj=>?_) (fun j hj hjl=>?_);(·(have:(l.take n).getD j ([],[])=l.getD j ([],[]):=by simp[show j<n by omega]);rw[this,uN l f hr j (by omega),decide_eq_true hj];rfl);·(have hjn:j<n:=by simp at hjl;omega);(have:(l.take n).getD j ([],[])=l.getD j ([],[]):=by simp[hjn]);rw[this,uN l f hr j (by omega),decide_eq_false (by omega)];rfl);·rw[tX (by simp;omega),sK];intro q hq;obtain⟨j,hj,rfl⟩:=N.1 hq;(have hjn:j<n:=by simp at hj;omega);rw[sG,show l[j]'(by omega)=l.getD j ([],[])by simp[show j<l.length by omega],uN l f hr j (by omega),decide_eq_true (by omega)];simp
 rw[hd _ h2.2.1];by_cases hc:Zt l f<=XT l t;·rw[Nat.max_eq_right hc]
 ·rw[Nat.max_eq_left (by omega),tX (by simp;omega),tX (by simp;omega)]
theorem Me:∀(t:FL)(p:Tn)(k:Nat),k<=t.length->(∀j,j<k->Ym (t.getD j ([],[])).1 p.1=L)->(k<t.length->Ym (t.getD k ([],[])).1 p.1=tA)->YF t p=if k<t.length∧(t.getD k ([],[])).1=p.1then t.set k p else t.take k++([p]++t.drop k)|[],p,k,hk,_,_=>by(obtain rfl:k=0:=by simpa using hk);simp[YF]|q::r,p,0,_,_,h2=>by have h:=h2 (by simp);simp only[tY]at h;rw[YF,if_neg (by rw[h];simp)];by_cases e:q.1=p.1;(·rw[if_pos e,if_pos ⟨by simp,by simpa using e⟩];simp);·rw[if_neg e,if_neg (fun h=>e (by simpa using h.2))];simp|q::r,p,k+1,hk,h1,h2=>by have h:=h1 0 (by omega);simp only[tY]at h;rw[YF,if_pos h,Me r p k (by simpa using hk) (fun j hj=>by simpa using h1 (j+1) (by omega)) (fun hk=>by simpa using h2 (by simpa using hk))];by_cases e:k<r.length∧(r.getD k ([],[])).1=p.1;(·rw[if_pos e,if_pos ⟨by simpa using e.1,by simpa using e.2⟩];simp);·rw[if_neg e,if_neg (fun h=>e ⟨by simpa using h.1,by simpa using h.2⟩)];simp
def Qy(l:FL)(k:List UInt8):Nat:=(l.takeWhile fun p=>Ym p.1 k).length
def J5(l:FL)(k:List UInt8):Bool:=tI (Qy l k<l.length∧(l.getD (Qy l k) ([],[])).1=k)
def QL(l:FL)(k:List UInt8):Nat:=if J5 l k=L then Qy l k+1 else Qy l k
theorem vB(l:FL)(k:List UInt8):Qy l k<=l.length:=by
 induction l with|nil=>simp[Qy]|cons p r ih=>unfold Qy at ih⊢;rw[pV];cases h:Ym p.1 k with|true=>simpa using ih|false=>simp
theorem DD:∀(l:FL)(k:List UInt8)(i:Nat),i<=l.length->(∀j,j<i->Ym (l.getD j ([],[])).1 k=L)->(i<l.length->Ym (l.getD i ([],[])).1 k=tA)->Qy l k=i|[],k,i,h,_,_=>by(obtain rfl:i=0:=by simpa using h);rfl|p::r,k,0,_,_,h2=>by have:=h2 (by simp);simp only[tY]at this;simp[Qy,this]|p::r,k,i+1,h,h1,h2=>by have h0:=h1 0 (by omega);simp only[tY]at h0;have:=DD r k i (by simpa using h) (fun j hj=>by simpa using h1 (j+1) (by omega)) (fun hi=>by simpa using h2 (by simpa using hi));unfold Qy at this⊢;rw[tN (p:=fun p:Tn=>Ym p.1 k) h0];simpa using this
theorem u7:∀(l:FL)(k:List UInt8)(j:Nat),j<Qy l k->Ym (l.getD j ([],[])).1 k=L|[],k,j,h=>by simp[Qy]at h|p::r,k,j,h=>by cases hk:Ym p.1 k with|false=>simp[Qy,hk]at h|true=>cases j with|zero=>simpa using hk|succ j=>unfold Qy at h;rw[tN (p:=fun p:Tn=>Ym p.1 k) hk]at h;have:=u7 r k j (by unfold Qy;simpa using h);simpa using this
theorem PR:∀(l:FL)(k:List UInt8),Qy l k<l.length->Ym (l.getD (Qy l k) ([],[])).1 k=tA|[],k,h=>by simp at h|p::r,k,h=>by cases hk:Ym p.1 k with|false=>simp[Qy,hk]|true=>(have e:Qy (p::r) k=Qy r k+1:=by unfold Qy;rw[tN (p:=fun p:Tn=>Ym p.1 k) hk];simp);rw[e]at h⊢;have:=PR r k (by simpa using h);simpa using this
theorem WG(l:FL)(k:List UInt8)(hr:Xq l)(j:Nat)(hj:j<l.length):Ym (l.getD j ([],[])).1 k=tI (j<Qy l k):=by
 by_cases h:j<Qy l k;·rw[decide_eq_true h];exact u7 l k j h
 ·rw[decide_eq_false h];have h0:=PR l k (by omega);by_cases e:j=Qy l k;(·rw[e];exact h0);·cases hk:Ym (l.getD j ([],[])).1 k with|false=>rfl|true=>have:=Yr _ _ _ (qZ l hr (Qy l k) j (by omega) hj) hk;rw[this]at h0;cases h0
theorem jH{l:FL}{k:List UInt8}(h:J5 l k=L):Qy l k<l.length∧(l.getD (Qy l k) ([],[])).1=k:=by
 simpa only[J5,decide_eq_true_eq]using h
theorem PA(l:FL)(k:List UInt8):Qy l k<=QL l k∧QL l k<=l.length∧QL l k<=Qy l k+1:=by
 have:=vB l k;unfold QL;by_cases h:J5 l k=L;·rw[if_pos h];have:=(jH h).1;omega
 ·rw[if_neg h];omega
theorem P9(l:FL)(k:List UInt8)(hr:Xq l)(j:Nat)(hj:j<l.length)(he:(l.getD j ([],[])).1=k):J5 l k=L∧j=Qy l k:=by
 have hp:Qy l k=j:=by refine DD l k j (by omega) (fun i hi=>?_) (fun _=>?_);(·rw[<-he];exact qZ l hr i j hi hj);·rw[he];exact Xy k
 refine⟨?_,hp.symm⟩;rw[J5,hp];exact decide_eq_true ⟨hj,he⟩
theorem WI(l:FL)(k:List UInt8)(hr:Xq l):YW l k=if J5 l k=L then F (l.getD (Qy l k) ([],[])).2 else H:=by
 by_cases h:J5 l k=L;·rw[if_pos h];obtain⟨h1,h2⟩:=jH h;refine Bg l k _ h1 (fun j hj e=>?_) h2;have:=u7 l k j hj;rw[e,Xy]at this;cases this
 ·rw[if_neg h];exact kP l k fun j hj e=>h (P9 l k hr j hj e).1
theorem R7(l:FL)(p:Tn):YF l p=l.take (Qy l p.1)++([p]++l.drop (QL l p.1)):=by
 rw[Me l p (Qy l p.1) (vB l p.1) (fun j hj=>u7 l p.1 j hj) (PR l p.1)];by_cases h:Qy l p.1<l.length∧(l.getD (Qy l p.1) ([],[])).1=p.1;·rw[if_pos h,QL,if_pos (by rw[J5];exact decide_eq_true h),rX,if_pos h.1];rfl
 ·rw[if_neg h,QL,if_neg (by rw[J5];simpa using h)]
theorem S8(l:FL)(p:Tn):(YF l p).length=Qy l p.1+1+(l.length-QL l p.1):=by
 rw[R7];have h1:=vB l p.1;simp;omega
theorem T6(l:FL)(p:Tn)(hl:l.length<=8):(8<(YF l p).length)↔(Qy l p.1=QL l p.1∧l.length=8):=by
 rw[S8];have:=PA l p.1;omega
theorem Ax(l:FL)(k:List UInt8)(hr:Xq l):GA l k=l.take (Qy l k)++l.drop (QL l k):=by
 by_cases h:J5 l k=L;·obtain⟨h1,h2⟩:=jH h;(have e:l=l.take (Qy l k)++(l.getD (Qy l k) ([],[])::l.drop (Qy l k+1)):=by(conv=>lhs;rw[<-tE (Qy l k) l,sF h1]);simp[h1]);have hne:∀j,j<l.length->j≠Qy l k->(l.getD j ([],[])).1≠k:=fun j hj hn e=>hn (P9 l k hr j hj e).2;(have ha:(l.take (Qy l k)).filter (fun q=>!(q.1==k))=l.take (Qy l k):=by rw[tP];intro q hq;obtain⟨j,hj,rfl⟩:=N.1 hq;(have hjn:j<Qy l k:=by simp at hj;omega);rw[sG,show l[j]'(by omega)=l.getD j ([],[])by simp[show j<l.length by omega]];simpa using hne j (by omega) (by omega));(have hb:(l.drop (Qy l k+1)).filter (fun q=>!(q.1==k))=l.drop (Qy l k+1):=by rw[tP];intro q hq;obtain⟨j,hj,rfl⟩:=N.1 hq;(have hjn:Qy l k+1+j<l.length:=by simp at hj;omega);rw[sN,show l[Qy l k+1+j]=l.getD (Qy l k+1+j) ([],[])by simp[hjn]];simpa using hne _ hjn (by omega));rw[QL,if_pos h,GA];(conv=>lhs;rw[e]);rw[sJ,sS (by simpa using h2),ha,hb]
 ·rw[QL,if_neg h,tE,GA,tP];intro q hq;obtain⟨j,hj,rfl⟩:=N.1 hq;have:=fun e=>h (P9 l k hr j hj e).1;rw[show l.getD j ([],[])=l[j]by simp[hj]]at this;simpa using this
theorem iR(l:FL)(k:List UInt8)(hr:Xq l):XY l k=if J5 l k=L then(l.getD (Qy l k) ([],[])).2 else[]:=by
 unfold XY;rw[WI l k hr];by_cases h:J5 l k=L;·rw[if_pos h,if_pos h];rfl
 ·rw[if_neg h,if_neg h];rfl
theorem D9(l:FL)(k:List UInt8)(hr:Xq l):((l.take (QL l k)).drop (Qy l k)=[]∧XY l k=[]∧QL l k=Qy l k)∨(∃t,(l.take (QL l k)).drop (Qy l k)=[t]∧XY l k=t.2∧QL l k=Qy l k+1):=by
 rw[iR l k hr];by_cases h:J5 l k=L;·right;obtain⟨h1,h2⟩:=jH h;refine⟨l.getD (Qy l k) ([],[]),?_,by rw[if_pos h],by rw[QL,if_pos h]⟩;rw[QL,if_pos h,List.take_succ_eq_append_getElem h1,pB (by simp;omega),tX (by simp;omega),pC];simp[h1]
 ·left;refine⟨?_,by rw[if_neg h],by rw[QL,if_neg h]⟩;rw[QL,if_neg h,tX (by simp;omega)]
def dY:Prop:=∀(w:I)(a:Option pG)(n cap:Nat),rY tB 20 #[tH a n cap] w fun e w'=>e=sQ (tL rA (Qt n))∧J w w' H
def Hg:Prop:=∀(w:I)(v:O)(r:Rq),Uz w->K9 w v r->yV r->rY tB 13 #[v] w fun e w'=>e=sQ (tL rA (Yg r))∧J w w' H
end Go.Proofs.YtpimcmbjdcjmlaaGreatDoor
