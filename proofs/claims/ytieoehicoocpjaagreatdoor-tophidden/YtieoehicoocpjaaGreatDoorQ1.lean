/-
  Texts of this proof, joined, with few blanks: Base, LineF, SlM, PartM, Keys, PlaceM, Trees, TreeF, FitsF, ForestF, RdF, WrM0, TapeF, TapeG, KTree, KPure, ForestK, ForestE, WireF, WireG, LineG, RqMem, RqBox, RqEn, RdM0, ProofM, Sides, ForkF, Bits, Lanes, Cols, Move, Round, IdxF, EqB, ApplyOne, CheckC, CheckP, PosF, FPosF, FCName, RqCk.
-/
import Derived.WalkKit
import Derived.WalkSpells
import Derived.WalkLawsBesides
import Derived.BigRegion
import Derived.Deep.QuietTactic
import Derived.BigQuiet
import Derived.Deep.RegionHeld3
import Derived.Deep.DeepCutAuto
import Derived.Lib.Strings
import Derived.Test.YtieoehicoocpjaaGreatDoorChecked
set_option maxRecDepth 100000
set_option maxHeartbeats 8000000
open Array renaming getElem?_eq_some_iff->tL,getElem?_modify->tQ,ext->oI
open BitVec renaming ofInt->sB,ofInt_natCast->pL
open Bool renaming true->O,false->V,or_eq_false_iff->rO,and_eq_true->pX,or_eq_true->oC
open Classical renaming byContradiction->sN
open Decidable renaming decide->tI
open Go renaming World->I,Value->N,TypeId->sW,heap_alloc_new->rJ,Calls->rW,Addr->pD,maxLen->oK,info_parts->oL
open Go.Ending renaming returned->sP
open Go.IntKind renaming i64->sY,u64->rD,u8->rG,wrap_u64->rU
open Go.Obj renaming cells->tJ
open Go.Op renaming bytesLess->sH
open Go.Proofs.Tryz renaming prog->tA,underlying27->sL,ntmps50->pE,func50->pP
open Go.Value renaming slice->tH,int->tK,agg->pN,bool->pO,tuple->pV,ownBlock->pZ
open Go.Value.slice renaming injEq->rB
open Go.World renaming grownBy->J,setCell->tG,cell?->tZ,frozen?->sV,grownBy_alloc->rP
open Int renaming toNat_natCast->rI,le_refl->oJ
open List renaming mem_iff_getElem->L,length_append->T,append_assoc->tB,eq_nil_of_length_eq_zero->tD,take_append_drop->tE,takeWhile_cons_of_pos->tM,filter_eq_self->tN,mem_cons->tS,append_nil->tV,drop_eq_nil_of_le->tW,getD_cons_zero->tX,mem_cons_of_mem->tY,drop_eq_getElem_cons->sD,getElem_take->sE,getElem_mem->sF,take_succ_cons->sG,filter_append->sI,filter_eq_nil_iff->sJ,getElem_drop->sM,pairwise_singleton->sQ,getElem?_map->sS,length_filter_le->sX,pairwise_cons->rF,flatMap_cons->rH,getElem?_eq_getElem->rK,take_left'->rM,drop_left'->rN,any_cons->rS,mem_cons_self->rT,set_eq_take_append_cons_drop->rV,length_cons->rX,mem_filter->rY,take_append_of_le_length->r7,drop_append_of_le_length->r8,nil_append->pA,getElem?_eq_some_iff->pB,pairwise_iff_getElem->pC,filter_cons_of_neg->pF,take_of_length_le->pG,find?_cons_of_pos->pI,find?_cons_of_neg->pJ,drop_succ_cons->pR,takeWhile_cons->pT,getElem?_take->pU,length_drop->pY,map_cons->oE,take_nil->oF
open List.Pairwise renaming cons->tU,filter->sR,nil->sZ
open Nat renaming lt_of_lt_of_le->tR,le_refl->sA,testBit_lt_two_pow->sU,pow_le_pow_right->rA,le_trans->rC,testBit_div_two_pow->pH,div_div_eq_div_mul->pM,eq_of_testBit_eq->pQ,min_eq_left->oD,sub_self->oG,mul_one->oH
open Option renaming some->F,none->H,map_some->sO
open Option.some renaming injEq->tP,inj->pK
open Prod.mk renaming injEq->sC
open UInt8 renaming ofNat->tC,lt_iff_toNat_lt->sK,toNat_ofNat'->pS,toNat_inj->pW
namespace Go.Proofs.YtieoehicoocpjaaGreatDoor
open Go.RowKit
section
theorem Qb(w:I)(r:Option Nat):J w w r:=⟨rfl,rfl,rfl,sA _,fun _ _ _=>rfl⟩
theorem Qa{w w1 w2:I}{r:Option Nat}(h:J w w1 r)(k:J w1 w2 r):J w w2 r:=⟨k.os.trans h.os,k.tape.trans h.tape,k.output.trans h.output,rC h.size k.size,fun i hi hn=>(k.block i (tR hi h.size) hn).trans (h.block i hi hn)⟩
theorem Ql{w w1:I}{r:Option Nat}(h:J w w1 r):J w w1.drew r:=⟨h.os,h.tape,h.output,h.size,h.block⟩
theorem Qs{w w1:I}{r:Option Nat}(h:J w w1 r)(n:Nat):J w (w1.drewN n) r:=⟨h.os,h.tape,h.output,h.size,h.block⟩
theorem Qi{w w1:I}{b:Nat}(h:J w w1 (F b))(i:Nat)(v:N):J w (tG w1 ⟨b,i,H⟩ v) (F b):=Qa h ⟨rfl,rfl,rfl,by
 simp[tG],fun k _ hn=>Below.heap_setCell _ _ _ _ (by
 intro e;exact hn (by rw[e]))⟩
theorem Qw{w w1:I}{r:Option Nat}(h:J w w1 r)(o:Obj):J w (w1.alloc o) r:=Qa h (rP _ _ _)
theorem Jy{w w1 w2:I}{r:Option Nat}{c:Nat}(h:J w w1 r)(hc:w.heap.size<=c)(k:J w1 w2 (F c)):J w w2 r:=⟨k.os.trans h.os,k.tape.trans h.tape,k.output.trans h.output,rC h.size k.size,fun i hi hn=>(k.block i (tR hi h.size) (by
 simp;omega)).trans (h.block i hi hn)⟩
theorem Qc{w w1:I}{r:Option Nat}(h:J w w1 r)(c:Nat)(hc:w.heap.size<=c)(i:Nat)(v:N):J w (tG w1 ⟨c,i,H⟩ v) r:=Jy h hc (Qi (Qb _ _) i v)
theorem Z4(b o n:Nat):(⟨b,o,H⟩:pD).add n=⟨b,o+n,H⟩:=by
 unfold Addr.add;split;·simp_all
 ·rfl
theorem bO(w:I):(sizeOf (tA.elem 27)).run tA w=.ok 1 w:=by
 kernel_rfl
theorem cK(W:I)(pb o len cap:Nat)(l:Int)(n:Nat)(hn:l=(n:Int))(h1:n<=len)(hc:n<cap):(Instr.slice 27 (tH (F ⟨pb,o,H⟩) len cap) (F (tK sY l)) H H).run tA W=.ok (tH (F ⟨pb,o+n,H⟩) (len-n) (cap-n)) W:=by
 subst hn;rw[run_slice_l _ _ _ _ _ (by kernel_rfl) _ _ (by omega) (by omega),bO];simp only[Result.andThen,sliced,rI,sO,oH,Z4];rw[if_neg (by omega)]
theorem Lb(W:I)(pb o len cap:Nat)(l:Int)(n:Nat)(hn:l=(n:Int))(hc:n<=cap)(h0:0<cap):(Instr.slice 27 (tH (F ⟨pb,o,H⟩) len cap) H (F (tK sY l)) H).run tA W=.ok (tH (F ⟨pb,o,H⟩) n cap) W:=by
 subst hn;rw[run_slice_h _ _ _ _ _ (by kernel_rfl) _ _ (by omega) (by omega),bO];simp only[Result.andThen,sliced,rI,sO,oH,Z4];rw[if_neg (by omega)];simp
def KN(w:I)(pb o:Nat)(bs:List UInt8):Prop:=∀i,i<bs.length->w.cell? ⟨pb,o+i,H⟩=F (tK rG ((bs.getD i 0).toNat:Int))
theorem KN.drew{w:I}{pb o:Nat}{bs:List UInt8}(h:KN w pb o bs):KN w.drew pb o bs:=h
theorem KN.grown{w w':I}{pb o:Nat}{bs:List UInt8}{r:Option Nat}(h:KN w pb o bs)(hg:J w w' r)(hr:F pb≠r):KN w' pb o bs:=fun i hi=>hg.cell (h i hi) hr
def ZP(bs:List UInt8):Array N:=(bs.map fun c=>tK rG (c.toNat:Int)).toArray
def ZH(w:I)(b:Nat)(bs:List UInt8):Prop:=∃t,w.heap[b]?=F (tJ (ZP bs) t (0,0))
section
variable{w:I}{b:Nat}{bs:List UInt8}
theorem ZH.cell(h:ZH w b bs)(i:Nat)(hi:i<bs.length):w.cell? ⟨b,i,H⟩=F (tK rG ((bs.getD i 0).toNat:Int)):=by
 obtain⟨t,hb⟩:=h;simp[tZ,hb,ZP,sS,rK hi]
theorem ZH.frozen(h:ZH w b bs)(i:Nat):w.frozen? ⟨b,i,H⟩=V:=by
 obtain⟨t,hb⟩:=h;simp[sV,hb]
theorem ZH.lt(h:ZH w b bs):b<w.heap.size:=by
 obtain⟨t,hb⟩:=h;exact(tL.1 hb).1
theorem Bl(bs:List UInt8)(i:Nat)(x:UInt8):(ZP bs).setIfInBounds i (tK rG (x.toNat:Int))=ZP (bs.set i x):=by
 simp[ZP]
theorem ZH.set(h:ZH w b bs)(i:Nat)(x:UInt8):ZH (tG w ⟨b,i,H⟩ (tK rG (x.toNat:Int))) b (bs.set i x):=by
 obtain⟨t,hb⟩:=h;refine⟨t,?_⟩;simp only[tG,tQ,if_true,hb,sO];simp[Bl]
theorem ZH.drewN(h:ZH w b bs)(k:Nat):ZH (w.drewN k) b bs:=h
theorem ZH.drew(h:ZH w b bs):ZH w.drew b bs:=h
theorem ZH.alloc(h:ZH w b bs)(o:Obj):ZH (w.alloc o) b bs:=by
 have hl:=h.lt;obtain⟨t,hb⟩:=h;exact⟨t,by rw[Below.heap_alloc _ _ _ hl];exact hb⟩
theorem ZH.grown(h:ZH w b bs){w':I}{r:Option Nat}(hg:J w w' r)(hr:F b≠r):ZH w' b bs:=by
 have hl:=h.lt;obtain⟨t,hb⟩:=h;exact⟨t,by rw[hg.block b hl hr];exact hb⟩
theorem ZH.new(w:I)(t:sW)(bs:List UInt8):ZH (w.alloc (tJ (ZP bs) t)) w.heap.size bs:=⟨t,rJ w _⟩
theorem ZH.at(h:ZH w b bs)(o:Nat)(cs:List UInt8)(hc:∀i,i<cs.length->o+i<bs.length∧bs.getD (o+i) 0=cs.getD i 0):KN w b o cs:=by
 intro i hi;rw[h.cell (o+i) (hc i hi).1,(hc i hi).2]
end
def Qe(w:I)(v:N)(bs:List UInt8):Prop:=∃a cap,v=tH a bs.length cap∧bs.length<=cap∧((bs=[]∧(a=H->cap=0))∨∃b o,a=F ⟨b,o,H⟩∧KN w b o bs)
theorem Qe.grown{w w':I}{v:N}{bs:List UInt8}(h:Qe w v bs)(hg:J w w' H):Qe w' v bs:=by
 obtain⟨a,cap,rfl,hc,h⟩:=h;refine⟨a,cap,rfl,hc,?_⟩;rcases h with h|⟨b,o,rfl,h⟩;·exact .inl h
 ·exact .inr ⟨b,o,rfl,h.grown hg (by simp)⟩
theorem Qe.alloc{w:I}{v:N}{bs:List UInt8}(h:Qe w v bs)(o:Obj):Qe (w.alloc o) v bs:=h.grown (rP _ _ _)
theorem Qe.drew{w:I}{v:N}{bs:List UInt8}(h:Qe w v bs):Qe w.drew v bs:=h
theorem Qe.drewN{w:I}{v:N}{bs:List UInt8}(h:Qe w v bs)(n:Nat):Qe (w.drewN n) v bs:=h
theorem ZH.slice{w:I}{b:Nat}{bs:List UInt8}(h:ZH w b bs)(cap:Nat)(hc:bs.length<=cap):Qe w (tH (F ⟨b,0,H⟩) bs.length cap) bs:=⟨_,cap,rfl,hc,.inr ⟨b,0,rfl,h.at 0 bs fun i hi=>by
 simpa using hi⟩⟩
theorem QD(w:I):Qe w (tH H 0 0) []:=⟨H,0,rfl,sA _,.inl ⟨rfl,fun _=>rfl⟩⟩
def Uh(n:Nat):List UInt8:=List.replicate n 0
theorem Na(n:Nat):(Uh n).length=n:=by
 simp[Uh]
theorem Sj(n:Nat):madeCells (tK rG 0).cells (n*1)=ZP (Uh n):=by
 apply oI;·simp[size_madeCells,ZP,Uh]
 ·intro i h1 h2;simp[madeCells,ZP,Uh,Value.cells,Nat.mod_one]
theorem gB:(tA.info? 5).map (fun i=>(i.zero,i.size,i.bytes))=F (F (tK rG 0),1,1):=by
 kernel_rfl
theorem f7:(tA.info? 5).map (·.size)=F 1:=by
 kernel_rfl
theorem A8(W:I)(c:Int)(n:Nat)(hc:c=(n:Int))(hn:n<=1000000):(Instr.makeSlice 27 (tK sY c) (tK sY c)).run tA W=.ok (tH (F ⟨W.heap.size,0,H⟩) n n) (W.alloc (tJ (ZP (Uh n)) 5)):=by
 subst hc;obtain⟨i0,hi,hz0,hz1,hz2⟩:=oL gB;have h:=run_make (P:=tA) W 27 5 i0 (tK rG 0) sL hi hz0 sY sY (n:Int) (n:Int) (by omega) (oJ _) (by rw[hz2];omega) (by omega);rw[h,hz1,rI,Sj]
theorem jX(bs:List UInt8):∀v∈(bs.map fun c=>tK rG (c.toNat:Int)),v.oneCell'=O:=by
 intro v hv;obtain⟨c,_,rfl⟩:=List.mem_map.1 hv;rfl
theorem N9(w:I)(X Y:Array N)(t:sW):(w.alloc (tJ X t)).setRow w.heap.size Y=w.alloc (tJ Y t):=by
 simp only[World.setRow,World.alloc];congr 1;apply oI;·simp
 ·intro i h1 h2;simp only[Array.getElem_modify,Array.getElem_push];(have hi:i<w.heap.size+1:=by simpa using h2);split<;>split<;>first|rfl|omega|(exfalso;omega)|simp_all
theorem SI(w:I)(a:Option pD)(bs:List UInt8)(cap n m ty:Nat)(hn:bs.length<=n)(hs:Qe w (tH a bs.length cap) bs):(Builtin.copy_ #[27,27] ty #[tH (F ⟨w.heap.size,0,H⟩) n m,tH a bs.length cap]).run tA (w.alloc (tJ (ZP (Uh n)) 5))=.ok (tK sY (bs.length:Int)) (w.alloc (tJ (ZP (bs++Uh (n-bs.length))) 5)):=by
 obtain⟨a',cap',e,hc,h⟩:=hs.alloc (tJ (ZP (Uh n)) 5);simp only[rB,true_and]at e;obtain⟨rfl,rfl⟩:=e;by_cases h0:bs=[];·subst h0;have:=run_copy_none (P:=tA) (w.alloc (tJ (ZP (Uh n)) 5)) 27 27 ty 5 (F ⟨w.heap.size,0,H⟩) a n m 0 cap sL f7 (by simp);simpa[goInt]using this
 ·rcases h with h|⟨b,o,rfl,h⟩;(·exact absurd h.1 h0);·have:=run_copy_row (P:=tA) (w.alloc (tJ (ZP (Uh n)) 5)) 27 27 ty 5 w.heap.size 0 n m ⟨b,o,H⟩ bs.length cap (ZP (Uh n)) 5 (bs.map fun c=>tK rG (c.toNat:Int)) sL f7 (rJ w _) (by simp only[List.length_map];exact(oD hn).symm) (by intro j v hj;rw[sS]at hj;cases hb:bs[j]?with|none=>rw[hb]at hj;simp at hj|some c=>rw[hb]at hj;simp at hj;subst hj;rw[Z4];have hlt:j<bs.length:=(pB.1 hb).1;rw[h j hlt];simp[hb]) (by simp[ZP,Uh];exact hn) (jX bs);rw[this,N9];simp[goInt,ZP,Uh]
def VJ(bs:List UInt8):List N:=bs.map fun c=>tK rG (c.toNat:Int)
theorem aP(bs:List UInt8):(VJ bs).length=bs.length:=by
 simp[VJ]
theorem Db(a b:List UInt8):VJ (a++b)=VJ a++VJ b:=by
 simp[VJ]
theorem Bc(bs:List UInt8)(j:Nat)(u:N)(h:(VJ bs)[j]?=F u):j<bs.length∧u=tK rG ((bs.getD j 0).toNat:Int):=by
 rw[VJ,sS]at h;cases hb:bs[j]?with|none=>rw[hb]at h;simp at h|some c=>rw[hb]at h;simp at h;exact⟨(pB.1 hb).1,by simp[hb,<-h]⟩
def Q8(base:Nat)(w:I)(v:N)(bs:List UInt8):Prop:=w.ownsRow base 5 1 v bs.length (VJ bs)
theorem QT(base:Nat)(w:I):Q8 base w (tH H 0 0) []:=World.ownsRow_nil _ _ _ _
theorem Q8.grown{base:Nat}{w w':I}{v:N}{bs:List UInt8}(h:Q8 base w v bs){row:Option Nat}(hg:J w w' row)(hne:v.ownBlock=H∨v.ownBlock≠row):Q8 base w' v bs:=World.ownsRow.kept h hg hne
theorem Q8.grownNone{base:Nat}{w w':I}{v:N}{bs:List UInt8}(h:Q8 base w v bs)(hg:J w w' H):Q8 base w' v bs:=by
 refine h.grown hg ?_;cases hv:v.ownBlock with|none=>exact .inl rfl|some k=>exact .inr (by simp)
theorem Q8.alloc{base:Nat}{w:I}{v:N}{bs:List UInt8}(h:Q8 base w v bs)(o:Obj):Q8 base (w.alloc o) v bs:=World.ownsRow.alloc h o
theorem Q8.slice{base:Nat}{w:I}{v:N}{bs:List UInt8}(h:Q8 base w v bs):Qe w v bs:=by
 obtain⟨h1,h2⟩:=h;rcases h2 with⟨rfl,h0⟩|⟨g,cap,cur,rfl,hb,hg,hn,hm,hs,ht⟩;·obtain rfl:=tD h0;exact QD w
 ·refine⟨_,cap,rfl,hn,.inr ⟨g,0,rfl,?_⟩⟩;intro i hi;(have hc:cur.toList[i]?=F (tK rG ((bs.getD i 0).toNat:Int)):=by(have e:(cur.toList.take (bs.length*1))[i]?=(VJ bs)[i]?:=by rw[ht]);rw[pU,if_pos (by omega)]at e;rw[e,VJ,sS,rK hi];simp[hi]);simp[tZ,hg];simpa using hc
theorem Q8.lt{base:Nat}{w:I}{v:N}{bs:List UInt8}(h:Q8 base w v bs):∀k,v.ownBlock=F k->base<=k∧k<w.heap.size:=World.ownsRow.lt h
theorem Q8.shape{base:Nat}{w:I}{v:N}{bs:List UInt8}(h:Q8 base w v bs):∃a cap,v=tH a bs.length cap:=by
 obtain⟨a,cap,e,_⟩:=h.slice;exact⟨a,cap,e⟩
theorem F4(base:Nat)(w:I)(bs:List UInt8)(hb:base<=w.heap.size)(hm:bs.length<=oK):Q8 base (w.alloc (tJ (ZP bs) 5)) (tH (F ⟨w.heap.size,0,H⟩) bs.length bs.length) bs:=⟨by
 simp[VJ],.inr ⟨w.heap.size,bs.length,ZP bs,rfl,hb,rJ w _,sA _,hm,by
 simp[ZP],by
 simp[ZP,VJ,pG]⟩⟩
theorem Xh{w W w1:I}{v:N}{bs:List UInt8}(h:J w W H)(ho:Q8 w.heap.size W v bs)(hg:J W w1 v.ownBlock):J w w1 H:=⟨hg.os.trans h.os,hg.tape.trans h.tape,hg.output.trans h.output,rC h.size hg.size,fun i hi hn=>(hg.block i (tR hi h.size) (fun e=>by
 have:=(ho.lt i e.symm).1;omega)).trans (h.block i hi hn)⟩
theorem Mi(w:I)(base ty:Nat)(v:N)(bs:List UInt8)(hown:Q8 base w v bs)(a:Option pD)(m cap:Nat)(cs:List UInt8)(hs:Qe w (tH a m cap) cs)(hbytes:bs.length+m<=140737488355328)(hbase:base<=w.heap.size):∃v' w',(Builtin.append_ #[27,27] ty #[v,tH a m cap]).run tA w=.ok v' w'∧Q8 base w' v' (bs++cs)∧J w w' v.ownBlock:=by
 obtain⟨i0,hi,hz0,hz1,hz2⟩:=oL gB;obtain⟨a',cap',e,hc,h⟩:=hs;simp only[rB]at e;obtain⟨rfl,rfl,rfl⟩:=e;have h63:bs.length+cs.length<=oK:=by unfold oK;omega
 have key:∀ad:pD,(∀j u,(VJ cs)[j]?=F u->w.cell? (ad.add j)=F u)->∃v' w',(Builtin.append_ #[27,27] ty #[v,tH (F ad) cs.length cap]).run tA w=.ok v' w'∧Q8 base w' v' (bs++cs)∧J w w' v.ownBlock:=by intro ad hnews;obtain⟨v',w',hr,ho,hg,_⟩:=run_append_own (P:=tA) w base 27 ty 5 i0 (tK rG 0) 1 1 sL hi hz0 hz1 hz2 rfl (by decide) v bs.length (VJ bs) hown ad cs.length cap (VJ cs) (by simp[VJ]) hnews (jX cs) h63 (by omega) hbase;refine⟨v',w',hr,?_,hg⟩;unfold Q8;rw[Db,T];exact ho
 rcases h with⟨rfl,hz⟩|⟨b,o,rfl,h⟩;·cases a with|none=>obtain rfl:=hz rfl;refine⟨v,w,run_append_owned_none (P:=tA) (w:=w) base 27 ty 5 i0 1 sL hi v bs.length (VJ bs) hown,?_,Qb _ _⟩;rw[tV];exact hown|some ad=>exact key ad (by simp[VJ])
 ·refine key ⟨b,o,H⟩ fun j u hj=>?_;obtain⟨hlt,rfl⟩:=Bc cs j u hj;rw[Z4];exact h j hlt
theorem QJ{w:I}{ops:Array Oper}{rest:List Oper}{o:Oper}{a:Act}{Q:Exit->Act->I->Prop}(hgd:o.guard=H)(s x:Operand)(ho:o.op=.call {callee:=.builtin .append,args:=#[s,x],argTypes:=#[27,27]})(base:Nat)(v:N)(bs:List UInt8)(hs:a.eval s=v)(hown:Q8 base w v bs)(xa:Option pD)(m cap:Nat)(cs:List UInt8)(hx:a.eval x=tH xa m cap)(hsl:Qe w (tH xa m cap) cs)(hbytes:bs.length+m<=140737488355328)(hbase:base<=w.heap.size)(h:∀v' w',Q8 base w' v' (bs++cs)->J w w' v.ownBlock->wpList tA ops Q rest (a.put o.dst v') w'):wpList tA ops Q (o::rest) a w:=by
 refine wpList_plain hgd fun K hK=>?_;obtain⟨v',w',hrun,ho',hg⟩:=Mi w base o.type v bs hown xa m cap cs hsl hbytes hbase;unfold Oper.wp;simp[execOp,ho,resolve,invoke,builtin,hs,hx,hrun,Result.andThen];exact hK _ _ (h v' w' ho' hg)
theorem Qe.take{w:I}{a:Option pD}{m cap:Nat}{bs:List UInt8}(h:Qe w (tH a m cap) bs)(k:Nat)(hk:k<=m):Qe w (tH a k cap) (bs.take k):=by
 obtain⟨a',cap',e,hc,h⟩:=h;simp only[rB]at e;obtain⟨rfl,rfl,rfl⟩:=e;have hl:(bs.take k).length=k:=by simp;omega
 refine⟨a,cap,by rw[hl],by omega,?_⟩;rcases h with⟨rfl,hz⟩|⟨b,o,rfl,h⟩;·exact .inl ⟨by simp,hz⟩
 ·refine .inr ⟨b,o,rfl,fun i hi=>?_⟩;rw[h i (by omega)];rw[hl]at hi;simp[hi]
theorem Wo(bs:List UInt8)(s:ByteArray):((bs.map fun c=>((c.toNat:Nat):Int)).foldl (fun r n=>r.push (tC n.toNat)) s)=⟨s.data++bs.toArray⟩:=by
 induction bs generalizing s with|nil=>simp|cons c bs ih=>simp only[oE,List.foldl_cons];rw[ih];congr 1;simp[ByteArray.push]
def qP(bs:List UInt8):ByteArray:=⟨bs.toArray⟩
theorem Gc(bs:List UInt8):(qP bs).toList=bs:=by
 rw[Lib.toList_data];rfl
theorem UC(W:I)(v:N)(bs:List UInt8)(hs:Qe W v bs):(convert 27 9 v).run tA W=.ok (.string (qP bs)) W:=by
 obtain⟨a,cap,rfl,hc,h⟩:=hs;rw[run_convert_bytes_string W 27 9 5 a bs.length cap sL Tryz.underlying5 Tryz.underlying9];have key:∀ad:pD,(∀j u,(VJ bs)[j]?=F u->W.cell? (ad.add j)=F u)->(Conv.bytesToString (tH (F ad) bs.length cap)).run tA W=.ok (.string (qP bs)) W:=by intro ad hcells;have hl:=run_loadCells_list (P:=tA) W ad (VJ bs) hcells;rw[aP]at hl;have:=run_bytesToString (P:=tA) W ad bs.length cap (bs.map fun c=>((c.toNat:Nat):Int)) (by rw[hl];simp[VJ]);rw[this,Wo];simp[qP]
 rcases h with⟨rfl,hz⟩|⟨b,o,rfl,h⟩;·cases a with|none=>simp[Conv.bytesToString,qP];rfl|some ad=>exact key ad (by simp[VJ])
 ·refine key ⟨b,o,H⟩ fun j u hj=>?_;obtain⟨hlt,rfl⟩:=Bc bs j u hj;rw[Z4];exact h j hlt
theorem ZH.slice32{w:I}{b:Nat}{bs:List UInt8}(h:ZH w b bs)(hl:bs.length=32):Qe w (tH (F ⟨b,0,H⟩) 32 32) bs:=by
 have:=h.slice 32 (by omega);rw[hl]at this;exact this
theorem UM(w:I)(x:UInt8)(t:sW):Qe (w.alloc (tJ #[tK rG (x.toNat:Int)] t)) (tH (F ⟨w.heap.size,0,H⟩) 1 1) [x]:=(ZH.new w t [x]).slice 1 (by
 simp)
theorem Ns(w:I)(x y:UInt8)(t:sW):Qe (w.alloc (tJ #[tK rG (x.toNat:Int),tK rG (y.toNat:Int)] t)) (tH (F ⟨w.heap.size,0,H⟩) 2 2) [x,y]:=(ZH.new w t [x,y]).slice 2 (by
 simp)
theorem Kt{base base':Nat}{w:I}{v:N}{bs:List UInt8}(h:Q8 base w v bs)(hb:base'<=base):Q8 base' w v bs:=by
 refine⟨h.1,?_⟩;rcases h.2with h2|⟨g,cap,cur,h1,h2,h3⟩;·exact .inl h2
 ·exact .inr ⟨g,cap,cur,h1,rC hb h2,h3⟩
end
structure Ac where
  kind : Int
  sess : Int
  keep : Int
  data : List UInt8
def UO:Ac:=⟨0,0,0,[]⟩
def YX(a:Ac):Int:=if 1<=a.kind∧a.kind<=4then(if(a.kind=1∧¬(0<=a.sess∧a.sess<=7))∨(a.kind=3∧¬(0<=a.keep∧a.keep<=200000))then 2 else if 4000<a.data.length then 1 else if(a.kind≠1∧a.sess≠0)∨(a.kind≠3∧a.keep≠0)∨(a.kind≠1∧0<a.data.length)then 4 else 0)else 5
structure Jc(a:Ac):Prop where kind:1<=a.kind∧a.kind<=4sess:a.kind=1->0<=a.sess∧a.sess<=7keep:a.kind=3->0<=a.keep∧a.keep<=200000data:a.data.length<=4000noSess:a.kind≠1->a.sess=0noKeep:a.kind≠3->a.keep=0noData:a.kind≠1->a.data=[]
theorem uG(a:Ac):YX a=0↔Jc a:=by
 unfold YX;by_cases h0:1<=a.kind∧a.kind<=4;·rw[if_pos h0];by_cases h1:(a.kind=1∧¬(0<=a.sess∧a.sess<=7))∨(a.kind=3∧¬(0<=a.keep∧a.keep<=200000));(·rw[if_pos h1];refine⟨fun e=>(by cases e),fun h=>?_⟩;rcases h1 with⟨h1,h2⟩|⟨h1,h2⟩;(·exact absurd (h.sess h1) h2);·exact absurd (h.keep h1) h2);·rw[if_neg h1];by_cases h2:4000<a.data.length;(·rw[if_pos h2];exact⟨fun e=>(by cases e),fun h=>by have:=h.data;omega⟩);·rw[if_neg h2];by_cases h3:(a.kind≠1∧a.sess≠0)∨(a.kind≠3∧a.keep≠0)∨(a.kind≠1∧0<a.data.length);(·rw[if_pos h3];refine⟨fun e=>(by cases e),fun h=>?_⟩;rcases h3 with⟨h3,h4⟩|⟨h3,h4⟩|⟨h3,h4⟩;(·exact absurd (h.noSess h3) h4);(·exact absurd (h.noKeep h3) h4);·rw[h.noData h3]at h4;simp at h4);·rw[if_neg h3];refine⟨fun _=>⟨h0,fun h=>?_,fun h=>?_,by omega,fun h=>?_,fun h=>?_,fun h=>?_⟩,fun _=>rfl⟩;(·exact sN fun e=>h1 (.inl ⟨h,e⟩));(·exact sN fun e=>h1 (.inr ⟨h,e⟩));(·exact sN fun e=>h3 (.inl ⟨h,e⟩));(·exact sN fun e=>h3 (.inr (.inl ⟨h,e⟩)));·refine tD ?_;have:¬0<a.data.length:=fun e=>h3 (.inr (.inr ⟨h,e⟩));omega
 ·rw[if_neg h0];exact⟨fun e=>(by cases e),fun h=>absurd h.kind h0⟩
def lI(n:Nat):UInt8:=tC (48+n)
def gP(n:Nat):List UInt8:=if n<10then[lI n]else gP (n/10)++[lI (n%10)]termination_by n decreasing_by
 omega
def i7(n:Nat):UInt8:=if n<10then tC (48+n)else tC (87+n)
def lW(bs:List UInt8):List UInt8:=bs.flatMap fun c=>[i7 (c.toNat/16),i7 (c.toNat%16)]
def lX:List UInt8:=[97,115,107]
def iQ:List UInt8:=[115,121,110,99]
def gX:List UInt8:=[99,114,97,115,104]
def gI:List UInt8:=[115,116,97,114,116]
def lN(a:Ac):List UInt8:=if a.kind=1then lX++32::(gP a.sess.toNat++32::lW a.data)else if a.kind=2then iQ else if a.kind=3then gX++32::gP a.keep.toNat else if a.kind=4then gI else[]
theorem Zm(w:I)(o:Obj):∃W:I,Hid (W=w.alloc o)∧J w W H∧Hid (W.heap[w.heap.size]?=F o):=⟨w.alloc o,rfl,rP _ _ _,rJ w o⟩
theorem Qe.shape{w:I}{v:N}{bs:List UInt8}(h:Qe w v bs):∃a cap,v=tH a bs.length cap:=by
 obtain⟨a,cap,rfl,_⟩:=h;exact⟨a,cap,rfl⟩
theorem QR{W w:I}{b:Nat}{x y:N}{t:sW}(hg:J W w H)(h:W.heap[b]?=F (tJ #[x,y] t)):w.cell? ⟨b,0,H⟩=F x∧w.cell? ⟨b,1,H⟩=F y∧w.frozen? ⟨b,0,H⟩=V∧w.frozen? ⟨b,1,H⟩=V:=by
 have hb:w.heap[b]?=F (tJ #[x,y] t):=by rw[hg.block b (tL.1 h).1 (by simp)];exact h
 refine⟨by simp[tZ,hb],by simp[tZ,hb],by simp[sV,hb],by simp[sV,hb]⟩
theorem zX{W w:I}{b:Nat}{x y:N}{t:sW}(hg:J W w H)(h:W.heap[b]?=F (tJ #[x,y] t)){G:Prop}(k:w.heap[b]?=F (tJ #[x,y] t)->w.cell? ⟨b,0,H⟩=F x->w.cell? ⟨b,1,H⟩=F y->w.frozen? ⟨b,0,H⟩=V->w.frozen? ⟨b,1,H⟩=V->G):G:=by
 obtain⟨h1,h2,h3,h4⟩:=QR hg h;exact k (by rw[hg.block b (tL.1 h).1 (by simp)];exact h) h1 h2 h3 h4
theorem Qd{W w:I}{b:Nat}{o:Obj}(hg:J W w H)(h:W.heap[b]?=F o):w.heap[b]?=F o:=by
 rw[hg.block b (tL.1 h).1 (by simp)];exact h
def Qh(base:Nat)(w:I)(v:N)(bs:List UInt8):Prop:=Qe w v bs∧(bs=[]∨∃b,v.ownBlock=F b∧b<w.heap.size∧(b<base∨∃cur fz,w.heap[b]?=F (tJ cur 5 fz)))
theorem Qh.slice{base:Nat}{w:I}{v:N}{bs:List UInt8}(h:Qh base w v bs):Qe w v bs:=h.1
theorem Q8.part{base base':Nat}{w:I}{v:N}{bs:List UInt8}(h:Q8 base' w v bs):Qh base w v bs:=by
 refine⟨h.slice,?_⟩;rcases h.2with⟨rfl,h0⟩|⟨g,cap,cur,rfl,hb,hg,_⟩;·exact .inl (tD h0)
 ·exact .inr ⟨g,rfl,(tL.1 hg).1,.inr ⟨cur,_,hg⟩⟩
theorem VA{w:I}{b o:Nat}{v:N}(h:w.cell? ⟨b,o,H⟩=F v):b<w.heap.size:=by
 by_cases hb:b<w.heap.size;·exact hb
 ·simp[tZ,Array.getElem?_eq_none (Nat.le_of_not_lt hb)]at h
theorem Qe.part{w w':I}{v:N}{bs:List UInt8}(h:Qe w v bs)(hg:J w w' H)(base:Nat)(hb:w.heap.size<=base):Qh base w' v bs:=by
 refine⟨h.grown hg,?_⟩;obtain⟨a,cap,rfl,hc,h⟩:=h;rcases h with⟨rfl,_⟩|⟨b,o,rfl,h⟩;·exact .inl rfl
 ·by_cases h0:bs=[];(·exact .inl h0);·have hl:0<bs.length:=List.length_pos_iff.2 h0;have:=VA (h 0 hl);exact .inr ⟨b,rfl,tR this hg.size,.inl (by omega)⟩
theorem Qh.mono{base base':Nat}{w:I}{v:N}{bs:List UInt8}(h:Qh base w v bs)(hb:base<=base'):Qh base' w v bs:=by
 refine⟨h.1,?_⟩;rcases h.2with h|⟨b,h1,h2,h3⟩;·exact .inl h
 ·refine .inr ⟨b,h1,h2,?_⟩;rcases h3 with h3|h3;(·exact .inl (by omega));·exact .inr h3
theorem Zx{base:Nat}{w:I}{v:N}{bs:List UInt8}(h:Qh base w v bs):v.oneCell'=O:=by
 obtain⟨⟨a,cap,rfl,_⟩,_⟩:=h;rfl
theorem Qh.keptT{base:Nat}{w w':I}{v:N}{bs:List UInt8}(h:Qh base w v bs){row:Option Nat}(hg:J w w' row)(hrow:row=H∨∃g cur t fz,row=F g∧base<=g∧w.heap[g]?=F (tJ cur t fz)∧t≠5):Qh base w' v bs:=by
 obtain⟨hs,ho⟩:=h;rcases ho with rfl|⟨b,hb,hlt,hc⟩;·obtain⟨a,cap,rfl,hc,h⟩:=hs;refine⟨⟨a,cap,rfl,hc,?_⟩,.inl rfl⟩;rcases h with h|⟨b,o,rfl,h⟩;(·exact .inl h);·exact .inr ⟨b,o,rfl,fun i hi=>by simp at hi⟩
 ·(have hne:F b≠row:=by intro e;rcases hrow with rfl|⟨g,cur,t,fz,rfl,hbg,hgc,ht⟩;(·cases e);·cases e;rcases hc with hc|⟨cur2,fz2,hc⟩;(·omega);·rw[hc]at hgc;simp only[tP,Obj.cells.injEq]at hgc;exact ht hgc.2.1.symm);have hblk:=hg.block b hlt hne;refine⟨?_,.inr ⟨b,hb,tR hlt hg.size,?_⟩⟩;(·obtain⟨a,cap,rfl,hcp,h⟩:=hs;refine⟨a,cap,rfl,hcp,?_⟩;rcases h with h|⟨b',o,rfl,h⟩;(·exact .inl h);·refine .inr ⟨b',o,rfl,fun i hi=>?_⟩;simp[pZ]at hb;subst hb;exact hg.cell (h i hi) (by simpa using hne));·rcases hc with hc|⟨cur,fz,hc⟩;(·exact .inl hc);·exact .inr ⟨cur,fz,by rw[hblk];exact hc⟩
def ZL(k:List UInt8)(i:Nat):Bool:=if i/9<k.length then(if i%9=0then O else(k.getD (i/9) 0).toNat.testBit (8-i%9))else V
theorem K9(k:List UInt8)(p:Nat):ZL k (9*p)=tI (p<k.length):=by
 unfold ZL;rw[show 9*p/9=p by omega,show 9*p%9=0 by omega];by_cases h:p<k.length<;>simp[h]
theorem Ua(k:List UInt8)(p r:Nat)(hp:p<k.length)(hr:1<=r)(hr8:r<=8):ZL k (9*p+r)=(k.getD p 0).toNat.testBit (8-r):=by
 unfold ZL;rw[show(9*p+r)/9=p by omega,show(9*p+r)%9=r by omega,if_pos hp,if_neg (by omega)]
theorem Nh(k:List UInt8)(i:Nat)(h:k.length<=i/9):ZL k i=V:=by
 unfold ZL;rw[if_neg (by omega)]
theorem CI(x y:UInt8)(h:∀j,j<8->x.toNat.testBit j=y.toNat.testBit j):x=y:=by
 apply pW.1;apply pQ;intro j;by_cases hj:j<8;·exact h j hj
 ·rw[sU (tR x.toNat_lt (rA (by decide) (by omega:8<=j))),sU (tR y.toNat_lt (rA (by decide) (by omega:8<=j)))]
theorem Ih(a b:List UInt8)(ha:a.length<=16)(hb:b.length<=16)(h:∀i,i<145->ZL a i=ZL b i):a=b:=by
 have hl:a.length=b.length:=by have h1:=h (9*a.length) (by omega);have h2:=h (9*b.length) (by omega);rw[K9,K9]at h1 h2;simp at h1 h2;omega
 apply List.ext_getElem hl;intro p h1 h2;have e:a.getD p 0=b.getD p 0:=by apply CI;intro j hj;have:=h (9*p+(8-j)) (by omega);rw[Ua a p _ h1 (by omega) (by omega),Ua b p _ h2 (by omega) (by omega),show 8-(8-j)=j by omega]at this;exact this
 simpa[h1,h2]using e
def xW(a b:List UInt8):Nat->Nat->Int|0,_=>-1|n+1,i=>if ZL a i=ZL b i then xW a b n (i+1)else(i:Int)
def JH(a b:List UInt8):Int:=xW a b 145 0
theorem Ec(a b:List UInt8)(n i:Nat):(xW a b n i=-1∧∀j,i<=j->j<i+n->ZL a j=ZL b j)∨∃m:Nat,xW a b n i=(m:Int)∧i<=m∧m<i+n∧(∀j,i<=j->j<m->ZL a j=ZL b j)∧ZL a m≠ZL b m:=by
 induction n generalizing i with|zero=>exact .inl ⟨rfl,fun j _ h=>by omega⟩|succ n ih=>unfold xW;by_cases he:ZL a i=ZL b i;(·rw[if_pos he];rcases ih (i+1)with⟨h1,h2⟩|⟨m,h1,h2,h3,h4,h5⟩;(·refine .inl ⟨h1,fun j hj hj2=>?_⟩;by_cases hji:j=i;(·subst hji;exact he);·exact h2 j (by omega) (by omega));·refine .inr ⟨m,h1,by omega,by omega,fun j hj hj2=>?_,h5⟩;by_cases hji:j=i;(·subst hji;exact he);·exact h4 j (by omega) hj2);·rw[if_neg he];exact .inr ⟨i,rfl,sA _,by omega,fun j h1 h2=>by omega,he⟩
theorem JQ(a b:List UInt8):(JH a b=-1∧∀j,j<145->ZL a j=ZL b j)∨∃m:Nat,JH a b=(m:Int)∧m<145∧(∀j,j<m->ZL a j=ZL b j)∧ZL a m≠ZL b m:=by
 rcases Ec a b 145 0with⟨h1,h2⟩|⟨m,h1,_,h3,h4,h5⟩;·exact .inl ⟨h1,fun j hj=>h2 j (by omega) (by omega)⟩
 ·exact .inr ⟨m,h1,by omega,fun j hj=>h4 j (by omega) hj,h5⟩
theorem DM(a b:List UInt8)(m:Nat)(hm:m<145)(h:∀j,j<m->ZL a j=ZL b j)(hd:ZL a m≠ZL b m):JH a b=(m:Int):=by
 rcases JQ a b with⟨_,h2⟩|⟨m',h1,h2,h3,h4⟩;·exact absurd (h2 m hm) hd
 ·by_cases hlt:m'<m;(·exact absurd (h m' hlt) h4);·by_cases hgt:m<m';(·exact absurd (h3 m hgt) hd);·rw[h1];omega
theorem TO(a b:List UInt8)(h:∀j,j<145->ZL a j=ZL b j):JH a b=-1:=by
 rcases JQ a b with⟨h1,_⟩|⟨m',_,h2,_,h4⟩;·exact h1
 ·exact absurd (h m' h2) h4
theorem Fe(a b:List UInt8):-1<=JH a b∧JH a b<=144:=by
 rcases JQ a b with⟨h,_⟩|⟨m,h,hm,_⟩<;>omega
theorem Aq(a b:List UInt8)(ha:a.length<=16)(hb:b.length<=16):JH a b<0↔a=b:=by
 constructor;·intro h;rcases JQ a b with⟨_,h2⟩|⟨m,h1,_⟩;(·exact Ih a b ha hb h2);·omega
 ·rintro rfl;rw[TO a a fun _ _=>rfl];decide
theorem Py(x y:UInt8)(a b:List UInt8):sH (x::a) (y::b)=(tI (x<y)||(x==y&&sH a b)):=by
 simp[sH]
theorem Nx:∀(p:Nat)(a b:List UInt8),(∀i,i<p->i<a.length∧i<b.length∧a.getD i 0=b.getD i 0)->sH a b=sH (a.drop p) (b.drop p)|0,a,b,_=>by simp|p+1,[],b,h=>by have:=(h 0 (by omega)).1;simp at this|p+1,x::a,[],h=>by have:=(h 0 (by omega)).2.1;simp at this|p+1,x::a,y::b,h=>by have h0:=(h 0 (by omega)).2.2;simp at h0;subst h0;rw[Py,pR,pR,<-Nx p a b fun i hi=>by have:=h (i+1) (by omega);simp at this;simpa using this];simp
theorem Ch(a:List UInt8):sH a []=V:=by
 cases a<;>rfl
theorem P7(a:List UInt8)(p:Nat)(h:p<a.length):a.drop p=a.getD p 0::a.drop (p+1):=by
 rw[sD h];simp[h]
theorem EU(x y j:Nat)(hx:x.testBit j=V)(hy:y.testBit j=O)(h:∀i,j<i->x.testBit i=y.testBit i):x<y:=by
 have hq:x/2^(j+1)=y/2^(j+1):=by apply pQ;intro i;rw[pH,pH];exact h _ (by omega)
 rw[Nat.testBit_eq_decide_div_mod_eq]at hx hy;simp at hx hy;rw[Nat.pow_succ,<-pM,<-pM]at hq;exact Nat.lt_of_div_lt_div (c:=2^j) (by omega)
theorem IG(x y:UInt8)(j:Nat)(hd:x.toNat.testBit j≠y.toNat.testBit j)(h:∀i,j<i->x.toNat.testBit i=y.toNat.testBit i):(tI (x<y)||(x==y&&V))=y.toNat.testBit j:=by
 cases hy:y.toNat.testBit j with|true=>(have hx:x.toNat.testBit j=V:=by cases hx:x.toNat.testBit j with|true=>exact absurd (hx.trans hy.symm) hd|false=>rfl);have:=EU _ _ j hx hy h;simp[sK,this]|false=>(have hx:x.toNat.testBit j=O:=by cases hx:x.toNat.testBit j with|true=>rfl|false=>exact absurd (hx.trans hy.symm) hd);have:=EU _ _ j hy hx (fun i hi=>(h i hi).symm);simp[sK];omega
theorem Th(a b:List UInt8)(m:Nat)(h:∀j,j<m->ZL a j=ZL b j)(hd:ZL a m≠ZL b m):ZL b m=sH a b:=by
 have hone:m/9<a.length∨m/9<b.length:=by by_cases h1:m/9<a.length;(·exact .inl h1);·by_cases h2:m/9<b.length;(·exact .inr h2);·rw[Nh a m (by omega),Nh b m (by omega)]at hd;exact absurd rfl hd
 have hpre:∀i,i<m/9->i<a.length∧i<b.length∧a.getD i 0=b.getD i 0:=by intro i hi;have hh:=h (9*i) (by omega);rw[K9,K9]at hh;(have hl:i<a.length∧i<b.length:=by simp at hh;omega);refine⟨hl.1,hl.2,CI _ _ fun j hj=>?_⟩;have:=h (9*i+(8-j)) (by omega);rw[Ua a i _ hl.1 (by omega) (by omega),Ua b i _ hl.2 (by omega) (by omega),show 8-(8-j)=j by omega]at this;exact this
 rw[Nx (m/9) a b hpre];by_cases hr:m%9=0;·(have em:m=9*(m/9):=by omega);have ha:=K9 a (m/9);have hb:=K9 b (m/9);rw[<-em]at ha hb;by_cases hlb:m/9<b.length;(·have hla:¬m/9<a.length:=fun hla=>hd (by rw[ha,hb];simp[hla,hlb]);rw[hb,tW (by omega),P7 b _ hlb];simp[hlb,sH]);·rw[hb,tW (show b.length<=m/9by omega),Ch];simp[hlb]
 ·have hh:=h (9*(m/9)) (by omega);rw[K9,K9]at hh;(have hl:m/9<a.length∧m/9<b.length:=by simp at hh;omega);(have em:m=9*(m/9)+m%9:=by omega);have ha:=Ua a (m/9) (m%9) hl.1 (by omega) (by omega);have hb:=Ua b (m/9) (m%9) hl.2 (by omega) (by omega);rw[<-em]at ha hb;rw[P7 a _ hl.1,P7 b _ hl.2,Py,hb];rw[ha,hb]at hd;(have hne:(a.getD (m/9) 0==b.getD (m/9) 0)=V:=by rw[beq_eq_false_iff_ne];intro e;rw[e]at hd;exact hd rfl);rw[hne,Bool.false_and];have:=IG (a.getD (m/9) 0) (b.getD (m/9) 0) (8-m%9) hd (fun i hi=>by by_cases hi8:i<8;(·have:=h (9*(m/9)+(8-i)) (by omega);rw[Ua a _ _ hl.1 (by omega) (by omega),Ua b _ _ hl.2 (by omega) (by omega),show 8-(8-i)=i by omega]at this;exact this);·rw[sU (tR (a.getD (m/9) 0).toNat_lt (rA (by decide) (by omega:8<=i))),sU (tR (b.getD (m/9) 0).toNat_lt (rA (by decide) (by omega:8<=i)))]);rw[Bool.and_false]at this;exact this.symm
def Qp(n:Nat):Int:=if 1<=n∧n<=16then 0 else 1
def Ap(k:List UInt8)(i:Int):Bool×Int:=if 1<=k.length∧k.length<=16then(if 0<=i∧i<=144then(ZL k i.toNat,0)else(V,2))else(V,1)
def F8(a b:List UInt8):Int×Int:=if 1<=a.length∧a.length<=16then(if 1<=b.length∧b.length<=16then(JH a b,0)else(0,1))else(0,1)
theorem dN(k:List UInt8)(i:Nat)(hk:1<=k.length∧k.length<=16)(hi:i<145):Ap k (i:Int)=(ZL k i,0):=by
 rw[Ap,if_pos hk,if_pos (by omega)];rfl
theorem aA(a b:List UInt8)(ha:1<=a.length∧a.length<=16)(hb:1<=b.length∧b.length<=16):F8 a b=(JH a b,0):=by
 rw[F8,if_pos ha,if_pos hb]
structure Ze where
  name : List UInt8
  key : List UInt8
  value : List UInt8
  gone : Bool
def YM(p:Ze):Prop:=p.name.length<=140737488355328∧p.key.length<=140737488355328∧p.value.length<=140737488355328
def Qr:Ze:=⟨[],[],[],V⟩
theorem Qj{W w:I}{b:Nat}{x y z u:N}{t:sW}(hg:J W w H)(h:W.heap[b]?=F (tJ #[x,y,z,u] t)):(w.cell? ⟨b,0,H⟩=F x∧w.cell? ⟨b,1,H⟩=F y∧w.cell? ⟨b,2,H⟩=F z∧w.cell? ⟨b,3,H⟩=F u)∧w.frozen? ⟨b,0,H⟩=V∧w.frozen? ⟨b,1,H⟩=V∧w.frozen? ⟨b,2,H⟩=V∧w.frozen? ⟨b,3,H⟩=V∧w.heap[b]?=F (tJ #[x,y,z,u] t):=by
 have hb:w.heap[b]?=F (tJ #[x,y,z,u] t):=by rw[hg.block b (tL.1 h).1 (by simp)];exact h
 refine⟨⟨?_,?_,?_,?_⟩,?_,?_,?_,?_,hb⟩;all_goals simp[tZ,sV,hb]
theorem Js{w:I}{b:Nat}{x y z u:N}{t:sW}(h:w.heap[b]?=F (tJ #[x,y,z,u] t))(x' y' z' u':N):((((tG w ⟨b,0,H⟩ x').setCell ⟨b,1,H⟩ y').setCell ⟨b,2,H⟩ z').setCell ⟨b,3,H⟩ u').heap[b]?=F (tJ #[x',y',z',u'] t)∧(tG w ⟨b,0,H⟩ x').cell? ⟨b,0,H⟩=F x'∧((tG w ⟨b,0,H⟩ x').setCell ⟨b,1,H⟩ y').cell? ⟨b,1,H⟩=F y'∧(((tG w ⟨b,0,H⟩ x').setCell ⟨b,1,H⟩ y').setCell ⟨b,2,H⟩ z').cell? ⟨b,2,H⟩=F z'∧((((tG w ⟨b,0,H⟩ x').setCell ⟨b,1,H⟩ y').setCell ⟨b,2,H⟩ z').setCell ⟨b,3,H⟩ u').cell? ⟨b,3,H⟩=F u':=by
 have h0:(tG w ⟨b,0,H⟩ x').heap[b]?=F (tJ #[x',y,z,u] t):=by simp only[tG,tQ,if_true,h,sO];first|rfl|simp
 have h1:((tG w ⟨b,0,H⟩ x').setCell ⟨b,1,H⟩ y').heap[b]?=F (tJ #[x',y',z,u] t):=by rw[tG,tQ,if_pos rfl,h0];first|rfl|simp
 have h2:(((tG w ⟨b,0,H⟩ x').setCell ⟨b,1,H⟩ y').setCell ⟨b,2,H⟩ z').heap[b]?=F (tJ #[x',y',z',u] t):=by rw[tG,tQ,if_pos rfl,h1];first|rfl|simp
 have h3:((((tG w ⟨b,0,H⟩ x').setCell ⟨b,1,H⟩ y').setCell ⟨b,2,H⟩ z').setCell ⟨b,3,H⟩ u').heap[b]?=F (tJ #[x',y',z',u'] t):=by rw[tG,tQ,if_pos rfl,h2];first|rfl|simp
 exact⟨h3,by simp[tZ,h0],by simp[tZ,h1],by simp[tZ,h2],by simp[tZ,h3]⟩
theorem Q8.setBlk{base:Nat}{w:I}{v:N}{bs:List UInt8}(h:Q8 base w v bs){b:Nat}{cur:Array N}{t:sW}{fz:Nat×Nat}(hb:w.heap[b]?=F (tJ cur t fz))(ht:t≠5)(i:Nat)(u:N):Q8 base (tG w ⟨b,i,H⟩ u) v bs:=by
 refine h.grown (row:=F b) (Qi (Qb _ _) i u) ?_;rcases h.2with⟨rfl,_⟩|⟨g,cap,cur2,rfl,_,hg,_⟩;·exact .inl rfl
 ·right;intro e;simp[pZ]at e;subst e;rw[hg]at hb;simp at hb;exact ht hb.2.1.symm
theorem Jo{w w1:I}(h:J w w1 H)(b:Nat)(hb:w.heap.size<=b)(x y z u:N):J w ((((tG w1 ⟨b,0,H⟩ x).setCell ⟨b,1,H⟩ y).setCell ⟨b,2,H⟩ z).setCell ⟨b,3,H⟩ u) H:=Qc (Qc (Qc (Qc h _ hb _ _) _ hb _ _) _ hb _ _) _ hb _ _
abbrev Pr:=List UInt8×List UInt8
abbrev PL:=List Pr
abbrev YD(a b:List UInt8):Bool:=sH a b
theorem F0(a:List UInt8):YD a []=V:=Ch a
theorem vY(x y:UInt8)(a b:List UInt8):YD (x::a) (y::b)=(tI (x<y)||(x==y&&YD a b)):=Py x y a b
theorem XX:∀a:List UInt8,YD a a=V|[]=>rfl|x::a=>by rw[vY,XX a];simp
theorem Kf:∀a b c:List UInt8,YD a b=O->YD b c=O->YD a c=O|_,[],_,h,_=>by rw[F0]at h;cases h|_,_::_,[],_,h=>by rw[F0]at h;cases h|[],_::_,_::_,_,_=>rfl|x::a,y::b,z::c,h1,h2=>by rw[vY]at h1 h2⊢;simp only[oC,decide_eq_true_eq,pX,beq_iff_eq,sK]at h1 h2⊢;rcases h1 with h1|⟨rfl,h1⟩;(·rcases h2 with h2|⟨rfl,h2⟩;(·left;omega);·left;exact h1);·rcases h2 with h2|⟨rfl,h2⟩;(·left;exact h2);·right;exact⟨rfl,Kf a b c h1 h2⟩
theorem UF:∀a b:List UInt8,YD a b=V->a≠b->YD b a=O|[],[],_,h=>absurd rfl h|[],_::_,h,_=>by cases h|_::_,[],_,_=>rfl|x::a,y::b,h1,h2=>by rw[vY]at h1⊢;simp only[rO,decide_eq_false_iff_not,Bool.and_eq_false_iff,beq_eq_false_iff_ne,sK]at h1;simp only[oC,decide_eq_true_eq,pX,beq_iff_eq,sK];by_cases e:y=x;(·subst e;right;refine⟨rfl,UF a b ?_ (fun e=>h2 (by rw[e]))⟩;rcases h1.2with h|h;(·exact absurd rfl h);·exact h);·left;have:x.toNat≠y.toNat:=fun h=>e (pW.1 h.symm);omega
theorem Hk(a b:List UInt8)(h:YD a b=O):YD b a=V:=by
 cases hb:YD b a with|false=>rfl|true=>have:=Kf a b a h hb;rw[XX]at this;cases this
theorem gD{a b:List UInt8}(h:YD a b=O):a≠b:=by
 rintro rfl;rw[XX]at h;cases h
def QU(p:Pr):Int:=if 32<p.2.length then 1 else Qp p.1.length
def XF(l:PL)(i:Nat):Int:=if QU (l.getD i ([],[]))=0then(if 0<i∧YD (l.getD (i-1) ([],[])).1 (l.getD i ([],[])).1=V then 3 else 0)else QU (l.getD i ([],[]))
def Ka(l:PL):Nat->Nat->Int|0,_=>0|n+1,i=>if XF l i=0then Ka l n (i+1)else XF l i
def QA(l:PL):Int:=if 60<l.length then 1 else Ka l l.length 0
theorem zM(l:PL)(n i:Nat)(hi:i<=n)(h:∀j,j<i->XF l j=0):Ka l n 0=Ka l (n-i) i:=by
 induction i with|zero=>rfl|succ i ih=>rw[ih (by omega) (fun j hj=>h j (by omega)),show n-i=(n-(i+1))+1by omega,Ka,if_pos (h i (by omega))]
theorem jV(l:PL)(i:Nat)(hi:i<l.length)(hl:l.length<=60)(h:∀j,j<i->XF l j=0)(hf:XF l i≠0):QA l=XF l i:=by
 rw[QA,if_neg (by omega),zM l _ i (by omega) h,show l.length-i=(l.length-(i+1))+1by omega,Ka,if_neg hf]
theorem zL(l:PL)(hl:l.length<=60)(h:∀j,j<l.length->XF l j=0):QA l=0:=by
 rw[QA,if_neg (by omega),zM l _ l.length (sA _) h,oG,Ka]
theorem zI(l:PL)(hl:60<l.length):QA l=1:=by
 rw[QA,if_pos hl]
theorem xK(l:PL):∀(n i:Nat),Ka l n i=0->∀j,i<=j->j<i+n->XF l j=0|0,i,_,j,h1,h2=>by omega|n+1,i,h,j,h1,h2=>by rw[Ka]at h;by_cases e:XF l i=0;(·rw[if_pos e]at h;by_cases hj:j=i;(·subst hj;exact e);·exact xK l n (i+1) h j (by omega) (by omega));·rw[if_neg e]at h;exact absurd h e
def Ur(l:PL):Prop:=l.Pairwise fun p q=>YD p.1 q.1=O
structure ZA(l:PL):Prop where room:l.length<=60pairs:∀p∈l,(1<=p.1.length∧p.1.length<=16)∧p.2.length<=32rises:Ur l
theorem JA(p:Pr):QU p=0↔(1<=p.1.length∧p.1.length<=16)∧p.2.length<=32:=by
 unfold QU Qp;by_cases h:32<p.2.length;·rw[if_pos h];constructor;(·intro h;cases h);·intro h;omega
 ·rw[if_neg h];by_cases h2:1<=p.1.length∧p.1.length<=16;(·rw[if_pos h2];exact⟨fun _=>⟨h2,by omega⟩,fun _=>rfl⟩);·rw[if_neg h2];constructor;(·intro h;cases h);·intro h;exact absurd h.1 h2
theorem Fj(l:PL)(i:Nat):XF l i=0↔QU (l.getD i ([],[]))=0∧(0<i->YD (l.getD (i-1) ([],[])).1 (l.getD i ([],[])).1=O):=by
 unfold XF;by_cases h:QU (l.getD i ([],[]))=0;·rw[if_pos h];by_cases h2:0<i∧YD (l.getD (i-1) ([],[])).1 (l.getD i ([],[])).1=V;(·rw[if_pos h2];constructor;(·intro h;cases h);·intro h3;have:=h3.2 h2.1;rw[h2.2]at this;cases this);·rw[if_neg h2];refine⟨fun _=>⟨h,fun hi=>?_⟩,fun _=>rfl⟩;cases hk:YD (l.getD (i-1) ([],[])).1 (l.getD i ([],[])).1with|true=>rfl|false=>exact absurd ⟨hi,hk⟩ h2
 ·rw[if_neg h];constructor;(·intro h2;exact absurd h2 h);·intro h2;exact absurd h2.1 h
theorem xD:∀l:PL,(∀i,0<i->i<l.length->YD (l.getD (i-1) ([],[])).1 (l.getD i ([],[])).1=O)->Ur l|[],_=>sZ|[_],_=>sQ _ _|p::q::r,h=>by(have ih:Ur (q::r):=xD (q::r) fun i h0 hi=>by have:=h (i+1) (by omega) (by simp at hi⊢;omega);rw[show i+1-1=(i-1)+1by omega]at this;simpa using this);(have h01:YD p.1 q.1=O:=by have:=h 1 (by omega) (by simp);simpa using this);refine tU (fun x hx=>?_) ih;rcases tS.1 hx with rfl|hx;(·exact h01);·exact Kf _ _ _ h01 ((rF.1 ih).1 x hx)
theorem UL(l:PL)(h:Ur l)(i j:Nat)(hij:i<j)(hj:j<l.length):YD (l.getD i ([],[])).1 (l.getD j ([],[])).1=O:=by
 have:=pC.1 h i j (by omega) hj hij;simpa[hj,show i<l.length by omega]using this
theorem YL(l:PL):QA l=0↔ZA l:=by
 constructor;·intro h;(have hl:l.length<=60:=by by_cases hl:60<l.length;(·rw[zI l hl]at h;cases h);·omega);rw[QA,if_neg (by omega)]at h;have ha:=fun j(hj:j<l.length)=>(Fj l j).1 (xK l l.length 0 h j (by omega) (by omega));refine⟨hl,fun p hp=>?_,xD l fun i h0 hi=>(ha i hi).2 h0⟩;obtain⟨i,hi,rfl⟩:=L.1 hp;have:=(JA _).1 (ha i hi).1;simpa[hi]using this
 ·intro h;refine zL l h.room fun j hj=>(Fj l j).2 ⟨(JA _).2 ?_,fun h0=>UL l h.rises _ _ (by omega) hj⟩;have:=h.pairs l[j] (sF hj);simpa[hj]using this
theorem aJ:ZA []:=⟨by
 simp,by
 simp,sZ⟩
def zS(l:PL)(k:List UInt8):Option (List UInt8):=(l.find? fun p=>p.1==k).map (·.2)
theorem Rz(p:Pr)(l:PL)(k:List UInt8):zS (p::l) k=if p.1=k then F p.2 else zS l k:=by
 unfold zS;by_cases h:p.1=k;·rw[pI (by simpa using h),if_pos h];rfl
 ·rw[pJ (by simpa using h),if_neg h]
theorem Oy:∀(l:PL)(k:List UInt8)(i:Nat),i<l.length->(∀j,j<i->(l.getD j ([],[])).1≠k)->(l.getD i ([],[])).1=k->zS l k=F (l.getD i ([],[])).2|[],_,_,h,_,_=>by simp at h|p::l,k,0,_,_,h2=>by rw[Rz,if_pos (by simpa using h2)];simp|p::l,k,i+1,h,h1,h2=>by rw[Rz,if_neg (by simpa using h1 0 (by omega))];have:=Oy l k i (by simpa using h) (fun j hj=>by simpa using h1 (j+1) (by omega)) (by simpa using h2);simpa using this
theorem DN:∀(l:PL)(k:List UInt8),(∀j,j<l.length->(l.getD j ([],[])).1≠k)->zS l k=H|[],_,_=>rfl|p::l,k,h=>by rw[Rz,if_neg (by simpa using h 0 (by simp))];exact DN l k fun j hj=>by simpa using h (j+1) (by simpa using hj)
def Kd:PL->Pr->PL|[],p=>[p]|q::r,p=>if YD q.1 p.1=O then q::Kd r p else if q.1=p.1then p::r else p::q::r
def kH(l:PL)(k:List UInt8):PL:=l.filter fun q=>!(q.1==k)
def Ve(l:PL)(a b:List UInt8):PL:=l.filter fun q=>!YD q.1 a&&!YD b q.1
theorem Mp(l:PL)(p x:Pr):x∈Kd l p->x=p∨x∈l:=by
 induction l with|nil=>intro h;simp[Kd]at h;exact .inl h|cons q r ih=>intro h;rw[Kd]at h;by_cases h1:YD q.1 p.1=O;(·rw[if_pos h1]at h;rcases tS.1 h with rfl|h;(·exact .inr (by simp));·rcases ih h with h|h;(·exact .inl h);·exact .inr (tY _ h));·rw[if_neg h1]at h;by_cases h2:q.1=p.1;(·rw[if_pos h2]at h;rcases tS.1 h with h|h;(·exact .inl h);·exact .inr (tY _ h));·rw[if_neg h2]at h;rcases tS.1 h with h|h;(·exact .inl h);·exact .inr h
theorem Pm(l:PL)(p:Pr)(h:Ur l):Ur (Kd l p):=by
 induction l with|nil=>exact sQ _ _|cons q r ih=>have hr:=rF.1 h;rw[Kd];by_cases h1:YD q.1 p.1=O;(·rw[if_pos h1];refine tU (fun x hx=>?_) (ih hr.2);rcases Mp r p x hx with rfl|hx;(·exact h1);·exact hr.1 x hx);·rw[if_neg h1];by_cases h2:q.1=p.1;(·rw[if_pos h2];exact tU (fun x hx=>by rw[<-h2];exact hr.1 x hx) hr.2);·rw[if_neg h2];have hpq:=UF _ _ (by simpa using h1) h2;refine tU (fun x hx=>?_) h;rcases tS.1 hx with rfl|hx;(·exact hpq);·exact Kf _ _ _ hpq (hr.1 x hx)
theorem Nq(l:PL)(k:List UInt8)(h:Ur l):Ur (kH l k):=sR _ h
theorem C7(l:PL)(a b:List UInt8)(h:Ur l):Ur (Ve l a b):=sR _ h
def Z9(l:PL)(k:List UInt8):Int:=if QA l=0then Qp k.length else QA l
theorem jD{l:PL}{k:List UInt8}(h:Z9 l k=0):ZA l:=by
 unfold Z9 at h;by_cases h0:QA l=0;·exact(YL l).1 h0
 ·rw[if_neg h0]at h;exact absurd h h0
theorem Zw(n:Nat):Qp n=0↔1<=n∧n<=16:=by
 unfold Qp;by_cases h:1<=n∧n<=16;·rw[if_pos h];exact⟨fun _=>h,fun _=>rfl⟩
 ·rw[if_neg h];constructor;(·intro h2;cases h2);·intro h2;exact absurd h2 h
theorem OI{l:PL}{k:List UInt8}(h:Z9 l k=0):1<=k.length∧k.length<=16:=by
 have ht:=(YL l).2 (jD h);unfold Z9 at h;rw[if_pos ht]at h;exact(Zw _).1 h
theorem jE{l:PL}{k:List UInt8}(h:ZA l)(hk:1<=k.length∧k.length<=16):Z9 l k=0:=by
 unfold Z9;rw[if_pos ((YL l).2 h)];exact(Zw _).2 hk
def Tv(l:PL)(k:List UInt8):Bool:=Z9 l k==0&&(zS l k).isSome
def T5(l:PL)(k:List UInt8):List UInt8:=if Z9 l k=0then(zS l k).getD []else[]
def zT(l:PL)(k:List UInt8):PL:=if Z9 l k=0then kH l k else[]
theorem Le(l:PL)(k:List UInt8):(kH l k).length<=l.length:=sX _ _
def Yr(l:PL)(f t:List UInt8):Int:=if Z9 l f=0then Qp t.length else Z9 l f
theorem BA{l:PL}{f t:List UInt8}(h:Yr l f t=0):Z9 l f=0:=by
 unfold Yr at h;by_cases h0:Z9 l f=0;·exact h0
 ·rw[if_neg h0]at h;exact absurd h h0
def KQ(l:PL)(f t:List UInt8):PL:=if Yr l f t=0then Ve l f t else[]
theorem WL(l:PL)(f t:List UInt8):(Ve l f t).length<=l.length:=sX _ _
def V4(l:PL)(p:Pr):Int:=if QA l=0then QU p else QA l
def Ki(l:PL)(p:Pr):Int:=if V4 l p=0then(if 60<(Kd l p).length then 11 else 0)else V4 l p
def Vn(l:PL)(p:Pr):PL:=if Ki l p=0then Kd l p else[]
theorem dX(l:PL)(p:Pr):(Kd l p).length<=l.length+1:=by
 induction l with|nil=>simp[Kd]|cons q r ih=>rw[Kd];by_cases h1:YD q.1 p.1=O;(·rw[if_pos h1];simp;omega);·rw[if_neg h1];by_cases h2:q.1=p.1;(·rw[if_pos h2];simp);·rw[if_neg h2];simp
structure uF (l : PL) : Prop where
  many : l.length * 48 <= 140737488355328
  each : ∀ i, i < l.length -> (l.getD i ([], [])).1.length <= 140737488355328 ∧ (l.getD i ([], [])).2.length <= 140737488355328
theorem uF.len{l:PL}(h:uF l):l.length<=140737488355328:=by
 have:=h.many;omega
theorem ZA.fits{l:PL}(h:ZA l):uF l:=by
 refine⟨by have:=h.room;omega,fun i hi=>?_⟩;have:=h.pairs l[i] (sF hi);rw[show l[i]=l.getD i ([],[])by simp[hi]]at this;omega
abbrev Tn:=List UInt8×PL
abbrev FL:=List Tn
def Yt(l:FL):Prop:=l.Pairwise fun p q=>YD p.1 q.1=O
def xE(l:FL)(k:List UInt8):Option PL:=(l.find? fun p=>p.1==k).map (·.2)
theorem kK(p:Tn)(l:FL)(k:List UInt8):xE (p::l) k=if p.1=k then F p.2 else xE l k:=by
 unfold xE;by_cases h:p.1=k;·rw[pI (by simpa using h),if_pos h];rfl
 ·rw[pJ (by simpa using h),if_neg h]
theorem CU:∀(l:FL)(k:List UInt8)(i:Nat),i<l.length->(∀j,j<i->(l.getD j ([],[])).1≠k)->(l.getD i ([],[])).1=k->xE l k=F (l.getD i ([],[])).2|[],_,_,h,_,_=>by simp at h|p::l,k,0,_,_,h2=>by rw[kK,if_pos (by simpa using h2)];simp|p::l,k,i+1,h,h1,h2=>by rw[kK,if_neg (by simpa using h1 0 (by omega))];have:=CU l k i (by simpa using h) (fun j hj=>by simpa using h1 (j+1) (by omega)) (by simpa using h2);simpa using this
theorem T6:∀(l:FL)(k:List UInt8),(∀j,j<l.length->(l.getD j ([],[])).1≠k)->xE l k=H|[],_,_=>rfl|p::l,k,h=>by rw[kK,if_neg (by simpa using h 0 (by simp))];exact T6 l k fun j hj=>by simpa using h (j+1) (by simpa using hj)
def Jp:FL->Tn->FL|[],p=>[p]|q::r,p=>if YD q.1 p.1=O then q::Jp r p else if q.1=p.1then p::r else p::q::r
def kQ(l:FL)(k:List UInt8):FL:=l.filter fun q=>!(q.1==k)
theorem EI(l:FL)(p x:Tn):x∈Jp l p->x=p∨x∈l:=by
 induction l with|nil=>intro h;simp[Jp]at h;exact .inl h|cons q r ih=>intro h;rw[Jp]at h;by_cases h1:YD q.1 p.1=O;(·rw[if_pos h1]at h;rcases tS.1 h with rfl|h;(·exact .inr (by simp));·rcases ih h with h|h;(·exact .inl h);·exact .inr (tY _ h));·rw[if_neg h1]at h;by_cases h2:q.1=p.1;(·rw[if_pos h2]at h;rcases tS.1 h with h|h;(·exact .inl h);·exact .inr (tY _ h));·rw[if_neg h2]at h;rcases tS.1 h with h|h;(·exact .inl h);·exact .inr h
theorem M9(l:FL)(p:Tn)(h:Yt l):Yt (Jp l p):=by
 induction l with|nil=>exact sQ _ _|cons q r ih=>have hr:=rF.1 h;rw[Jp];by_cases h1:YD q.1 p.1=O;(·rw[if_pos h1];refine tU (fun x hx=>?_) (ih hr.2);rcases EI r p x hx with rfl|hx;(·exact h1);·exact hr.1 x hx);·rw[if_neg h1];by_cases h2:q.1=p.1;(·rw[if_pos h2];exact tU (fun x hx=>by rw[<-h2];exact hr.1 x hx) hr.2);·rw[if_neg h2];have hpq:=UF _ _ (by simpa using h1) h2;refine tU (fun x hx=>?_) h;rcases tS.1 hx with rfl|hx;(·exact hpq);·exact Kf _ _ _ hpq (hr.1 x hx)
theorem CX(l:FL)(k:List UInt8)(h:Yt l):Yt (kQ l k):=sR _ h
theorem WC(l:FL)(p:Tn):(Jp l p).length<=l.length+1:=by
 induction l with|nil=>simp[Jp]|cons q r ih=>rw[Jp];by_cases h1:YD q.1 p.1=O;(·rw[if_pos h1];simp;omega);·rw[if_neg h1];by_cases h2:q.1=p.1;(·rw[if_pos h2];simp);·rw[if_neg h2];simp
theorem Ny(l:FL)(k:List UInt8):(kQ l k).length<=l.length:=sX _ _
def Qt(n:Nat):Int:=if 1<=n∧n<=8then 0 else 1
theorem Zn(n:Nat):Qt n=0↔1<=n∧n<=8:=by
 unfold Qt;by_cases h:1<=n∧n<=8;·rw[if_pos h];exact⟨fun _=>h,fun _=>rfl⟩
 ·rw[if_neg h];constructor;(·intro h2;cases h2);·intro h2;exact absurd h2 h
def Xy(t:Tn):Int:=if Qt t.1.length=0then(if t.2.length=0then 4 else QA t.2)else Qt t.1.length
theorem Pa(t:Tn):Xy t=0↔(1<=t.1.length∧t.1.length<=8)∧t.2≠[]∧ZA t.2:=by
 unfold Xy;by_cases h:Qt t.1.length=0;·rw[if_pos h];by_cases h2:t.2.length=0;(·rw[if_pos h2];constructor;(·intro h3;cases h3);·intro h3;exact absurd (tD h2) h3.2.1);·rw[if_neg h2,YL];exact⟨fun h3=>⟨(Zn _).1 h,fun e=>h2 (by rw[e];rfl),h3⟩,fun h3=>h3.2.2⟩
 ·rw[if_neg h];constructor;(·intro h2;exact absurd h2 h);·intro h2;exact absurd ((Zn _).2 h2.1) h
def Kl(l:FL)(i:Nat):Int:=if Xy (l.getD i ([],[]))=0then(if 0<i∧YD (l.getD (i-1) ([],[])).1 (l.getD i ([],[])).1=V then 3 else 0)else Xy (l.getD i ([],[]))
def Vv(l:FL):Nat->Nat->Int|0,_=>0|n+1,i=>if Kl l i=0then Vv l n (i+1)else Kl l i
def Q6(l:FL):Int:=if 8<l.length then 1 else Vv l l.length 0
theorem jR(l:FL)(n i:Nat)(hi:i<=n)(h:∀j,j<i->Kl l j=0):Vv l n 0=Vv l (n-i) i:=by
 induction i with|zero=>rfl|succ i ih=>rw[ih (by omega) (fun j hj=>h j (by omega)),show n-i=(n-(i+1))+1by omega,Vv,if_pos (h i (by omega))]
theorem RI(l:FL)(i:Nat)(hi:i<l.length)(hl:l.length<=8)(h:∀j,j<i->Kl l j=0)(hf:Kl l i≠0):Q6 l=Kl l i:=by
 rw[Q6,if_neg (by omega),jR l _ i (by omega) h,show l.length-i=(l.length-(i+1))+1by omega,Vv,if_neg hf]
theorem uT(l:FL)(hl:l.length<=8)(h:∀j,j<l.length->Kl l j=0):Q6 l=0:=by
 rw[Q6,if_neg (by omega),jR l _ l.length (sA _) h,oG,Vv]
theorem vW(l:FL)(hl:8<l.length):Q6 l=1:=by
 rw[Q6,if_pos hl]
theorem vT(l:FL):∀(n i:Nat),Vv l n i=0->∀j,i<=j->j<i+n->Kl l j=0|0,i,_,j,h1,h2=>by omega|n+1,i,h,j,h1,h2=>by rw[Vv]at h;by_cases e:Kl l i=0;(·rw[if_pos e]at h;by_cases hj:j=i;(·subst hj;exact e);·exact vT l n (i+1) h j (by omega) (by omega));·rw[if_neg e]at h;exact absurd h e
theorem EA(l:FL)(i:Nat):Kl l i=0↔Xy (l.getD i ([],[]))=0∧(0<i->YD (l.getD (i-1) ([],[])).1 (l.getD i ([],[])).1=O):=by
 unfold Kl;by_cases h:Xy (l.getD i ([],[]))=0;·rw[if_pos h];by_cases h2:0<i∧YD (l.getD (i-1) ([],[])).1 (l.getD i ([],[])).1=V;(·rw[if_pos h2];constructor;(·intro h;cases h);·intro h3;have:=h3.2 h2.1;rw[h2.2]at this;cases this);·rw[if_neg h2];refine⟨fun _=>⟨h,fun hi=>?_⟩,fun _=>rfl⟩;cases hk:YD (l.getD (i-1) ([],[])).1 (l.getD i ([],[])).1with|true=>rfl|false=>exact absurd ⟨hi,hk⟩ h2
 ·rw[if_neg h];constructor;(·intro h2;exact absurd h2 h);·intro h2;exact absurd h2.1 h
theorem G5:∀l:FL,(∀i,0<i->i<l.length->YD (l.getD (i-1) ([],[])).1 (l.getD i ([],[])).1=O)->Yt l|[],_=>sZ|[_],_=>sQ _ _|p::q::r,h=>by(have ih:Yt (q::r):=G5 (q::r) fun i h0 hi=>by have:=h (i+1) (by omega) (by simp at hi⊢;omega);rw[show i+1-1=(i-1)+1by omega]at this;simpa using this);(have h01:YD p.1 q.1=O:=by have:=h 1 (by omega) (by simp);simpa using this);refine tU (fun x hx=>?_) ih;rcases tS.1 hx with rfl|hx;(·exact h01);·exact Kf _ _ _ h01 ((rF.1 ih).1 x hx)
theorem qV(l:FL)(h:Yt l)(i j:Nat)(hij:i<j)(hj:j<l.length):YD (l.getD i ([],[])).1 (l.getD j ([],[])).1=O:=by
 have:=pC.1 h i j (by omega) hj hij;simpa[hj,show i<l.length by omega]using this
structure ZZ(l:FL):Prop where room:l.length<=8tens:∀t∈l,(1<=t.1.length∧t.1.length<=8)∧t.2≠[]∧ZA t.2rises:Yt l
theorem XH(l:FL):Q6 l=0↔ZZ l:=by
 constructor;·intro h;(have hl:l.length<=8:=by by_cases hl:8<l.length;(·rw[vW l hl]at h;cases h);·omega);rw[Q6,if_neg (by omega)]at h;have ha:=fun j(hj:j<l.length)=>(EA l j).1 (vT l l.length 0 h j (by omega) (by omega));refine⟨hl,fun p hp=>?_,G5 l fun i h0 hi=>(ha i hi).2 h0⟩;obtain⟨i,hi,rfl⟩:=L.1 hp;have:=(Pa _).1 (ha i hi).1;simpa[hi]using this
 ·intro h;refine uT l h.room fun j hj=>(EA l j).2 ⟨(Pa _).2 ?_,fun h0=>qV l h.rises _ _ (by omega) hj⟩;have:=h.tens l[j] (sF hj);simpa[hj]using this
theorem VM:ZZ []:=⟨by
 simp,by
 simp,sZ⟩
def YN(l:FL)(n:List UInt8):PL:=(xE l n).getD []
theorem gG(n:List UInt8):YN [] n=[]:=rfl
theorem KH{l:FL}(h:ZZ l)(n:List UInt8):ZA (YN l n):=by
 unfold YN xE;cases hf:l.find? (fun p=>p.1==n)with|none=>exact aJ|some t=>exact(h.tens t (List.mem_of_find?_eq_some hf)).2.2
def QC(w:Ze):Int:=if Qt w.name.length=0then(if w.gone=O then(if Qp w.key.length=0then(if 0<w.value.length then 4 else 0)else Qp w.key.length)else QU (w.key,w.value))else Qt w.name.length
def Ym(l:FL)(w:Ze):PL:=if w.gone=O then kH (YN l w.name) w.key else Kd (YN l w.name) (w.key,w.value)
def qD(l:FL)(w:Ze):Int:=if w.gone=O then Z9 (YN l w.name) w.key else Ki (YN l w.name) (w.key,w.value)
def Zt(l:FL)(w:Ze):FL:=if(Ym l w).length=0then kQ l w.name else Jp l (w.name,Ym l w)
def Yq(l:FL)(w:Ze):Int:=if qD l w=0then(if 8<(Zt l w).length then 11 else 0)else qD l w
def Xb:FL->List Ze->Int|_,[]=>0|l,w::ws=>if QC w=0then(if Yq l w=0then Xb (Zt l w) ws else Yq l w)else QC w
def Jq:FL->List Ze->FL|l,[]=>l|l,w::ws=>Jq (Zt l w) ws
def QY(l:FL)(ws:List Ze):Int:=if Q6 l=0then(if 10<ws.length then 1 else Xb l ws)else Q6 l
def Xq(l:FL)(ws:List Ze):FL:=if QY l ws=0then Jq l ws else[]
theorem XG(w:Ze):QC w=0↔(1<=w.name.length∧w.name.length<=8)∧(1<=w.key.length∧w.key.length<=16)∧(if w.gone=O then w.value=[]else w.value.length<=32):=by
 unfold QC;by_cases hn:Qt w.name.length=0;·rw[if_pos hn];have hn':=(Zn _).1 hn;by_cases hg:w.gone=O;(·rw[if_pos hg,if_pos hg];by_cases hk:Qp w.key.length=0;(·rw[if_pos hk];have hk':=(Zw _).1 hk;by_cases hv:0<w.value.length;(·rw[if_pos hv];constructor;(·intro h;cases h);·intro h;rw[h.2.2]at hv;simp at hv);·rw[if_neg hv];exact⟨fun _=>⟨hn',hk',tD (by omega)⟩,fun _=>rfl⟩);·rw[if_neg hk];constructor;(·intro h;exact absurd h hk);·intro h;exact absurd ((Zw _).2 h.2.1) hk);·rw[if_neg hg,if_neg hg,JA];exact⟨fun h=>⟨hn',h.1,h.2⟩,fun h=>⟨h.2.1,h.2.2⟩⟩
 ·rw[if_neg hn];constructor;(·intro h;exact absurd h hn);·intro h;exact absurd ((Zn _).2 h.1) hn
theorem II{l:FL}(h:ZZ l){w:Ze}(hw:QC w=0)(he:qD l w=0):ZA (Ym l w):=by
 obtain⟨_,hk,hv⟩:=(XG w).1 hw;have hT:=KH h w.name;unfold Ym;unfold qD at he;by_cases hg:w.gone=O;·rw[if_pos hg];exact⟨rC (Le _ _) hT.room,fun p hp=>hT.pairs p (rY.1 hp).1,Nq _ _ hT.rises⟩
 ·rw[if_neg hg]at he hv⊢;(have h60:¬60<(Kd (YN l w.name) (w.key,w.value)).length:=by intro h60;unfold Ki at he;by_cases h0:V4 (YN l w.name) (w.key,w.value)=0;(·rw[if_pos h0,if_pos h60]at he;cases he);·rw[if_neg h0]at he;exact h0 he);refine⟨by omega,fun q hq=>?_,Pm _ _ hT.rises⟩;rcases Mp _ _ q hq with rfl|hq;(·exact⟨hk,hv⟩);·exact hT.pairs q hq
theorem Ed{l:FL}(h:Yt l)(w:Ze):Yt (Zt l w):=by
 unfold Zt;by_cases hn:(Ym l w).length=0;·rw[if_pos hn];exact CX _ _ h
 ·rw[if_neg hn];exact M9 _ _ h
theorem yL{l:FL}(h:ZZ l){w:Ze}(hw:QC w=0)(he:Yq l w=0):ZZ (Zt l w):=by
 have hE:qD l w=0:=by by_cases h0:qD l w=0;(·exact h0);·unfold Yq at he;rw[if_neg h0]at he;exact absurd he h0
 have hl:(Zt l w).length<=8:=by unfold Yq at he;rw[if_pos hE]at he;by_cases h8:8<(Zt l w).length;(·rw[if_pos h8]at he;cases he);·omega
 obtain⟨hn,_,_⟩:=(XG w).1 hw;refine⟨hl,fun t ht=>?_,Ed h.rises w⟩;unfold Zt at ht;by_cases h0:(Ym l w).length=0;·rw[if_pos h0]at ht;exact h.tens t (rY.1 ht).1
 ·rw[if_neg h0]at ht;rcases EI _ _ t ht with rfl|ht;(·exact⟨hn,fun e=>h0 (by rw[show Ym l w=[]from e];rfl),II h hw hE⟩);·exact h.tens t ht
structure Rd where
  name : List UInt8
  key : List UInt8
  wide : Bool
  last : List UInt8
def Zd:Rd:=⟨[],[],V,[]⟩
def Xz(r:Rd):Int:=if Qt r.name.length=0then(if Qp r.key.length=0then(if r.wide=O then Qp r.last.length else(if 0<r.last.length then 4 else 0))else Qp r.key.length)else Qt r.name.length
theorem Ez(r:Rd):Xz r=0↔(1<=r.name.length∧r.name.length<=8)∧(1<=r.key.length∧r.key.length<=16)∧(if r.wide=O then 1<=r.last.length∧r.last.length<=16 else r.last=[]):=by
 unfold Xz;by_cases hn:Qt r.name.length=0;·rw[if_pos hn];have hn':=(Zn _).1 hn;by_cases hk:Qp r.key.length=0;(·rw[if_pos hk];have hk':=(Zw _).1 hk;by_cases hw:r.wide=O;(·rw[if_pos hw,if_pos hw,Zw];exact⟨fun h=>⟨hn',hk',h⟩,fun h=>h.2.2⟩);·rw[if_neg hw,if_neg hw];by_cases hl:0<r.last.length;(·rw[if_pos hl];exact⟨fun h=>by omega,fun h=>by rw[h.2.2]at hl;simp at hl⟩);·rw[if_neg hl];exact⟨fun _=>⟨hn',hk',tD (by omega)⟩,fun _=>rfl⟩);·rw[if_neg hk];exact⟨fun h=>absurd h hk,fun h=>absurd ((Zw _).2 h.2.1) hk⟩
 ·rw[if_neg hn];exact⟨fun h=>absurd h hn,fun h=>absurd ((Zn _).2 h.1) hn⟩
def Z8(w:I)(v:N)(p:Ze):Prop:=∃vn vk vv,v=pN #[vn,vk,pO p.gone,vv]∧Qe w vn p.name∧Qe w vk p.key∧Qe w vv p.value
theorem Z8.grown{w w':I}{v:N}{p:Ze}(h:Z8 w v p)(hg:J w w' H):Z8 w' v p:=by
 obtain⟨vn,vk,vv,rfl,h1,h2,h3⟩:=h;exact⟨vn,vk,vv,rfl,h1.grown hg,h2.grown hg,h3.grown hg⟩
theorem Z8.aggW{w:I}{v:N}{p:Ze}(h:Z8 w v p):∃na nc ka kc va vc,v=pN #[tH na p.name.length nc,tH ka p.key.length kc,pO p.gone,tH va p.value.length vc]:=by
 obtain⟨vn,vk,vv,rfl,h1,h2,h3⟩:=h;obtain⟨na,nc,rfl⟩:=h1.shape;obtain⟨ka,kc,rfl⟩:=h2.shape;obtain⟨va,vc,rfl⟩:=h3.shape;exact⟨na,nc,ka,kc,va,vc,rfl⟩
def vH(w:I)(b o:Nat)(p:Ze):Prop:=∃vn vk vv,w.cell? ⟨b,o,H⟩=F vn∧w.cell? ⟨b,o+1,H⟩=F vk∧w.cell? ⟨b,o+2,H⟩=F (pO p.gone)∧w.cell? ⟨b,o+3,H⟩=F vv∧Qe w vn p.name∧Qe w vk p.key∧Qe w vv p.value
theorem vH.grown{w w':I}{b o:Nat}{p:Ze}(h:vH w b o p)(hg:J w w' H):vH w' b o p:=by
 obtain⟨vn,vk,vv,c1,c2,c3,c4,h1,h2,h3⟩:=h;exact⟨vn,vk,vv,hg.cell c1 (by simp),hg.cell c2 (by simp),hg.cell c3 (by simp),hg.cell c4 (by simp),h1.grown hg,h2.grown hg,h3.grown hg⟩
def QQ(w:I)(v:N)(l:List Ze):Prop:=∃a cap,v=tH a l.length cap∧l.length<=cap∧((l=[]∧(a=H->cap=0))∨∃b o,a=F ⟨b,o,H⟩∧∀i,i<l.length->vH w b (o+i*4) (l.getD i Qr))
theorem QQ.shape{w:I}{v:N}{l:List Ze}(h:QQ w v l):∃a cap,v=tH a l.length cap:=by
 obtain⟨a,cap,rfl,_⟩:=h;exact⟨a,cap,rfl⟩
theorem QQ.grown{w w':I}{v:N}{l:List Ze}(h:QQ w v l)(hg:J w w' H):QQ w' v l:=by
 obtain⟨a,cap,rfl,hc,h⟩:=h;refine⟨a,cap,rfl,hc,?_⟩;rcases h with h|⟨b,o,rfl,h⟩;·exact .inl h
 ·exact .inr ⟨b,o,rfl,fun i hi=>(h i hi).grown hg⟩
theorem QQ.at{w:I}{a:Option pD}{n cap:Nat}{l:List Ze}(h:QQ w (tH a n cap) l)(i:Nat)(hi:i<l.length):∃b o,a=F ⟨b,o,H⟩∧vH w b (o+i*4) (l.getD i Qr):=by
 obtain⟨a',cap',e,hc,h⟩:=h;simp only[rB]at e;obtain⟨rfl,rfl,rfl⟩:=e;rcases h with⟨rfl,_⟩|⟨b,o,rfl,h⟩;·simp at hi
 ·exact⟨b,o,rfl,h i hi⟩
structure uJ (l : List Ze) : Prop where
  many : l.length * 80 <= 140737488355328
  each : ∀ i, i < l.length -> YM (l.getD i Qr)
theorem uJ.len{l:List Ze}(h:uJ l):l.length<=140737488355328:=by
 have:=h.many;omega
structure XA where
  turn : Int
  writes : List Ze
def Zl:XA:=⟨0,[]⟩
def Bz:Nat->List Ze->Int|_,[]=>0|i,w::ws=>if(if 10<=i then(1:Int)else QC w)=0then Bz (i+1) ws else(if 10<=i then(1:Int)else QC w)
def Q9(c:XA):Int:=if 1<=c.turn∧c.turn<=1048576then(if c.writes.length=0then 1 else Bz 0 c.writes)else 2
theorem Lz:∀(ws:List Ze)(i:Nat),Bz i ws=0↔(ws=[]∨i+ws.length<=10)∧∀w∈ws,QC w=0|[],i=>by simp[Bz]|w::ws,i=>by have ih:=Lz ws (i+1);rw[Bz];by_cases h10:10<=i;(·rw[if_pos h10,if_neg (by omega)];constructor;(·intro h;omega);·rintro⟨h|h,_⟩;(·cases h);·simp at h;omega);·rw[if_neg h10];by_cases hw:QC w=0;(·rw[if_pos hw,ih];constructor;(·rintro⟨h1,h2⟩;refine⟨.inr ?_,?_⟩;(·rcases h1 with rfl|h1;(·simp;omega);·simp;omega);·intro x hx;rcases tS.1 hx with rfl|hx;(·exact hw);·exact h2 x hx);·rintro⟨h1,h2⟩;refine⟨.inr ?_,fun x hx=>h2 x (tY _ hx)⟩;rcases h1 with h1|h1;(·cases h1);·simp at h1;omega);·rw[if_neg hw];constructor;(·intro h;exact absurd h hw);·rintro⟨_,h2⟩;exact absurd (h2 w (rT ..)) hw
theorem KT(c:XA):Q9 c=0↔(1<=c.turn∧c.turn<=1048576)∧(1<=c.writes.length∧c.writes.length<=10)∧∀w∈c.writes,QC w=0:=by
 unfold Q9;by_cases h1:1<=c.turn∧c.turn<=1048576;·rw[if_pos h1];by_cases h2:c.writes.length=0;(·rw[if_pos h2];constructor;(·intro h;omega);·rintro⟨_,h,_⟩;omega);·rw[if_neg h2,Lz];constructor;(·rintro⟨h3|h3,h4⟩;(·rw[h3]at h2;simp at h2);·exact⟨h1,⟨by omega,by omega⟩,h4⟩);·rintro⟨_,h3,h4⟩;exact⟨.inr (by omega),h4⟩
 ·rw[if_neg h1];constructor;(·intro h;omega);·rintro⟨h,_⟩;exact absurd h h1
theorem cG(ws:List Ze)(i:Nat)(h:i<ws.length):Bz i (ws.drop i)=if(if 10<=i then(1:Int)else QC (ws.getD i Qr))=0then Bz (i+1) (ws.drop (i+1))else(if 10<=i then(1:Int)else QC (ws.getD i Qr)):=by
 rw[sD h,Bz,show ws[i]=ws.getD i Qr by simp[h]]
theorem dQ(ws:List Ze):Bz ws.length (ws.drop ws.length)=0:=by
 rw[List.drop_length,Bz]
def XJ(p:List UInt8):List UInt8:=tC p.length::p
theorem qI(p:List UInt8):(XJ p).length=p.length+1:=rfl
def Gx(w:Ze):List UInt8:=if w.gone=O then[255]else XJ w.value
def X8(w:Ze):List UInt8:=XJ w.name++XJ w.key++Gx w
def U7(t n:Nat):List UInt8:=[tC (t/65536),tC (t/256%256),tC (t%256),tC n]
def Zh(c:XA):List UInt8:=U7 c.turn.toNat c.writes.length++c.writes.flatMap X8
def Zv:List UInt8->Option (List UInt8×List UInt8)|[]=>H|x::r=>if x.toNat<=r.length then F (r.take x.toNat,r.drop x.toNat)else H
def uX(n k r:List UInt8):Option (Ze×List UInt8):=if r.head?=F 255then F (⟨n,k,[],O⟩,r.tail)else match Zv r with|F (v,r2)=>F (⟨n,k,v,V⟩,r2)|none=>H
def MI(n r:List UInt8):Option (Ze×List UInt8):=match Zv r with|F (k,r2)=>uX n k r2|none=>H
def Jb(r:List UInt8):Option (Ze×List UInt8):=match Zv r with|F (n,r2)=>MI n r2|none=>H
def ZM:Nat->List UInt8->Option (List Ze×List UInt8)|0,r=>F ([],r)|n+1,r=>match Jb r with|F (w,r1)=>(match ZM n r1 with|F (ws,r2)=>F (w::ws,r2)|none=>H)|none=>H
theorem DO{p:List UInt8}(h:p.length<256):(tC p.length).toNat=p.length:=by
 simp;omega
theorem Vo(p r:List UInt8)(h:p.length<256):Zv (XJ p++r)=F (p,r):=by
 show Zv (tC p.length::(p++r))=_;rw[Zv,DO h,if_pos (by simp),rM,rN]<;>rfl
theorem Gn{r p r2:List UInt8}(h:Zv r=F (p,r2)):r=XJ p++r2:=by
 cases r with|nil=>cases h|cons x r=>rw[Zv]at h;by_cases hx:x.toNat<=r.length;(·rw[if_pos hx]at h;simp only[tP,sC]at h;obtain⟨rfl,rfl⟩:=h;(have hl:(r.take x.toNat).length=x.toNat:=by simp;omega);show x::r=tC (r.take x.toNat).length::(r.take x.toNat++r.drop x.toNat);rw[hl,tE];simp);·rw[if_neg hx]at h;cases h
theorem Ah{r p r2:List UInt8}(h:Zv r=F (p,r2))(x:List UInt8):Zv (r++x)=F (p,r2++x):=by
 cases r with|nil=>cases h|cons y r=>rw[Zv]at h;by_cases hy:y.toNat<=r.length;(·rw[if_pos hy]at h;simp only[tP,sC]at h;obtain⟨rfl,rfl⟩:=h;show Zv (y::(r++x))=_;rw[Zv,if_pos (by simp;omega),r7 hy,r8 hy]);·rw[if_neg hy]at h;cases h
theorem Av{w:Ze}(hw:QC w=0)(r:List UInt8):Jb (X8 w++r)=F (w,r):=by
 obtain⟨h1,h2,h3⟩:=(XG w).1 hw;unfold Jb X8;rw[tB,tB,Vo _ _ (by omega)];show MI w.name (XJ w.key++(Gx w++r))=_;unfold MI;rw[Vo _ _ (by omega)];show uX w.name w.key (Gx w++r)=_;unfold uX Gx;by_cases hg:w.gone=O;·rw[if_pos hg]at h3⊢;rw[if_pos (by rfl)];obtain⟨n,k,v,g⟩:=w;simp only at hg h3;subst hg h3;rfl
 ·rw[if_neg hg]at h3⊢;rw[if_neg,Vo _ _ (by omega)];(·obtain⟨n,k,v,g⟩:=w;simp only[Bool.not_eq_true]at hg;subst hg;rfl);·show¬(F (tC w.value.length)=F 255);intro e;have:=congrArg UInt8.toNat (pK e);rw[DO (by omega)]at this;have h255:(255:UInt8).toNat=255:=rfl;omega
theorem Fv:∀(ws:List Ze)(_:∀w∈ws,QC w=0)(r:List UInt8),ZM ws.length (ws.flatMap X8++r)=F (ws,r)|[],_,r=>rfl|w::ws,h,r=>by show ZM (ws.length+1) ((w::ws).flatMap X8++r)=_;rw[ZM,rH,tB,Av (h w (rT ..))];show(match ZM ws.length (ws.flatMap X8++r)with|F (ws',r2)=>F (w::ws',r2)|none=>H)=_;rw[Fv ws (fun x hx=>h x (tY _ hx)) r]
theorem Dt{r r2:List UInt8}{w:Ze}(h:Jb r=F (w,r2)):r=X8 w++r2:=by
 unfold Jb at h;cases h1:Zv r with|none=>rw[h1]at h;cases h|some q=>obtain⟨n,ra⟩:=q;rw[h1]at h;have h:MI n ra=F (w,r2):=h;unfold MI at h;cases h2:Zv ra with|none=>rw[h2]at h;cases h|some q=>obtain⟨k,rb⟩:=q;rw[h2]at h;have h:uX n k rb=F (w,r2):=h;rw[Gn h1,Gn h2];unfold uX at h;by_cases hg:rb.head?=F 255;(·rw[if_pos hg]at h;simp only[tP,sC]at h;obtain⟨rfl,rfl⟩:=h;cases rb with|nil=>cases hg|cons x rb=>obtain rfl:x=255:=pK hg;show XJ n++(XJ k++255::rb)=XJ n++XJ k++[255]++rb;simp[tB]);·rw[if_neg hg]at h;cases h3:Zv rb with|none=>rw[h3]at h;cases h|some q=>obtain⟨v,rc⟩:=q;rw[h3]at h;simp only[tP,sC]at h;obtain⟨rfl,rfl⟩:=h;rw[Gn h3];show XJ n++(XJ k++(XJ v++rc))=XJ n++XJ k++XJ v++rc;simp[tB]
theorem Pd:∀(n:Nat){r r2:List UInt8}{ws:List Ze},ZM n r=F (ws,r2)->r=ws.flatMap X8++r2∧ws.length=n|0,r,r2,ws,h=>by rw[ZM]at h;simp only[tP,sC]at h;obtain⟨rfl,rfl⟩:=h;exact⟨rfl,rfl⟩|n+1,r,r2,ws,h=>by rw[ZM]at h;cases h1:Jb r with|none=>rw[h1]at h;cases h|some q=>obtain⟨w,ra⟩:=q;rw[h1]at h;have h:(match ZM n ra with|F (ws,r2)=>F (w::ws,r2)|none=>H)=F (ws,r2):=h;cases h2:ZM n ra with|none=>rw[h2]at h;cases h|some q=>obtain⟨ws',rb⟩:=q;rw[h2]at h;simp only[tP,sC]at h;obtain⟨rfl,rfl⟩:=h;obtain⟨e1,e2⟩:=Pd n h2;exact⟨by rw[Dt h1,e1,rH,tB],by simp[e2]⟩
theorem xC : ∀ (n : Nat) (r : List UInt8), ZM (n + 1) r = match ZM n r with | F (ws, r1) => (match Jb r1 with | F (w, r2) => F (ws ++ [w], r2) | none => H) | none => H
  | 0, r => by
    rw [ZM]
    cases h : Jb r with
    | none => simp [ZM, h]
    | some q => obtain ⟨w, ra⟩ := q; simp [ZM, h]
  | n + 1, r => by
    rw [ZM]
    cases h : Jb r with
    | none =>
      show H = _
      rw [ZM, h]
    | some q =>
      obtain ⟨w, ra⟩ := q
      show (match ZM (n + 1) ra with | F (ws, r2) => F (w :: ws, r2) | none => H) = _
      rw [xC n ra, show ZM (n + 1) r = (match ZM n ra with | F (ws, r2) => F (w :: ws, r2) | none => H) by rw [ZM, h]]
      cases h2 : ZM n ra with
      | none => rfl
      | some q =>
        obtain ⟨ws, rb⟩ := q
        show (match (match Jb rb with | F (w, r2) => F (ws ++ [w], r2) | none => H) with | F (ws, r2) => F (w :: ws, r2) | none => H) = (match Jb rb with | F (w', r2) => F (w :: ws ++ [w'], r2) | none => H)
        cases Jb rb with
        | none => rfl
        | some q => rfl
def Gd(b:List UInt8):Nat:=65536*(b.getD 0 0).toNat+256*(b.getD 1 0).toNat+(b.getD 2 0).toNat
def G3(b:List UInt8):Option (List Ze×List UInt8):=ZM (b.getD 3 0).toNat (b.drop 4)
def Yy(b:List UInt8):Int:=if 4000<b.length then 1 else if b.length<4then 14 else match G3 b with|none=>14|F (ws,r)=>if r.length=0then Q9 ⟨(Gd b:Int),ws⟩else 4
def JC(b:List UInt8):XA:=if Yy b=0then(match G3 b with|F (ws,_)=>⟨(Gd b:Int),ws⟩|none=>Zl)else Zl
theorem PZ(t n:Nat):(U7 t n).length=4:=rfl
theorem Ip(t n:Nat)(x:List UInt8)(ht:t<=1048576):Gd (U7 t n++x)=t:=by
 show 65536*(tC (t/65536)).toNat+256*(tC (t/256%256)).toNat+(tC (t%256)).toNat=t;simp only[pS];omega
theorem Hq(t n:Nat)(x:List UInt8)(hn:n<=10):((U7 t n++x).getD 3 0).toNat=n:=by
 show(tC n).toNat=n;simp;omega
theorem L7(t n:Nat)(x:List UInt8):(U7 t n++x).drop 4=x:=rfl
theorem Sh{w:Ze}(hw:QC w=0):(X8 w).length=3+w.name.length+w.key.length+w.value.length∧(X8 w).length<=59:=by
 obtain⟨h1,h2,h3⟩:=(XG w).1 hw;unfold X8 Gx;by_cases hg:w.gone=O;·rw[if_pos hg]at h3⊢;rw[h3];simp only[T,qI,rX,List.length_nil];omega
 ·rw[if_neg hg]at h3⊢;simp only[T,qI];omega
def La(ws:List Ze):Nat:=(ws.map fun w=>3+w.name.length+w.key.length+w.value.length).sum
theorem xN:∀(ws:List Ze)(_:∀w∈ws,QC w=0),(ws.flatMap X8).length=La ws∧(ws.flatMap X8).length<=59*ws.length|[],_=>by simp[La]|w::ws,h=>by obtain⟨i1,i2⟩:=xN ws (fun x hx=>h x (tY _ hx));obtain⟨j1,j2⟩:=Sh (h w (rT ..));rw[rH,T];unfold La at i1⊢;rw[oE,List.sum_cons,rX];omega
theorem U6{c:XA}(h:Q9 c=0):(Zh c).length=4+La c.writes∧(Zh c).length<=594:=by
 obtain⟨_,h2,h3⟩:=(KT c).1 h;obtain⟨i1,i2⟩:=xN c.writes h3;unfold Zh;rw[T,PZ];omega
theorem Dx{c:XA}(h:Q9 c=0)(x:List UInt8):G3 (Zh c++x)=F (c.writes,x)∧Gd (Zh c++x)=c.turn.toNat:=by
 obtain⟨h1,h2,h3⟩:=(KT c).1 h;unfold G3 Zh;rw[tB,Hq _ _ _ h2.2,L7,Ip _ _ _ (by omega)];exact⟨Fv _ h3 _,rfl⟩
theorem Da{c:XA}(h:Q9 c=0):Yy (Zh c)=0∧JC (Zh c)=c:=by
 obtain⟨h1,h2,h3⟩:=(KT c).1 h;obtain⟨s1,s2⟩:=U6 h;obtain⟨b1,b2⟩:=Dx h [];rw[tV]at b1 b2;have hc:(⟨(Gd (Zh c):Int),c.writes⟩:XA)=c:=by rw[b2,Int.toNat_of_nonneg (by omega)]
 have hd:Yy (Zh c)=0:=by rw[Yy,if_neg (by omega),if_neg (by omega),b1];show(if([]:List UInt8).length=0then Q9 ⟨(Gd (Zh c):Int),c.writes⟩else 4)=0;rw[if_pos (show([]:List UInt8).length=0from rfl),hc,h]
 refine⟨hd,?_⟩;rw[JC,if_pos hd,b1];exact hc
theorem Mg{b:List UInt8}(h:Yy b=0):Q9 (JC b)=0∧Zh (JC b)=b:=by
 have hC:JC b=(match G3 b with|F (ws,_)=>⟨(Gd b:Int),ws⟩|none=>Zl):=by rw[JC,if_pos h]
 rw[Yy]at h;by_cases h1:4000<b.length;·rw[if_pos h1]at h;omega
 rw[if_neg h1]at h;by_cases h2:b.length<4;·rw[if_pos h2]at h;omega
 rw[if_neg h2]at h;cases hb:G3 b with|none=>rw[hb]at h;simp at h|some q=>obtain⟨ws,r⟩:=q;rw[hb]at h hC;have h:(if r.length=0then Q9 ⟨(Gd b:Int),ws⟩else 4)=0:=h;have hC:JC b=⟨(Gd b:Int),ws⟩:=hC;by_cases hr:r.length=0;(·rw[if_pos hr]at h;obtain rfl:r=[]:=tD hr;rw[hC];refine⟨h,?_⟩;obtain⟨k1,k2,k3⟩:=(KT _).1 h;unfold G3 at hb;obtain⟨e1,e2⟩:=Pd _ hb;rw[tV]at e1;show U7 ((Gd b:Int)).toNat ws.length++ws.flatMap X8=b;rw[<-e1,e2,rI];match b,h2 with|x0::x1::x2::x3::t,_=>show U7 (65536*x0.toNat+256*x1.toNat+x2.toNat) x3.toNat++t=_;have a0:=x0.toNat_lt;have a1:=x1.toNat_lt;have a2:=x2.toNat_lt;have a3:=x3.toNat_lt;unfold U7;rw[show(65536*x0.toNat+256*x1.toNat+x2.toNat)/65536=x0.toNat by omega,show(65536*x0.toNat+256*x1.toNat+x2.toNat)/256%256=x1.toNat by omega,show(65536*x0.toNat+256*x1.toNat+x2.toNat)%256=x2.toNat by omega];simp);·rw[if_neg hr]at h;omega
def FP(b:List UInt8):List UInt8:=tC (b.length/256)::tC (b.length%256)::b
theorem zY(b:List UInt8):(FP b).length=b.length+2:=rfl
def ZG(D:List UInt8->List UInt8)(c:XA):List UInt8:=FP (Zh c)++D (FP (Zh c))
def Zg(r:List UInt8):Nat:=256*(r.getD 0 0).toNat+(r.getD 1 0).toNat
def XD(D:List UInt8->List UInt8)(r:List UInt8):Option (XA×List UInt8):=if r.length<6then H else if r.length<Zg r+6∨4000<Zg r+2then H else if D (r.take (Zg r+2))=(r.drop (Zg r+2)).take 4then(if Yy ((r.drop 2).take (Zg r))=0then F (JC ((r.drop 2).take (Zg r)),r.drop (Zg r+6))else H)else H
theorem BP{D:List UInt8->List UInt8}{r r2:List UInt8}{c:XA}(h:XD D r=F (c,r2)):∃m,6<=m∧m<=r.length∧r2=r.drop m∧Q9 c=0:=by
 unfold XD at h;by_cases h1:r.length<6;·rw[if_pos h1]at h;cases h
 rw[if_neg h1]at h;by_cases h2:r.length<Zg r+6∨4000<Zg r+2;·rw[if_pos h2]at h;cases h
 rw[if_neg h2]at h;by_cases h3:D (r.take (Zg r+2))=(r.drop (Zg r+2)).take 4;·rw[if_pos h3]at h;by_cases h4:Yy ((r.drop 2).take (Zg r))=0;(·rw[if_pos h4]at h;simp only[tP,sC]at h;obtain⟨rfl,rfl⟩:=h;exact⟨Zg r+6,by omega,by omega,rfl,(Mg h4).1⟩);·rw[if_neg h4]at h;cases h
 ·rw[if_neg h3]at h;cases h
theorem EZ{b:List UInt8}(h:b.length<65536)(x:List UInt8):Zg (FP b++x)=b.length:=by
 show 256*(tC (b.length/256)).toNat+(tC (b.length%256)).toNat=b.length;simp only[pS];omega
theorem PG{D:List UInt8->List UInt8}(hD:∀x,(D x).length=4)(c:XA):(ZG D c).length=(Zh c).length+6:=by
 unfold ZG;rw[T,hD,zY]
theorem BD{D:List UInt8->List UInt8}(hD:∀x,(D x).length=4){c:XA}(h:Q9 c=0)(r:List UInt8):XD D (ZG D c++r)=F (c,r):=by
 obtain⟨s1,s2⟩:=U6 h;obtain⟨d1,d2⟩:=Da h;have hl:=PG hD c;have hz:Zg (ZG D c++r)=(Zh c).length:=by unfold ZG;rw[tB];exact EZ (by omega) _
 have ht:(ZG D c++r).take ((Zh c).length+2)=FP (Zh c):=by unfold ZG;rw[tB];exact rM (zY _)
 have hd:(ZG D c++r).drop ((Zh c).length+2)=D (FP (Zh c))++r:=by unfold ZG;rw[tB];exact rN (zY _)
 have hm:((ZG D c++r).drop 2).take (Zh c).length=Zh c:=by unfold ZG;rw[tB];exact rM rfl
 have he:(ZG D c++r).drop ((Zh c).length+6)=r:=rN hl;have hlen:(ZG D c++r).length=(Zh c).length+6+r.length:=by rw[T,hl]
 unfold XD;rw[if_neg (by omega),hz,if_neg (by omega),ht,hd,hm,he,if_pos (rM (hD _)).symm,if_pos d1,d2]
theorem S6{D:List UInt8->List UInt8}(hD:∀x,(D x).length=4){c:XA}(h:Q9 c=0)(k:Nat)(hk:k<(ZG D c).length):XD D ((ZG D c).take k)=H:=by
 obtain⟨s1,s2⟩:=U6 h;have hl:=PG hD c;have hkl:((ZG D c).take k).length=k:=by simp;omega
 unfold XD;by_cases h6:k<6;·rw[if_pos (by omega)]
 ·(have hz:Zg ((ZG D c).take k)=(Zh c).length:=by(have hz:Zg (ZG D c++[])=(Zh c).length:=by unfold ZG;rw[tB];exact EZ (by omega) _);rw[tV]at hz;rw[<-hz];unfold Zg;simp only[List.getD_eq_getElem?_getD,pU];rw[if_pos (by omega),if_pos (by omega)]);rw[if_neg (by omega),hz,if_pos (by omega)]
def KG(D:List UInt8->List UInt8)(turn:Nat)(r:List UInt8):List XA×List UInt8:=match h:XD D r with|F (c,r2)=>if c.turn=(turn:Int)then(c::(KG D (turn+1) r2).1,(KG D (turn+1) r2).2)else([],r)|none=>([],r)termination_by r.length decreasing_by
 all_goals obtain⟨m,h1,h2,h3,_⟩:=BP h;rw[h3,pY];omega
theorem I8{D:List UInt8->List UInt8}{turn:Nat}{r r2:List UInt8}{c:XA}(h:XD D r=F (c,r2))(ht:c.turn=(turn:Int)):KG D turn r=(c::(KG D (turn+1) r2).1,(KG D (turn+1) r2).2):=by
 rw[KG];split;·next c' r' h'=>rw[h]at h';simp only[tP,sC]at h';obtain⟨rfl,rfl⟩:=h';rw[if_pos ht]
 ·next h'=>rw[h]at h';cases h'
theorem WZ{D:List UInt8->List UInt8}{turn:Nat}{r r2:List UInt8}{c:XA}(h:XD D r=F (c,r2))(ht:c.turn≠(turn:Int)):KG D turn r=([],r):=by
 rw[KG];split;·next c' r' h'=>rw[h]at h';simp only[tP,sC]at h';obtain⟨rfl,rfl⟩:=h';rw[if_neg ht]
 ·rfl
theorem T4{D:List UInt8->List UInt8}{turn:Nat}{r:List UInt8}(h:XD D r=H):KG D turn r=([],r):=by
 rw[KG];split;·next c' r' h'=>rw[h]at h';cases h'
 ·rfl
theorem It(D:List UInt8->List UInt8):XD D []=H:=by
 unfold XD;rw[if_pos (by simp)]
def qX:Nat->List XA->Prop|_,[]=>True|t,c::cs=>c.turn=(t:Int)∧Q9 c=0∧qX (t+1) cs
theorem qX.take:∀{t:Nat}{cs:List XA}(_:qX t cs)(j:Nat),qX t (cs.take j)|_,[],_,j=>by rw[oF];trivial|_,c::cs,_,0=>trivial|t,c::cs,h,j+1=>⟨h.1,h.2.1,qX.take h.2.2 j⟩
def Q4(D:List UInt8->List UInt8)(cs:List XA):List UInt8:=cs.flatMap (ZG D)
theorem KP(D:List UInt8->List UInt8)(c:XA)(cs:List XA):Q4 D (c::cs)=ZG D c++Q4 D cs:=rH
theorem Vz(D:List UInt8->List UInt8)(a b:List XA):Q4 D (a++b)=Q4 D a++Q4 D b:=List.flatMap_append
theorem Px(D:List UInt8->List UInt8)(c:XA):Q4 D [c]=ZG D c:=by
 simp[Q4]
def Dy(D:List UInt8->List UInt8)(r:List UInt8):Nat:=r.length-(KG D 1 r).2.length
theorem C6{D:List UInt8->List UInt8}(hD:∀x,(D x).length=4):∀{t:Nat}{cs:List XA}(_:qX t cs)(k:Nat),∃j,j<=cs.length∧KG D t ((Q4 D cs).take k)=(cs.take j,((Q4 D cs).take k).drop (Q4 D (cs.take j)).length)∧(Q4 D (cs.take j)).length<=k∧(Q4 D (cs.take j)).length<=(Q4 D cs).length∧(j<cs.length->k<(Q4 D (cs.take (j+1))).length)|t,[],_,k=>⟨0,by simp,by show KG D t (([]:List UInt8).take k)=_;rw[oF,T4 (It D)];simp[Q4],by simp[Q4],by simp[Q4],fun h=>by simp at h⟩|t,c::cs,h,k=>by by_cases hk:k<(ZG D c).length;(·refine⟨0,by simp,?_,by simp[Q4],by simp[Q4],fun _=>?_⟩;(·rw[KP,r7 (by omega),T4 (S6 hD h.2.1 k hk)];simp[Q4]);·show k<(Q4 D [c]).length;rw[Px];exact hk);·obtain⟨j,h1,h2,h3,h4,h5⟩:=C6 hD h.2.2 (k-(ZG D c).length);(have ht:(Q4 D (c::cs)).take k=ZG D c++(Q4 D cs).take (k-(ZG D c).length):=by rw[KP,List.take_append,pG (by omega)]);refine⟨j+1,by simp;omega,?_,?_,?_,fun hj=>?_⟩;(·rw[ht,I8 (BD hD h.2.1 _) h.1,h2,sG,KP];rw[T,<-List.drop_drop,rN rfl]);(·rw[sG,KP,T];omega);(·rw[sG,KP,KP,T,T];omega);·have:=h5 (by simpa using hj);rw[sG,KP,T];omega
theorem UX(D:List UInt8->List UInt8)(cs:List XA)(i j:Nat)(h:i<=j):(Q4 D (cs.take i)).length<=(Q4 D (cs.take j)).length:=by
 have:cs.take i=(cs.take j).take i:=by rw[List.take_take,oD h]
 rw[this];conv=>rhs;rw[<-tE i (cs.take j),Vz]
 rw[T];omega
theorem Rv{D:List UInt8->List UInt8}{cs:List XA}{k j i:Nat}(hi:i<=cs.length)(hj:j<cs.length->k<(Q4 D (cs.take (j+1))).length)(hk:(Q4 D (cs.take i)).length<=k):i<=j:=by
 by_cases h:i<=j;·exact h
 ·have:=UX D cs (j+1) i (by omega);have:=hj (by omega);omega
theorem EV(t:PL)(p:Pr)(h:∀q∈t,(1<=q.1.length∧q.1.length<=16)∧q.2.length<=32)(hp:(1<=p.1.length∧p.1.length<=16)∧p.2.length<=32):∀q∈Kd t p,(1<=q.1.length∧q.1.length<=16)∧q.2.length<=32:=by
 intro q hq;rcases Mp t p q hq with rfl|hq;·exact hp
 ·exact h q hq
theorem LQ:∀(t:PL)(p:Pr)(k:Nat),k<=t.length->(∀j,j<k->YD (t.getD j ([],[])).1 p.1=O)->(k<t.length->YD (t.getD k ([],[])).1 p.1=V)->Kd t p=if k<t.length∧(t.getD k ([],[])).1=p.1then t.set k p else t.take k++([p]++t.drop k)|[],p,k,hk,_,_=>by(obtain rfl:k=0:=by simpa using hk);simp[Kd]|q::r,p,0,_,_,h2=>by have h:=h2 (by simp);simp only[tX]at h;rw[Kd,if_neg (by rw[h];simp)];by_cases e:q.1=p.1;(·rw[if_pos e,if_pos ⟨by simp,by simpa using e⟩];simp);·rw[if_neg e,if_neg (fun h=>e (by simpa using h.2))];simp|q::r,p,k+1,hk,h1,h2=>by have h:=h1 0 (by omega);simp only[tX]at h;rw[Kd,if_pos h,LQ r p k (by simpa using hk) (fun j hj=>by simpa using h1 (j+1) (by omega)) (fun hk=>by simpa using h2 (by simpa using hk))];by_cases e:k<r.length∧(r.getD k ([],[])).1=p.1;(·rw[if_pos e,if_pos ⟨by simpa using e.1,by simpa using e.2⟩];simp);·rw[if_neg e,if_neg (fun h=>e ⟨by simpa using h.1,by simpa using h.2⟩)];simp
theorem cQ(t:PL)(p:Pr)(h:ZA t)(hp:(1<=p.1.length∧p.1.length<=16)∧p.2.length<=32)(hl:t.length<60):Ki t p=0∧Vn t p=Kd t p∧ZA (Kd t p):=by
 have h0:V4 t p=0:=by rw[V4,if_pos ((YL t).2 h)];exact(JA p).2 hp
 have hlen:=dX t p;have h1:Ki t p=0:=by rw[Ki,if_pos h0,if_neg (by omega)]
 exact⟨h1,by rw[Vn,if_pos h1],⟨by omega,EV t p h.pairs hp,Pm t p h.rises⟩⟩
def OZ(m:Nat)(l:FL):Prop:=∀n,(YN l n).length<=m
theorem Ws:OZ 0 []:=fun n=>by
 rw[gG];simp
theorem eW{l:FL}{m:Nat}(h:ZZ l){w:Ze}(hw:QC w=0)(hs:OZ m l)(hm:m<60):qD l w=0:=by
 obtain⟨_,hk,hv⟩:=(XG w).1 hw;have hT:=KH h w.name;have hl:=hs w.name;unfold qD;by_cases hg:w.gone=O;·rw[if_pos hg];exact jE hT hk
 ·rw[if_neg hg]at hv⊢;exact(cQ _ _ hT ⟨hk,hv⟩ (by omega)).1
theorem Tj{l:FL}{m:Nat}(h:ZZ l){w:Ze}(hw:QC w=0)(hs:OZ m l)(hm:m<60):Yq l w=if 8<(Zt l w).length then 11 else 0:=by
 rw[Yq,if_pos (eW h hw hs hm)]
theorem Dn(l:FL)(w:Ze):(Zt l w).length<=l.length+1:=by
 unfold Zt;by_cases hn:(Ym l w).length=0;·rw[if_pos hn];have:=Ny l w.name;omega
 ·rw[if_neg hn];exact WC _ _
theorem vN:∀(ws:List Ze)(l:FL),ZZ l->Xb l ws=0->ZZ (Jq l ws)|[],l,h,_=>h|w::ws,l,h,he=>by rw[Xb]at he;by_cases hw:QC w=0;(·rw[if_pos hw]at he;by_cases h2:Yq l w=0;(·rw[if_pos h2]at he;exact vN ws _ (yL h hw h2) he);·rw[if_neg h2]at he;exact absurd he h2);·rw[if_neg hw]at he;exact absurd he hw
def GH(l:FL)(n:List UInt8):Int:=if Q6 l=0then Qt n.length else Q6 l
theorem gM{l:FL}{n:List UInt8}(h:ZZ l)(hn:1<=n.length∧n.length<=8):GH l n=0:=by
 rw[GH,if_pos ((XH l).2 h)];exact(Zn _).2 hn
theorem qU{l:FL}{n:List UInt8}(h:GH l n=0):ZZ l∧(1<=n.length∧n.length<=8):=by
 unfold GH at h;by_cases h0:Q6 l=0;·rw[if_pos h0]at h;exact⟨(XH l).1 h0,(Zn _).1 h⟩
 ·rw[if_neg h0]at h;exact absurd h h0
def Uy(l:FL)(n k:List UInt8):Int:=if GH l n=0then Z9 (YN l n) k else GH l n
def JW(l:FL)(n k:List UInt8):Bool:=if GH l n=0then Tv (YN l n) k else V
def J7(l:FL)(n k:List UInt8):List UInt8:=if GH l n=0then T5 (YN l n) k else[]
theorem Lw{l:FL}(h:ZZ l)(n k:List UInt8)(hn:1<=n.length∧n.length<=8)(hk:1<=k.length∧k.length<=16):Uy l n k=0∧JW l n k=(zS (YN l n) k).isSome∧J7 l n k=(zS (YN l n) k).getD []:=by
 have h0:=gM h hn;have hE:=jE (KH h n) hk;refine⟨by rw[Uy,if_pos h0,hE],by rw[JW,if_pos h0,Tv,hE];rfl,by rw[J7,if_pos h0,T5,if_pos hE]⟩
def Yu(l:FL)(n f t:List UInt8):Int:=if GH l n=0then Yr (YN l n) f t else GH l n
def Kk(l:FL)(n f t:List UInt8):PL:=if GH l n=0then KQ (YN l n) f t else[]
structure Rq where
  kind : Int
  name : List UInt8
  key : List UInt8
  last : List UInt8
  value : List UInt8
def Ga:Rq:=⟨0,[],[],[],[]⟩
def QV(k:Int):Bool:=tI (2<=k∧k<=5)||tI (k=8)
def yT(r:Rq):Int:=if QV r.kind=O then(if Qt r.name.length=0then(if Qp r.key.length=0then(if r.kind=3then Qp r.last.length else 0)else Qp r.key.length)else Qt r.name.length)else 0
def R7(r:Rq):Int:=if QV r.kind=V∧0<r.name.length+r.key.length then 4 else if(r.kind≠3∧0<r.last.length)∨(r.kind≠4∧0<r.value.length)then 4 else 0
def X9(r:Rq):Int:=if 1<=r.kind∧r.kind<=8then(if yT r=0then(if 32<r.value.length then 1 else R7 r)else yT r)else 5
structure Ys(r:Rq):Prop where kind:1<=r.kind∧r.kind<=8name:QV r.kind=O->1<=r.name.length∧r.name.length<=8key:QV r.kind=O->1<=r.key.length∧r.key.length<=16last:r.kind=3->1<=r.last.length∧r.last.length<=16value:r.value.length<=32noName:QV r.kind=V->r.name=[]noKey:QV r.kind=V->r.key=[]noLast:r.kind≠3->r.last=[]noValue:r.kind≠4->r.value=[]
theorem Fw(r:Rq):yT r=0↔(QV r.kind=O->(1<=r.name.length∧r.name.length<=8)∧(1<=r.key.length∧r.key.length<=16)∧(r.kind=3->1<=r.last.length∧r.last.length<=16)):=by
 unfold yT;by_cases h:QV r.kind=O;·rw[if_pos h];by_cases h1:Qt r.name.length=0;(·rw[if_pos h1];by_cases h2:Qp r.key.length=0;(·rw[if_pos h2];by_cases h3:r.kind=3;(·rw[if_pos h3,Zw];exact⟨fun e _=>⟨(Zn _).1 h1,(Zw _).1 h2,fun _=>e⟩,fun e=>(e h).2.2 h3⟩);·rw[if_neg h3];exact⟨fun _ _=>⟨(Zn _).1 h1,(Zw _).1 h2,fun e=>absurd e h3⟩,fun _=>rfl⟩);·rw[if_neg h2];exact⟨fun e=>absurd e h2,fun e=>(Zw _).2 (e h).2.1⟩);·rw[if_neg h1];exact⟨fun e=>absurd e h1,fun e=>(Zn _).2 (e h).1⟩
 ·rw[if_neg h];exact⟨fun _ e=>absurd e h,fun _=>rfl⟩
theorem WG{l:List UInt8}(h:¬0<l.length):l=[]:=tD (by
 omega)
theorem Sb(r:Rq):R7 r=0↔(QV r.kind=V->r.name=[]∧r.key=[])∧(r.kind≠3->r.last=[])∧(r.kind≠4->r.value=[]):=by
 unfold R7;by_cases h1:QV r.kind=V∧0<r.name.length+r.key.length;·rw[if_pos h1];refine⟨fun e=>(by cases e),fun e=>?_⟩;have:=e.1 h1.1;rw[this.1,this.2]at h1;simp at h1
 ·rw[if_neg h1];by_cases h2:(r.kind≠3∧0<r.last.length)∨(r.kind≠4∧0<r.value.length);(·rw[if_pos h2];refine⟨fun e=>(by cases e),fun e=>?_⟩;rcases h2 with h2|h2;(·rw[e.2.1 h2.1]at h2;simp at h2);·rw[e.2.2 h2.1]at h2;simp at h2);·rw[if_neg h2];refine⟨fun _=>⟨fun h=>?_,fun h=>WG fun e=>h2 (.inl ⟨h,e⟩),fun h=>WG fun e=>h2 (.inr ⟨h,e⟩)⟩,fun _=>rfl⟩;have hz:¬0<r.name.length+r.key.length:=fun e=>h1 ⟨h,e⟩;exact⟨WG (by omega),WG (by omega)⟩
theorem Yw(r:Rq):X9 r=0↔Ys r:=by
 unfold X9;by_cases h0:1<=r.kind∧r.kind<=8;·rw[if_pos h0];by_cases h1:yT r=0;(·rw[if_pos h1];have hp:=(Fw r).1 h1;by_cases h2:32<r.value.length;(·rw[if_pos h2];exact⟨fun e=>(by cases e),fun e=>by have:=e.value;omega⟩);·rw[if_neg h2,Sb];refine⟨fun⟨e1,e2,e3⟩=>⟨h0,fun h=>(hp h).1,fun h=>(hp h).2.1,fun h=>(hp (by rw[h];decide)).2.2 h,by omega,fun h=>(e1 h).1,fun h=>(e1 h).2,e2,e3⟩,fun e=>⟨fun h=>⟨e.noName h,e.noKey h⟩,e.noLast,e.noValue⟩⟩);·rw[if_neg h1];refine⟨fun e=>absurd e h1,fun e=>(Fw r).2 fun h=>⟨e.name h,e.key h,e.last⟩⟩
 ·rw[if_neg h0];exact⟨fun e=>(by cases e),fun e=>absurd e.kind h0⟩
def Xj(c:Bool)(p:List UInt8):List UInt8:=if c=O then XJ p else[]
def Jg(c:Bool)(r:List UInt8):Option (List UInt8×List UInt8):=if c=O then Zv r else F ([],r)
theorem yP(c:Bool)(p r:List UInt8)(h:c=O->p.length<256)(h0:c=V->p=[]):Jg c (Xj c p++r)=F (p,r):=by
 cases c with|true=>exact Vo p r (h rfl)|false=>rw[h0 rfl];rfl
theorem VU{c:Bool}{r p r2:List UInt8}(h:Jg c r=F (p,r2)):r=Xj c p++r2:=by
 cases c with|true=>exact Gn h|false=>(obtain⟨rfl,rfl⟩:[]=p∧r=r2:=by simpa[Jg]using h);rfl
theorem jH{c:Bool}{r p r2:List UInt8}(h:Jg c r=F (p,r2))(x:List UInt8):Jg c (r++x)=F (p,r2++x):=by
 cases c with|true=>exact Ah h x|false=>(obtain⟨rfl,rfl⟩:[]=p∧r=r2:=by simpa[Jg]using h);rfl
theorem WX{c:Bool}{r p r2:List UInt8}(h:Jg c r=F (p,r2))(hc:c=V):p=[]:=by
 subst hc;have:[]=p∧r=r2:=by simpa[Jg]using h
 exact this.1.symm
def zO(r:Rq):List UInt8:=Xj (QV r.kind) r.name++(Xj (QV r.kind) r.key++(Xj (tI (r.kind=3)) r.last++Xj (tI (r.kind=4)) r.value))
def J9(r:Rq):List UInt8:=tC r.kind.toNat::zO r
def Vk(k:Int)(n q l r:List UInt8):Option (Rq×List UInt8):=match Jg (tI (k=4)) r with|F (v,r2)=>F (⟨k,n,q,l,v⟩,r2)|none=>H
def Vl(k:Int)(n q r:List UInt8):Option (Rq×List UInt8):=match Jg (tI (k=3)) r with|F (l,r2)=>Vk k n q l r2|none=>H
def Vj(k:Int)(n r:List UInt8):Option (Rq×List UInt8):=match Jg (QV k) r with|F (q,r2)=>Vl k n q r2|none=>H
def X5(k:Int)(r:List UInt8):Option (Rq×List UInt8):=match Jg (QV k) r with|F (n,r2)=>Vj k n r2|none=>H
theorem E7{r:Rq}(h:Ys r)(x:List UInt8):X5 r.kind (zO r++x)=F (r,x):=by
 have e1:=yP (QV r.kind) r.name (Xj (QV r.kind) r.key++(Xj (tI (r.kind=3)) r.last++(Xj (tI (r.kind=4)) r.value++x))) (fun e=>by have:=h.name e;omega) h.noName;have e2:=yP (QV r.kind) r.key (Xj (tI (r.kind=3)) r.last++(Xj (tI (r.kind=4)) r.value++x)) (fun e=>by have:=h.key e;omega) h.noKey;have e3:=yP (tI (r.kind=3)) r.last (Xj (tI (r.kind=4)) r.value++x) (fun e=>by have:=h.last (by simpa using e);omega) (fun e=>h.noLast (by simpa using e));have e4:=yP (tI (r.kind=4)) r.value x (fun _=>by have:=h.value;omega) (fun e=>h.noValue (by simpa using e));rw[zO,tB,tB,tB,X5,e1];show Vj _ _ _=_;rw[Vj,e2];show Vl _ _ _ _=_;rw[Vl,e3];show Vk _ _ _ _ _=_;rw[Vk,e4]
theorem kY{k:Int}{b x:List UInt8}{r:Rq}(h:X5 k b=F (r,x)):r.kind=k∧∃r1 r2 r3,Jg (QV k) b=F (r.name,r1)∧Jg (QV k) r1=F (r.key,r2)∧Jg (tI (k=3)) r2=F (r.last,r3)∧Jg (tI (k=4)) r3=F (r.value,x):=by
 rw[X5]at h;match h1:Jg (QV k) b with|none=>rw[h1]at h;cases h|F (n,r1)=>rw[h1]at h;replace h:Vj k n r1=F (r,x):=h;rw[Vj]at h;match h2:Jg (QV k) r1 with|none=>rw[h2]at h;cases h|F (q,r2)=>rw[h2]at h;replace h:Vl k n q r2=F (r,x):=h;rw[Vl]at h;match h3:Jg (tI (k=3)) r2 with|none=>rw[h3]at h;cases h|F (l,r3)=>rw[h3]at h;replace h:Vk k n q l r3=F (r,x):=h;rw[Vk]at h;match h4:Jg (tI (k=4)) r3 with|none=>rw[h4]at h;cases h|F (v,r4)=>rw[h4]at h;(obtain⟨rfl,rfl⟩:(⟨k,n,q,l,v⟩:Rq)=r∧r4=x:=by simpa using h);exact⟨rfl,r1,r2,r3,rfl,h2,h3,h4⟩
theorem cV{k:Int}{b r1 r2 r3 x n q l v:List UInt8}(h1:Jg (QV k) b=F (n,r1))(h2:Jg (QV k) r1=F (q,r2))(h3:Jg (tI (k=3)) r2=F (l,r3))(h4:Jg (tI (k=4)) r3=F (v,x)):X5 k b=F (⟨k,n,q,l,v⟩,x):=by
 rw[X5,h1];show Vj _ _ _=_;rw[Vj,h2];show Vl _ _ _ _=_;rw[Vl,h3];show Vk _ _ _ _ _=_;rw[Vk,h4]
theorem Tw{k:Int}{b x:List UInt8}{r:Rq}(h:X5 k b=F (r,x)):b=zO r++x∧r.kind=k:=by
 obtain⟨hk,r1,r2,r3,h1,h2,h3,h4⟩:=kY h;refine⟨?_,hk⟩;rw[zO,hk,VU h1,VU h2,VU h3,VU h4];simp[tB]
theorem Wg{k:Int}{b y:List UInt8}{r:Rq}(h:X5 k b=F (r,y))(x:List UInt8):X5 k (b++x)=F (r,y++x):=by
 obtain⟨hk,r1,r2,r3,h1,h2,h3,h4⟩:=kY h;have:=cV (jH h1 x) (jH h2 x) (jH h3 x) (jH h4 x);rw[this,<-hk]
def Us(b:List UInt8):Int:=((b.getD 0 0).toNat:Int)
def QK(b:List UInt8):Int:=if 4000<b.length then 1 else if b.length=0then 14 else if 1<=Us b∧Us b<=8then(match X5 (Us b) (b.drop 1)with|none=>14|F (r,x)=>if x.length=0then X9 r else 4)else 5
def Qu(b:List UInt8):Rq:=if QK b=0then(match X5 (Us b) (b.drop 1)with|F (r,_)=>r|none=>Ga)else Ga
theorem Nk{r:Rq}(h:Ys r)(x:List UInt8):Us (J9 r++x)=r.kind∧(J9 r++x).drop 1=zO r++x:=by
 have h0:=h.kind;refine⟨?_,rfl⟩;show(((tC r.kind.toNat).toNat:Nat):Int)=r.kind;simp;omega
theorem K2(c:Bool)(p:List UInt8):(Xj c p).length<=p.length+1:=by
 cases c with|true=>exact sA _|false=>exact Nat.zero_le _
theorem uH{r:Rq}(h:Ys r):(J9 r).length<=78∧1<=(J9 r).length:=by
 have l1:=K2 (QV r.kind) r.name;have l2:=K2 (QV r.kind) r.key;have l3:=K2 (tI (r.kind=3)) r.last;have l4:=K2 (tI (r.kind=4)) r.value;have k1:r.name.length<=8:=by by_cases e:QV r.kind=O;(·exact(h.name e).2);·rw[h.noName (by simpa using e)];simp
 have k2:r.key.length<=16:=by by_cases e:QV r.kind=O;(·exact(h.key e).2);·rw[h.noKey (by simpa using e)];simp
 have k3:r.last.length<=16:=by by_cases e:r.kind=3;(·exact(h.last e).2);·rw[h.noLast e];simp
 have k4:=h.value;have e:(J9 r).length=1+(Xj (QV r.kind) r.name).length+(Xj (QV r.kind) r.key).length+(Xj (tI (r.kind=3)) r.last).length+(Xj (tI (r.kind=4)) r.value).length:=by rw[J9,zO,rX,T,T,T];omega
 omega
theorem Cz{r:Rq}(h:Ys r):QK (J9 r)=0∧Qu (J9 r)=r:=by
 have hl:=uH h;obtain⟨e1,e2⟩:=Nk h [];rw[tV]at e1 e2;have e3:=E7 h [];have e:QK (J9 r)=0:=by rw[QK,if_neg (by omega),if_neg (by omega),e1,if_pos h.kind,e2,e3];show(if([]:List UInt8).length=0then X9 r else 4)=0;rw[if_pos (by simp)];exact(Yw r).2 h
 refine⟨e,?_⟩;rw[Qu,if_pos e,e1,e2,e3]
theorem iR{r:Rq}(h:Ys r)(k:Nat)(hk:k<(J9 r).length):QK ((J9 r).take k)=14:=by
 have hl2:=uH h;have hlen:((J9 r).take k).length=k:=by rw[List.length_take];omega
 rw[QK,if_neg (by omega)];by_cases h0:k=0;·rw[if_pos (by omega)]
 ·rw[if_neg (by omega)];have hsp:(J9 r).take k++(J9 r).drop k=J9 r:=tE _ _;(have hkd:Us ((J9 r).take k)=r.kind:=by obtain⟨e1,_⟩:=Nk h [];rw[tV]at e1;rw[<-e1];match k,h0 with|k+1,_=>rfl);rw[hkd,if_pos h.kind];match hD:X5 r.kind (((J9 r).take k).drop 1)with|none=>rfl|F (r',y)=>have hm:=Wg hD ((J9 r).drop k);(have hd:((J9 r).take k).drop 1++(J9 r).drop k=zO r:=by match k,h0 with|k+1,_=>show(zO r).take k++(zO r).drop k=zO r;exact tE _ _);rw[hd]at hm;have hb:=E7 h [];rw[tV,hm]at hb;(have he:y++(J9 r).drop k=[]:=by have:=congrArg (fun o=>o.map Prod.snd) hb;simpa using this);have:=congrArg List.length he;rw[T,pY]at this;simp at this;omega
theorem YI{b:List UInt8}(h:QK b=0):X9 (Qu b)=0∧J9 (Qu b)=b:=by
 have h':=h;rw[QK]at h;by_cases h1:4000<b.length;·rw[if_pos h1]at h;cases h
 ·rw[if_neg h1]at h;by_cases h2:b.length=0;(·rw[if_pos h2]at h;cases h);·rw[if_neg h2]at h;by_cases h3:1<=Us b∧Us b<=8;(·rw[if_pos h3]at h;match hD:X5 (Us b) (b.drop 1)with|none=>rw[hD]at h;cases h|F (r,x)=>rw[hD]at h;replace h:(if x.length=0then X9 r else 4)=0:=h;by_cases hx:x.length=0;(·rw[if_pos hx]at h;(have hr:Qu b=r:=by rw[Qu,if_pos h',hD]);rw[hr];refine⟨h,?_⟩;obtain⟨f1,f2⟩:=Tw hD;rw[tD hx,tV]at f1;rw[J9,<-f1,f2];match b,h2 with|c::b,_=>show tC ((c.toNat:Nat):Int).toNat::b=c::b;simp);·rw[if_neg hx]at h;cases h);·rw[if_neg h3]at h;cases h
theorem jG{b:List UInt8}(h:QK b≠0):Qu b=Ga:=by
 rw[Qu,if_neg h]
def Uj(r:Rq):Int:=if X9 r=0then(if r.kind=2∨r.kind=3then 0 else 7)else X9 r
def Zu(r:Rq):Rd:=if Uj r=0then⟨r.name,r.key,tI (r.kind=3),r.last⟩else Zd
def Jm(r:Rq):Int:=if X9 r=0then(if r.kind=4∨r.kind=5then 0 else 7)else X9 r
def Xu(r:Rq):Ze:=if Jm r=0then⟨r.name,r.key,r.value,tI (r.kind=5)⟩else Qr
theorem aN{r:Rq}(h:Uj r=0):Xz (Zu r)=0:=by
 have h':=h;unfold Uj at h;by_cases h0:X9 r=0;·rw[if_pos h0]at h;have ho:=(Yw r).1 h0;by_cases h1:r.kind=2∨r.kind=3;(·(have hn:QV r.kind=O:=by rcases h1 with h1|h1<;>rw[h1]<;>decide);rw[Zu,if_pos h',Ez];refine⟨ho.name hn,ho.key hn,?_⟩;show if tI (r.kind=3)=O then _ else _;by_cases h3:r.kind=3;(·rw[if_pos (by simpa using h3)];exact ho.last h3);·rw[if_neg (by simpa using h3)];exact ho.noLast h3);·rw[if_neg h1]at h;cases h
 ·rw[if_neg h0]at h;exact absurd h h0
theorem EM{r:Rq}(h:Jm r=0):QC (Xu r)=0:=by
 have h':=h;unfold Jm at h;by_cases h0:X9 r=0;·rw[if_pos h0]at h;have ho:=(Yw r).1 h0;by_cases h1:r.kind=4∨r.kind=5;(·(have hn:QV r.kind=O:=by rcases h1 with h1|h1<;>rw[h1]<;>decide);rw[Xu,if_pos h',XG];refine⟨ho.name hn,ho.key hn,?_⟩;show if tI (r.kind=5)=O then _ else _;by_cases h3:r.kind=5;(·rw[if_pos (by simpa using h3)];exact ho.noValue (by omega));·rw[if_neg (by simpa using h3)];exact ho.value);·rw[if_neg h1]at h;cases h
 ·rw[if_neg h0]at h;exact absurd h h0
theorem DH{r:Rq}(h:Ys r):Uj r=(if r.kind=2∨r.kind=3then 0 else 7)∧Jm r=(if r.kind=4∨r.kind=5then 0 else 7):=by
 have:=(Yw r).2 h;exact⟨by rw[Uj,if_pos this],by rw[Jm,if_pos this]⟩
def OE(l:List Ac):List UInt8:=l.flatMap fun a=>lN a++[10]
def Ub:Nat->List Ac->Option (Nat×Int)|_,[]=>H|n,a::l=>if YX a=0then Ub (n+1) l else F (n,YX a)
def Gi(l:List Ac):Int:=if 100000<l.length then 1 else match Ub 0 l with|none=>0|F (_,e)=>e
def Fk(l:List Ac):Nat:=if 100000<l.length then 0 else match Ub 0 l with|none=>0|F (i,_)=>i
def Fl(l:List Ac):List UInt8:=if Gi l=0then OE l else[]
theorem Nl:∀(l:List Ac)(n:Nat),Ub n l=H↔∀a∈l,Jc a|[],_=>by simp[Ub]|a::l,n=>by rw[Ub];by_cases ha:YX a=0;(·rw[if_pos ha,Nl l (n+1)];simp only[tS,forall_eq_or_imp];exact⟨fun h=>⟨(uG a).1 ha,h⟩,fun h=>h.2⟩);·rw[if_neg ha];exact⟨fun h=>(by cases h),fun h=>absurd ((uG a).2 (h a (by simp))) ha⟩
theorem Hw(l:List Ac)(m:Nat)(hm:m<l.length):Ub m (l.drop m)=if YX (l.getD m UO)=0then Ub (m+1) (l.drop (m+1))else F (m,YX (l.getD m UO)):=by
 rw[sD hm,Ub,show l[m]=l.getD m UO by simp[hm]]
theorem lR{l:List Ac}(h:∀a∈l,Jc a)(hl:l.length<=100000):Gi l=0∧Fk l=0∧Fl l=OE l:=by
 have hb:=(Nl l 0).2 h;have he:Gi l=0:=by rw[Gi,if_neg (by omega),hb]
 exact⟨he,by rw[Fk,if_neg (by omega),hb],by rw[Fl,if_pos he]⟩
theorem Hf{l:List Ac}(h:100000<l.length):Gi l=1∧Fk l=0∧Fl l=[]:=by
 have e:Gi l=1:=by rw[Gi,if_pos h]
 exact⟨e,by rw[Fk,if_pos h],by rw[Fl,e,if_neg (by decide)]⟩
theorem Tu{l:List Ac}(h:l.length<=100000)(hb:Ub 0 l=H):Gi l=0∧Fk l=0∧Fl l=OE l:=by
 have e:Gi l=0:=by rw[Gi,if_neg (by omega),hb]
 exact⟨e,by rw[Fk,if_neg (by omega),hb],by rw[Fl,if_pos e]⟩
theorem bL{l:List Ac}(h:l.length<=100000){i:Nat}{e:Int}(hb:Ub 0 l=F (i,e))(he:e≠0):Gi l=e∧Fk l=i∧Fl l=[]:=by
 have h1:Gi l=e:=by rw[Gi,if_neg (by omega),hb]
 exact⟨h1,by rw[Fk,if_neg (by omega),hb],by rw[Fl,h1,if_neg he]⟩
theorem fE{l:List Ac}{m:Nat}(hm:m<l.length)(hb:Ub 0 l=Ub m (l.drop m)):(YX (l.getD m UO)=0->Ub 0 l=Ub (m+1) (l.drop (m+1)))∧(YX (l.getD m UO)≠0->Ub 0 l=F (m,YX (l.getD m UO))):=by
 rw[hb,Hw l m hm];exact⟨fun h=>by rw[if_pos h],fun h=>by rw[if_neg h]⟩
def Xc(w:I)(v:N)(r:Rq):Prop:=∃vn vk vl vv,v=pN #[tK sY r.kind,vn,vk,vl,vv]∧Qe w vn r.name∧Qe w vk r.key∧Qe w vl r.last∧Qe w vv r.value
theorem Xc.grown{w w':I}{v:N}{r:Rq}(h:Xc w v r)(hg:J w w' H):Xc w' v r:=by
 obtain⟨vn,vk,vl,vv,rfl,h1,h2,h3,h4⟩:=h;exact⟨vn,vk,vl,vv,rfl,h1.grown hg,h2.grown hg,h3.grown hg,h4.grown hg⟩
theorem Xc.agg{w:I}{v:N}{r:Rq}(h:Xc w v r):∃n1 n2 k1 k2 l1 l2 v1 v2,v=pN #[tK sY r.kind,tH n1 r.name.length n2,tH k1 r.key.length k2,tH l1 r.last.length l2,tH v1 r.value.length v2]:=by
 obtain⟨vn,vk,vl,vv,rfl,h1,h2,h3,h4⟩:=h;obtain⟨n1,n2,rfl⟩:=h1.shape;obtain⟨k1,k2,rfl⟩:=h2.shape;obtain⟨l1,l2,rfl⟩:=h3.shape;obtain⟨v1,v2,rfl⟩:=h4.shape;exact⟨n1,n2,k1,k2,l1,l2,v1,v2,rfl⟩
theorem Xc.parts{w:I}{r:Rq}{x a b c d:N}(h:Xc w (pN #[x,a,b,c,d]) r):x=tK sY r.kind∧Qe w a r.name∧Qe w b r.key∧Qe w c r.last∧Qe w d r.value:=by
 obtain⟨vn,vk,vl,vv,e,h1,h2,h3,h4⟩:=h;simp only[Value.agg.injEq,Array.mk.injEq,List.cons.injEq,and_true]at e;obtain⟨rfl,rfl,rfl,rfl,rfl⟩:=e;exact⟨rfl,h1,h2,h3,h4⟩
theorem vP(w:I):Xc w (pN #[tK sY 0,tH H 0 0,tH H 0 0,tH H 0 0,tH H 0 0]) Ga:=⟨_,_,_,_,rfl,QD w,QD w,QD w,QD w⟩
structure yK(r:Rq):Prop where kind:-9223372036854775808<=r.kind∧r.kind<=9223372036854775807name:r.name.length<=140737488355328key:r.key.length<=140737488355328last:r.last.length<=140737488355328value:r.value.length<=140737488355328
theorem yN{r:Rq}(h:Ys r):yK r:=by
 have h0:=h.kind;have h5:=h.value;have k1:r.name.length<=8:=by by_cases e:QV r.kind=O;(·exact(h.name e).2);·rw[h.noName (by simpa using e)];simp
 have k2:r.key.length<=16:=by by_cases e:QV r.kind=O;(·exact(h.key e).2);·rw[h.noKey (by simpa using e)];simp
 have k3:r.last.length<=16:=by by_cases e:r.kind=3;(·exact(h.last e).2);·rw[h.noLast e];simp
 exact⟨by omega,by omega,by omega,by omega,by omega⟩
theorem Qn{W w:I}{b:Nat}{x y z u s:N}{t:sW}(hg:J W w H)(h:W.heap[b]?=F (tJ #[x,y,z,u,s] t)):(w.cell? ⟨b,0,H⟩=F x∧w.cell? ⟨b,1,H⟩=F y∧w.cell? ⟨b,2,H⟩=F z∧w.cell? ⟨b,3,H⟩=F u∧w.cell? ⟨b,4,H⟩=F s)∧(w.frozen? ⟨b,0,H⟩=V∧w.frozen? ⟨b,1,H⟩=V∧w.frozen? ⟨b,2,H⟩=V∧w.frozen? ⟨b,3,H⟩=V∧w.frozen? ⟨b,4,H⟩=V)∧w.heap[b]?=F (tJ #[x,y,z,u,s] t):=by
 have hb:w.heap[b]?=F (tJ #[x,y,z,u,s] t):=by rw[hg.block b (tL.1 h).1 (by simp)];exact h
 refine⟨⟨?_,?_,?_,?_,?_⟩,⟨?_,?_,?_,?_,?_⟩,hb⟩;all_goals simp[tZ,sV,hb]
theorem Yh{w:I}{b i:Nat}{cs:Array N}{t:sW}{fz:Nat×Nat}{u:N}(h:w.heap[b]?=F (tJ cs t fz)):(tG w ⟨b,i,H⟩ u).heap[b]?=F (tJ (cs.setIfInBounds i u) t fz):=by
 simp only[tG,tQ,if_true,h,sO];rfl
theorem qT{w:I}{b c i:Nat}{o:Obj}{u:N}(h:w.heap[b]?=F o)(hne:b≠c):(tG w ⟨c,i,H⟩ u).heap[b]?=F o:=by
 simp only[tG,tQ];rw[if_neg (fun e=>hne e.symm)];exact h
abbrev Oe(w:I)(b:Nat)(x y z u s:N):I:=((((tG w ⟨b,0,H⟩ x).setCell ⟨b,1,H⟩ y).setCell ⟨b,2,H⟩ z).setCell ⟨b,3,H⟩ u).setCell ⟨b,4,H⟩ s
theorem vF{w:I}{b:Nat}{x y z u s:N}{t:sW}(h:w.heap[b]?=F (tJ #[x,y,z,u,s] t))(x' y' z' u' s':N):(Oe w b x' y' z' u' s').heap[b]?=F (tJ #[x',y',z',u',s'] t):=Yh (Yh (Yh (Yh (Yh h))))
theorem zH{w W:I}{b:Nat}(hg:J w W H)(hb:w.heap.size<=b)(x y z u s:N):J w (Oe W b x y z u s) H:=Qc (Qc (Qc (Qc (Qc hg _ hb _ _) _ hb _ _) _ hb _ _) _ hb _ _) _ hb _ _
theorem Hr(W:I)(b:Nat)(x y z u s:N):J W (Oe W b x y z u s) (F b):=Qi (Qi (Qi (Qi (Qi (Qb W (F b)) _ _) _ _) _ _) _ _) _ _
abbrev V8(w:I)(b:Nat)(x y z u:N):I:=(((tG w ⟨b,0,H⟩ x).setCell ⟨b,1,H⟩ y).setCell ⟨b,2,H⟩ z).setCell ⟨b,3,H⟩ u
theorem XY{w:I}{b:Nat}{x y z u:N}{t:sW}(h:w.heap[b]?=F (tJ #[x,y,z,u] t))(x' y' z' u':N):(V8 w b x' y' z' u').heap[b]?=F (tJ #[x',y',z',u'] t):=Yh (Yh (Yh (Yh h)))
theorem Z6{w W:I}{b:Nat}(hg:J w W H)(hb:w.heap.size<=b)(x y z u:N):J w (V8 W b x y z u) H:=Qc (Qc (Qc (Qc hg _ hb _ _) _ hb _ _) _ hb _ _) _ hb _ _
theorem Yf(W:I)(b:Nat)(x y z u:N):J W (V8 W b x y z u) (F b):=Qi (Qi (Qi (Qi (Qb W (F b)) _ _) _ _) _ _) _ _
theorem Q8.later{base:Nat}{w w':I}{v:N}{bs:List UInt8}(h:Q8 base w v bs){b:Nat}(hg:J w w' (F b))(hb:b<base):Q8 base w' v bs:=by
 refine h.grown hg (.inr fun e=>?_);have:=(h.lt b e).1;omega
def Nd(i:Nat):Nat:=[0,0,3,7,11,3,0,0,3].getD i 0
def UD(w:I):Prop:=∀i,i<9->w.cell? ⟨0,i,H⟩=F (tK rG ((Nd i:Nat):Int))
theorem UD.grown{w w':I}(h:UD w)(hg:J w w' H):UD w':=fun i hi=>hg.cell (h i hi) (by
 simp)
def QS(k:Int):Nat->Bool|0=>QV k|1=>QV k|2=>tI (k=3)|_=>tI (k=4)
theorem fH(k j:Nat)(hk:k<9)(hj:j<4):(bits BinOp.and rG ((Nd k:Nat):Int) ((2^j:Nat):Int)!=0)=QS (k:Int) j:=(by
 decide+kernel:∀(k:Fin 9)(j:Fin 4),(bits BinOp.and rG ((Nd k.1:Nat):Int) ((2^j.1:Nat):Int)!=0)=QS (k.1:Int) j.1) ⟨k,hk⟩ ⟨j,hj⟩
def J4(r:Rq):List UInt8:=if X9 r=0then J9 r else[]
def OW:Prop:=∀(w:I)(v:N)(r:Rq),UD w->Xc w v r->yK r->rW tA 19 #[v] w fun e w'=>∃x,e=sP (pV #[x,tK sY (X9 r)])∧Qh 0 w' x (J4 r)∧J w w' H
def Yk(w:I)(v:N)(r:Rd):Prop:=∃vn vk vl,v=pN #[vn,vk,pO r.wide,vl]∧Qe w vn r.name∧Qe w vk r.key∧Qe w vl r.last
theorem Yk.grown{w w':I}{v:N}{r:Rd}(h:Yk w v r)(hg:J w w' H):Yk w' v r:=by
 obtain⟨vn,vk,vl,rfl,h1,h2,h3⟩:=h;exact⟨vn,vk,vl,rfl,h1.grown hg,h2.grown hg,h3.grown hg⟩
theorem Yk.agg{w:I}{v:N}{r:Rd}(h:Yk w v r):∃na nc ka kc la lc,v=pN #[tH na r.name.length nc,tH ka r.key.length kc,pO r.wide,tH la r.last.length lc]:=by
 obtain⟨vn,vk,vl,rfl,h1,h2,h3⟩:=h;obtain⟨na,nc,rfl⟩:=h1.shape;obtain⟨ka,kc,rfl⟩:=h2.shape;obtain⟨la,lc,rfl⟩:=h3.shape;exact⟨na,nc,ka,kc,la,lc,rfl⟩
theorem Yk.parts{w:I}{r:Rd}{x y g z:N}(h:Yk w (pN #[x,y,g,z]) r):Qe w x r.name∧Qe w y r.key∧g=pO r.wide∧Qe w z r.last:=by
 obtain⟨vn,vk,vl,e,h1,h2,h3⟩:=h;simp only[Value.agg.injEq,Array.mk.injEq,List.cons.injEq,and_true]at e;obtain⟨rfl,rfl,rfl,rfl⟩:=e;exact⟨h1,h2,rfl,h3⟩
structure P5(r:Rd):Prop where name:r.name.length<=140737488355328key:r.key.length<=140737488355328last:r.last.length<=140737488355328
structure uB where
  bit : Int
  right : Bool
  other : List UInt8
structure D4 where
  empty : Bool
  steps : List uB
  pair : Pr
def Lo:uB:=⟨0,V,[]⟩
def Va:D4:=⟨V,[],([],[])⟩
instance:Inhabited uB:=⟨Lo⟩
instance:Inhabited D4:=⟨Va⟩
def Uu(l:PL):Nat->Int|0=>999|1=>999|m+2=>if JH (l.getD 0 ([],[])).1 (l.getD (m+1) ([],[])).1<Uu l (m+1)then JH (l.getD 0 ([],[])).1 (l.getD (m+1) ([],[])).1 else Uu l (m+1)
def Qy(l:PL):Int:=Uu l l.length
def Y0(l:PL)(b:Nat)(x:Bool):PL:=l.filter fun q=>ZL q.1 b==x
theorem Cg(l:PL)(b:Nat)(x:Bool):(Y0 l b x).length<=l.length:=sX _ _
theorem XW{l:PL}(h:ZA l)(b:Nat)(x:Bool):ZA (Y0 l b x):=⟨rC (Cg l b x) h.room,fun p hp=>h.pairs p (rY.1 hp).1,sR _ h.rises⟩
theorem Ck{l:PL}(h:ZA l)(i j:Nat)(hij:i<j)(hj:j<l.length):0<=JH (l.getD i ([],[])).1 (l.getD j ([],[])).1:=by
 have hk:=UL l h.rises i j hij hj;have h1:=(h.pairs l[i] (sF (by omega))).1;have h2:=(h.pairs l[j] (sF hj)).1;rw[show l[i]=l.getD i ([],[])by simp[show i<l.length by omega]]at h1;rw[show l[j]=l.getD j ([],[])by simp[hj]]at h2;have:=Aq (l.getD i ([],[])).1 (l.getD j ([],[])).1 h1.2 h2.2;have hne:=gD hk;by_cases hp:JH (l.getD i ([],[])).1 (l.getD j ([],[])).1<0;·exact absurd (this.1 hp) hne
 ·omega
theorem Fb{l:PL}(h:ZA l):∀m,m<=l.length->0<=Uu l m∧(2<=m->Uu l m<=144)∧Uu l m<=999|0,_=>⟨by simp[Uu],by omega,by simp[Uu]⟩|1,_=>⟨by simp[Uu],by omega,by simp[Uu]⟩|m+2,hm=>by have ih:=Fb h (m+1) (by omega);have hp:=Ck h 0 (m+1) (by omega) (by omega);have hr:=Fe (l.getD 0 ([],[])).1 (l.getD (m+1) ([],[])).1;rw[Uu];by_cases hlt:JH (l.getD 0 ([],[])).1 (l.getD (m+1) ([],[])).1<Uu l (m+1);(·rw[if_pos hlt];omega);·rw[if_neg hlt];omega
theorem Yc{l:PL}(h:ZA l)(h2:2<=l.length):0<=Qy l∧Qy l<=144:=by
 have:=Fb h l.length (sA _);exact⟨this.1,this.2.1 h2⟩
theorem RZ{l:PL}(_h:ZA l):∀m,2<=m->m<=l.length->∃j,0<j∧j<m∧Uu l m=JH (l.getD 0 ([],[])).1 (l.getD j ([],[])).1|0,h,_=>by omega|1,h,_=>by omega|m+2,_,hm=>by rw[Uu];by_cases hlt:JH (l.getD 0 ([],[])).1 (l.getD (m+1) ([],[])).1<Uu l (m+1);(·rw[if_pos hlt];exact⟨m+1,by omega,by omega,rfl⟩);·rw[if_neg hlt];by_cases h0:m=0;(·subst h0;have hr:=Fe (l.getD 0 ([],[])).1 (l.getD (0+1) ([],[])).1;simp only[Uu]at hlt;omega);·obtain⟨j,h1,h2,h3⟩:=RZ _h (m+1) (by omega) (by omega);exact⟨j,h1,by omega,h3⟩
theorem kJ{l:PL}(h:ZA l)(h2:2<=l.length):∀x,(Y0 l (Qy l).toNat x).length<l.length:=by
 obtain⟨j,hj1,hj2,hj3⟩:=RZ h l.length h2 (sA _);have hr:=Yc h h2;have hd:ZL (l.getD 0 ([],[])).1 (Qy l).toNat≠ZL (l.getD j ([],[])).1 (Qy l).toNat:=by rcases JQ (l.getD 0 ([],[])).1 (l.getD j ([],[])).1with⟨e,_⟩|⟨m,e,_,_,hd⟩;(·rw[<-hj3]at e;unfold Qy at hr;omega);·(have:(Qy l).toNat=m:=by unfold Qy;omega);rw[this];exact hd
 intro x;by_cases hlt:(Y0 l (Qy l).toNat x).length<l.length;·exact hlt
 ·(have he:(Y0 l (Qy l).toNat x).length=l.length:=by have:=Cg l (Qy l).toNat x;omega);have hall:=List.length_filter_eq_length_iff.1 he;have h0:=hall l[0] (sF (by omega));have hj:=hall l[j] (sF hj2);rw[show l[0]=l.getD 0 ([],[])by simp[show 0<l.length by omega]]at h0;rw[show l[j]=l.getD j ([],[])by simp[hj2]]at hj;simp only[beq_iff_eq]at h0 hj;exact absurd (h0.trans hj.symm) hd
def JG(l:PL)(b:Nat):Nat:=(l.takeWhile fun q=>!ZL q.1 b).length
theorem xM(l:PL):∀m j,0<j->j<m->m<=l.length->Uu l m<=JH (l.getD 0 ([],[])).1 (l.getD j ([],[])).1|0,j,_,h,_=>by omega|1,j,h0,h,_=>by omega|m+2,j,h0,h,hm=>by rw[Uu];by_cases hlt:JH (l.getD 0 ([],[])).1 (l.getD (m+1) ([],[])).1<Uu l (m+1);(·rw[if_pos hlt];by_cases e:j=m+1;(·subst e;exact oJ _);·have:=xM l (m+1) j h0 (by omega) (by omega);omega);·rw[if_neg hlt];by_cases e:j=m+1;(·subst e;omega);·exact xM l (m+1) j h0 (by omega) (by omega)
theorem Pt{l:PL}(h:ZA l)(h2:2<=l.length)(j:Nat)(hj:j<l.length)(b:Nat)(hb:b<(Qy l).toNat):ZL (l.getD 0 ([],[])).1 b=ZL (l.getD j ([],[])).1 b:=by
 by_cases h0:j=0;·subst h0;rfl
 ·have hm:=xM l l.length j (by omega) hj (sA _);have hr:=Yc h h2;rcases JQ (l.getD 0 ([],[])).1 (l.getD j ([],[])).1with⟨e,hs⟩|⟨m,e,hm1,hs,_⟩;(·exact hs b (by omega));·exact hs b (by unfold Qy at hb;omega)
theorem ND{l:PL}(h:ZA l)(h2:2<=l.length)(i j:Nat)(hij:i<j)(hj:j<l.length)(hi:ZL (l.getD i ([],[])).1 (Qy l).toNat=O):ZL (l.getD j ([],[])).1 (Qy l).toNat=O:=by
 have hk:=UL l h.rises i j hij hj;have hp:=Ck h i j hij hj;rcases JQ (l.getD i ([],[])).1 (l.getD j ([],[])).1with⟨e,_⟩|⟨m,e,hm,hs,hd⟩;·omega
 ·(have hge:(Qy l).toNat<=m:=by by_cases hlt:m<(Qy l).toNat;(·exact absurd ((Pt h h2 i (by omega) m hlt).symm.trans (Pt h h2 j hj m hlt)) hd);·omega);by_cases he:(Qy l).toNat=m;(·rw[he];have:=Th _ _ m hs hd;rw[this];exact hk);·rw[<-hs _ (by omega)];exact hi
theorem NP{l:PL}(h:ZA l)(h2:2<=l.length):ZL (l.getD 0 ([],[])).1 (Qy l).toNat=V∧ZL (l.getD (l.length-1) ([],[])).1 (Qy l).toNat=O:=by
 obtain⟨j,hj1,hj2,hj3⟩:=RZ h l.length h2 (sA _);have hr:=Yc h h2;have hk:=UL l h.rises 0 j hj1 hj2;rcases JQ (l.getD 0 ([],[])).1 (l.getD j ([],[])).1with⟨e,_⟩|⟨m,e,hm,hs,hd⟩;·rw[<-hj3]at e;unfold Qy at hr;omega
 ·(have em:(Qy l).toNat=m:=by unfold Qy;omega);have ho:=Th _ _ m hs hd;(have hjt:ZL (l.getD j ([],[])).1 m=O:=by rw[ho];exact hk);refine⟨?_,?_⟩;(·rw[em];cases hx:ZL (l.getD 0 ([],[])).1 m with|false=>rfl|true=>exact absurd (hx.trans hjt.symm) hd);·by_cases hl:j=l.length-1;(·rw[<-hl,em];exact hjt);·exact ND h h2 j (l.length-1) (by omega) (by omega) (by rw[em];exact hjt)
theorem Nw{l:PL}(h:ZA l)(h2:2<=l.length):JH (l.getD 0 ([],[])).1 (l.getD (l.length-1) ([],[])).1=Qy l:=by
 have hr:=Yc h h2;obtain⟨e1,e2⟩:=NP h h2;rw[DM _ _ (Qy l).toNat (by omega) (fun b hb=>Pt h h2 _ (by omega) b hb) (by rw[e1,e2];simp)];omega
theorem Lq:∀(l:PL)(b j:Nat),j<JG l b->ZL (l.getD j ([],[])).1 b=V|[],b,j,h=>by simp[JG]at h|p::r,b,j,h=>by cases hk:ZL p.1 b with|true=>simp[JG,hk]at h|false=>cases j with|zero=>simpa using hk|succ j=>have:=Lq r b j (by unfold JG at h⊢;rw[tM (p:=fun q:Pr=>!ZL q.1 b) (by simp[hk])]at h;simpa using h);simpa using this
theorem Be:∀(l:PL)(b:Nat),JG l b<l.length->ZL (l.getD (JG l b) ([],[])).1 b=O|[],b,h=>by simp at h|p::r,b,h=>by cases hk:ZL p.1 b with|true=>simp[JG,hk]|false=>(have e:JG (p::r) b=JG r b+1:=by unfold JG;rw[tM (p:=fun q:Pr=>!ZL q.1 b) (by simp[hk])];simp);rw[e]at h⊢;have:=Be r b (by simpa using h);simpa using this
theorem GJ{l:PL}(h:ZA l)(h2:2<=l.length)(j:Nat)(hj:j<l.length):ZL (l.getD j ([],[])).1 (Qy l).toNat=tI (JG l (Qy l).toNat<=j):=by
 by_cases hlt:j<JG l (Qy l).toNat;·rw[decide_eq_false (by omega)];exact Lq l _ j hlt
 ·rw[decide_eq_true (by omega)];have h0:=Be l (Qy l).toNat (by omega);by_cases e:j=JG l (Qy l).toNat;(·rw[e];exact h0);·exact ND h h2 _ j (by omega) hj h0
theorem UB{l:PL}(h:ZA l)(h2:2<=l.length):0<JG l (Qy l).toNat∧JG l (Qy l).toNat<l.length:=by
 obtain⟨e1,e2⟩:=NP h h2;rw[GJ h h2 0 (by omega)]at e1;rw[GJ h h2 _ (by omega)]at e2;simp at e1 e2;omega
theorem kU{l:PL}(h:ZA l)(h2:2<=l.length):Y0 l (Qy l).toNat V=l.take (JG l (Qy l).toNat):=by
 have hs:=UB h h2;have hb:=fun j hj=>GJ h h2 j hj;generalize(Qy l).toNat=b at*;generalize JG l b=n at*;have e:l=l.take n++l.drop n:=(tE n l).symm;rw[Y0];conv=>lhs;rw[e]
 rw[sI,tN.2,sJ.2,tV];·intro q hq;obtain⟨j,hj,rfl⟩:=L.1 hq;(have hjn:n+j<l.length:=by simp at hj;omega);rw[sM,show l[n+j]=l.getD (n+j) ([],[])by simp[hjn],hb _ hjn];simp
 ·intro q hq;obtain⟨j,hj,rfl⟩:=L.1 hq;(have hjn:j<n:=by simp at hj;omega);rw[sE,show l[j]'(by omega)=l.getD j ([],[])by simp[show j<l.length by omega],hb _ (by omega)];simp[hjn]
theorem PW{l:PL}(h:ZA l)(h2:2<=l.length):Y0 l (Qy l).toNat O=l.drop (JG l (Qy l).toNat):=by
 have hs:=UB h h2;have hb:=fun j hj=>GJ h h2 j hj;generalize(Qy l).toNat=b at*;generalize JG l b=n at*;have e:l=l.take n++l.drop n:=(tE n l).symm;rw[Y0];conv=>lhs;rw[e]
 rw[sI,sJ.2,tN.2,pA];·intro q hq;obtain⟨j,hj,rfl⟩:=L.1 hq;(have hjn:n+j<l.length:=by simp at hj;omega);rw[sM,show l[n+j]=l.getD (n+j) ([],[])by simp[hjn],hb _ hjn];simp
 ·intro q hq;obtain⟨j,hj,rfl⟩:=L.1 hq;(have hjn:j<n:=by simp at hj;omega);rw[sE,show l[j]'(by omega)=l.getD j ([],[])by simp[show j<l.length by omega],hb _ (by omega)];simp[hjn]
def U(x:BitVec 64):Int:=(x.toNat:Int)
theorem yX(x:BitVec 64):sB 64 (U x)=x:=by
 unfold U;rw[pL];simp
theorem kL(x:BitVec 64):rD.wrap (x.toNat:Int)=U x:=by
 rw[rU];unfold U;have:=x.isLt;omega
theorem Zp(x y:BitVec 64):bits .xor .u64 (U x) (U y)=U (x^^^y):=by
 show rD.wrap ((sB 64 (U x)^^^sB 64 (U y)).toNat:Int)=_;rw[yX,yX,kL]
theorem E8(x y:BitVec 64):bits .or .u64 (U x) (U y)=U (x|||y):=by
 show rD.wrap ((sB 64 (U x)|||sB 64 (U y)).toNat:Int)=_;rw[yX,yX,kL]
theorem Ky(x y:BitVec 64):bits .andNot .u64 (U x) (U y)=U (x&&&~~~y):=by
 show rD.wrap ((sB 64 (U x)&&&~~~sB 64 (U y)).toNat:Int)=_;rw[yX,yX,kL]
theorem JR(x:BitVec 64)(k:Nat):rD.wrap (U x*2^k)=U (x<<<k):=by
 rw[rU];unfold U;rw[BitVec.toNat_shiftLeft,Nat.shiftLeft_eq];have e:((x.toNat:Int)*2^k)=((x.toNat*2^k:Nat):Int):=by simp
 rw[e];omega
theorem NA(x:BitVec 64)(k:Nat):U x/2^k=U (x>>>k):=by
 unfold U;rw[BitVec.toNat_ushiftRight,Nat.shiftRight_eq_div_pow];simp
theorem iM(k:Int)(h0:0<=k)(h:k<64):bits .and .u64 k 63=k:=by
 obtain⟨n,rfl⟩:=Int.eq_ofNat_of_zero_le h0;show rD.wrap ((sB 64 (n:Int)&&&sB 64 63).toNat:Int)=_;rw[pL,BitVec.toNat_and];have h1:(BitVec.ofNat 64 n).toNat=n:=by rw[BitVec.toNat_ofNat];omega
 have h2:(sB 64 63).toNat=2^6-1:=by decide
 rw[h1,h2,Nat.and_two_pow_sub_one_eq_mod,rU];omega
def xH(x:BitVec 64)(k:Nat):BitVec 64:=(x<<<k)|||(x>>>(64-k))
section
theorem LX(x:BitVec 64)(k:Int)(h0:0<=k)(h:k<64)(w:I):rW tA 147 #[tK .u64 (U x),tK sY k] w fun e w'=>e=sP (tK .u64 (U (xH x k.toNat)))∧w'=w:=by
 have h63:=iM k h0 h;go_enter Tryz.func147,Tryz.ntmps147;go_wp2;go_ret;refine⟨?_,rfl⟩;rw[show(64-k).toNat=64-k.toNat by omega,JR,NA,E8];rfl
def Ke(st:List (BitVec 64)):Array N:=(st.map fun x=>tK .u64 (U x)).toArray
structure XT (n : Nat) (w : I) (b : Nat) (st : List (BitVec 64)) : Prop where
  len : st.length = n
  blk : ∃ t, w.heap[b]? = F (tJ (Ke st) t (0, 0))
section
variable{n:Nat}{w:I}{b:Nat}{st:List (BitVec 64)}
theorem XT.cell(h:XT n w b st)(i:Nat)(hi:i<n):w.cell? ⟨b,i,H⟩=F (tK .u64 (U (st.getD i 0))):=by
 obtain⟨t,hb⟩:=h.blk;simp[tZ,hb,Ke,sS,rK (show i<st.length by have:=h.len;omega)]
theorem XT.frozen(h:XT n w b st)(i:Nat):w.frozen? ⟨b,i,H⟩=V:=by
 obtain⟨t,hb⟩:=h.blk;simp[sV,hb]
theorem XT.lt(h:XT n w b st):b<w.heap.size:=by
 obtain⟨t,hb⟩:=h.blk;exact(tL.1 hb).1
theorem Dm(st:List (BitVec 64))(i:Nat)(x:BitVec 64):(Ke st).setIfInBounds i (tK .u64 (U x))=Ke (st.set i x):=by
 simp[Ke]
theorem XT.set(h:XT n w b st)(i:Nat)(x:BitVec 64):XT n (tG w ⟨b,i,H⟩ (tK .u64 (U x))) b (st.set i x):=by
 obtain⟨t,hb⟩:=h.blk;refine⟨by simp[h.len],t,?_⟩;simp only[tG,tQ,if_true,hb,sO];simp[Dm]
theorem XT.setOther(h:XT n w b st)(c:Nat)(hc:b≠c)(i:Nat)(v:N):XT n (tG w ⟨c,i,H⟩ v) b st:=by
 obtain⟨t,hb⟩:=h.blk;exact⟨h.len,t,by rw[Below.heap_setCell _ _ _ _ hc];exact hb⟩
theorem XT.drewN(h:XT n w b st)(k:Nat):XT n (w.drewN k) b st:=⟨h.len,h.blk⟩
theorem XT.drew(h:XT n w b st):XT n w.drew b st:=⟨h.len,h.blk⟩
theorem XT.alloc(h:XT n w b st)(o:Obj):XT n (w.alloc o) b st:=by
 obtain⟨t,hb⟩:=h.blk;exact⟨h.len,t,by rw[Below.heap_alloc _ _ _ h.lt];exact hb⟩
theorem XT.grown(h:XT n w b st){w':I}{r:Option Nat}(hg:J w w' r)(hr:F b≠r):XT n w' b st:=by
 obtain⟨t,hb⟩:=h.blk;exact⟨h.len,t,by rw[hg.block b h.lt hr];exact hb⟩
theorem XT.new(w:I)(t:sW)(st:List (BitVec 64))(hl:st.length=n):XT n (w.alloc (tJ (Ke st) t)) w.heap.size st:=⟨hl,t,rJ w _⟩
end
abbrev St:=XT 25
def Lr(st:List (BitVec 64))(n:Nat):List (BitVec 64):=let a:=st.getD n 0;let b:=st.getD (n+1) 0;let c:=st.getD (n+2) 0;let d:=st.getD (n+3) 0;let e:=st.getD (n+4) 0;((((st.set n (a^^^(c&&&~~~b))).set (n+1) (b^^^(d&&&~~~c))).set (n+2) (c^^^(e&&&~~~d))).set (n+3) (d^^^(a&&&~~~e))).set (n+4) (e^^^(b&&&~~~a))
def VL(st:List (BitVec 64)):Nat->List (BitVec 64)|0=>st|k+1=>Lr (VL st k) (5*k)
theorem IV(w:I)(b:Nat)(st:List (BitVec 64))(h:St w b st):rW tA 125 #[.pointer (F ⟨b,0,H⟩)] w fun e w'=>e=sP (pV #[])∧St w' b (VL st 5)∧J w w' (F b):=by
 go_enter Tryz.func125,Tryz.ntmps125;go_wp2;go_loopw[2](fun y wr=>∃k:Nat,k<=5∧y=tK sY ((5*k:Nat):Int)∧St wr b (VL st k)∧J w wr (F b))(fun y _=>25-(intOf y).toNat);case atStart=>exact⟨0,by omega,rfl,h,Qb _ _⟩
 case round=>obtain⟨k,hk,rfl,hst,hg⟩:=hrel;by_cases hlt:k<5;(·generalize hn:5*k=n;have HN:Hid (5*k=n):=hn;clear hn;(have h25:n+4<25:=by have:=HN.out;omega);have hc:=hst.cell;have hf:=hst.frozen;have c0:=hc n (by omega);have c1:=hc (n+1) (by omega);have c2:=hc (n+2) (by omega);have c3:=hc (n+3) (by omega);have c4:=hc (n+4) (by omega);clear hc;generalize hS:VL st k=S at*;have HS:Hid (VL st k=S):=hS;clear hS;generalize hA:S.getD n 0=A at*;generalize hB:S.getD (n+1) 0=B at*;generalize hC:S.getD (n+2) 0=C at*;generalize hD:S.getD (n+3) 0=D at*;generalize hE:S.getD (n+4) 0=E at*;have HA:Hid (S.getD n 0=A):=hA;have HB:Hid (S.getD (n+1) 0=B):=hB;have HC:Hid (S.getD (n+2) 0=C):=hC;have HD:Hid (S.getD (n+3) 0=D):=hD;have HE:Hid (S.getD (n+4) 0=E):=hE;clear hA hB hC hD hE;(have i1:(n:Int)+4<25:=by omega);go_wp2;go_quiet(fail);go_wp2;go_roundw;(case rel=>refine⟨k+1,by omega,by have:=HN.out;congr 1;omega,?_,?_⟩;(·rw[Ky,Ky,Ky,Ky,Ky,Zp,Zp,Zp,Zp,Zp];(have e:VL st (k+1)=((((S.set n (A^^^(C&&&~~~B))).set (n+1) (B^^^(D&&&~~~C))).set (n+2) (C^^^(E&&&~~~D))).set (n+3) (D^^^(A&&&~~~E))).set (n+4) (E^^^(B&&&~~~A)):=by simp only[VL,Lr,HS.out,HN.out,HA.out,HB.out,HC.out,HD.out,HE.out]);rw[e];exact(((((hst.drewN nq).set n _).set (n+1) _).set (n+2) _).set (n+3) _).set (n+4) _);·exact Qi (Qi (Qi (Qi (Qi (Qs hg nq) n _) (n+1) _) (n+2) _) (n+3) _) (n+4) _);case measure=>simp[intOf];omega);·(obtain rfl:k=5:=by omega);go_wp2;go_end0;exact⟨rfl,hst,hg⟩
end
def S8(st:List (BitVec 64))(x:Nat):BitVec 64:=st.getD x 0^^^st.getD (x+5) 0^^^st.getD (x+10) 0^^^st.getD (x+15) 0^^^st.getD (x+20) 0
def Vf(st:List (BitVec 64)):Nat->List (BitVec 64)|0=>[0,0,0,0,0]|k+1=>(Vf st k).set k (S8 st k)
def bS(c:List (BitVec 64)):List (BitVec 64):=[c.getD 4 0^^^xH (c.getD 1 0) 1,c.getD 0 0^^^xH (c.getD 2 0) 1,c.getD 1 0^^^xH (c.getD 3 0) 1,c.getD 2 0^^^xH (c.getD 4 0) 1,c.getD 3 0^^^xH (c.getD 0 0) 1]
def FZ(d st:List (BitVec 64))(k:Nat):List (BitVec 64):=let y:=d.getD k 0;((((st.set k (st.getD k 0^^^y)).set (k+5) (st.getD (k+5) 0^^^y)).set (k+10) (st.getD (k+10) 0^^^y)).set (k+15) (st.getD (k+15) 0^^^y)).set (k+20) (st.getD (k+20) 0^^^y)
def jW(d st:List (BitVec 64)):Nat->List (BitVec 64)|0=>st|k+1=>FZ d (jW d st k) k
theorem bK(w:I)(b:Nat)(st:List (BitVec 64))(h:St w b st):rW tA 123 #[.pointer (F ⟨b,0,H⟩)] w fun e w'=>e=sP (pV #[])∧St w' b (jW (bS (Vf st 5)) st 5)∧J w w' (F b):=by
 have hbn:b≠w.heap.size:=Nat.ne_of_lt h.lt;have h0:=h;go_enter Tryz.func123,Tryz.ntmps123;go_wp2_with fail;go_loopw[6](fun i wr=>∃k:Nat,k<=5∧i=tK sY (k:Int)∧St wr b st∧XT 5 wr w.heap.size (Vf st k)∧J w wr (F b))(fun i _=>5-(intOf i).toNat);case atStart=>exact⟨0,by omega,rfl,h.alloc _,XT.new w 240 [0,0,0,0,0] rfl,Qw (Qb _ _) _⟩
 case round=>obtain⟨k,hk,rfl,hst,hcl,hg⟩:=hrel;by_cases hlt:k<5;(·have c0:=hst.cell k (by omega);have c1:=hst.cell (k+5) (by omega);have c2:=hst.cell (k+10) (by omega);have c3:=hst.cell (k+15) (by omega);have c4:=hst.cell (k+20) (by omega);have d0:=hcl.cell k hlt;have hf:=hcl.frozen k;generalize hx0:st.getD k 0=x0 at*;generalize hx1:st.getD (k+5) 0=x1 at*;generalize hx2:st.getD (k+10) 0=x2 at*;generalize hx3:st.getD (k+15) 0=x3 at*;generalize hx4:st.getD (k+20) 0=x4 at*;(have HX:Hid (S8 st k=x0^^^x1^^^x2^^^x3^^^x4):=by show S8 st k=_;simp only[S8,hx0,hx1,hx2,hx3,hx4]);generalize hcc:Vf st k=cc at*;have HC:Hid (Vf st k=cc):=hcc;generalize hy:cc.getD k 0=y at*;clear hx0 hx1 hx2 hx3 hx4 hcc hy h;(have i1:(k:Int)+20<25:=by omega);(have i2:(k:Int)<5:=by omega);go_wp2_with fail;go_region;(all_goals go_wp2);go_roundw;(case rel=>rw[Zp,Zp,Zp,Zp];have hlt':=hst.lt;have hlt2:=hcl.lt;refine⟨k+1,by omega,by go_num,(hst.setOther _ hbn _ _).drew,?_,Ql (Qc hg _ (sA _) _ _)⟩;simp only[Vf,HC.out,HX.out];exact(hcl.set k _).drew);case measure=>simp[intOf];omega);·(obtain rfl:k=5:=by omega);have e0:=hcl.cell 0 (by omega);have e1:=hcl.cell 1 (by omega);have e2:=hcl.cell 2 (by omega);have e3:=hcl.cell 3 (by omega);have e4:=hcl.cell 4 (by omega);generalize hcc:Vf st 5=cc at*;have HC:Hid (Vf st 5=cc):=hcc;generalize hx0:cc.getD 0 0=x0 at*;generalize hx1:cc.getD 1 0=x1 at*;generalize hx2:cc.getD 2 0=x2 at*;generalize hx3:cc.getD 3 0=x3 at*;generalize hx4:cc.getD 4 0=x4 at*;(have HD:Hid (bS cc=[x4^^^xH x1 1,x0^^^xH x2 1,x1^^^xH x3 1,x2^^^xH x4 1,x3^^^xH x0 1]):=by show bS cc=_;simp only[bS,hx0,hx1,hx2,hx3,hx4]);clear hcc hx0 hx1 hx2 hx3 hx4 h;have hwr:=hcl.lt;go_upto_region 6with fail;go_cut[4](fun s4 wx=>s4=.pointer (F ⟨wr.heap.size,0,H⟩)∧St wx b st∧XT 5 wx wr.heap.size (bS cc)∧J w wx (F b));(case first=>go_region_held3(fun w'=>w'.cell? ⟨w.heap.size,0,H⟩=F (tK .u64 (U x0))∧w'.cell? ⟨w.heap.size,1,H⟩=F (tK .u64 (U x1))∧w'.cell? ⟨w.heap.size,2,H⟩=F (tK .u64 (U x2))∧w'.cell? ⟨w.heap.size,3,H⟩=F (tK .u64 (U x3))∧w'.cell? ⟨w.heap.size,4,H⟩=F (tK .u64 (U x4)))(go_keep)(first|(go_at_call 147;refine(LX _ (1:Int) (by omega) (by omega) _).mono ?_;rintro e w'⟨rfl,rfl⟩));all_goals(go_wp2_with fail;go_meet;case rel=>(rw[HD.out,Zp,Zp,Zp,Zp,Zp];exact⟨rfl,(hst.alloc _).drew,(XT.new wr 240 [x4^^^xH x1 1,x0^^^xH x2 1,x1^^^xH x3 1,x2^^^xH x4 1,x3^^^xH x0 1] rfl).drew,Ql (Qw hg _)⟩)));case rest=>obtain⟨rfl,hst2,hd2,hg2⟩:=hcut;clear e0 e1 e2 e3 e4 hst hcl hg;(have hbw:b≠wr.heap.size:=by have:=h0.lt;omega);generalize hD:bS cc=dd at*;have HDD:Hid (bS cc=dd):=hD;clear hD HD;generalize hdn:wr.heap.size=db at*;clear hdn hwr;go_wp2_with fail;go_loopw[76](fun i wr=>∃k:Nat,k<=5∧i=tK sY (k:Int)∧St wr b (jW dd st k)∧XT 5 wr db dd∧J w wr (F b))(fun i _=>5-(intOf i).toNat);(case atStart=>exact⟨0,by omega,rfl,hst2,hd2,hg2⟩);case round=>clear hst2 hd2 hg2;obtain⟨k,hk,rfl,hst,hd,hg⟩:=hrel;by_cases hlt:k<5;(·have c0:=hst.cell k (by omega);have c1:=hst.cell (k+5) (by omega);have c2:=hst.cell (k+10) (by omega);have c3:=hst.cell (k+15) (by omega);have c4:=hst.cell (k+20) (by omega);have d0:=hd.cell k hlt;have hf:=hst.frozen;generalize hS:jW dd st k=S at*;have HS:Hid (jW dd st k=S):=hS;generalize hy:dd.getD k 0=y at*;generalize hx0:S.getD k 0=x0 at*;generalize hx1:S.getD (k+5) 0=x1 at*;generalize hx2:S.getD (k+10) 0=x2 at*;generalize hx3:S.getD (k+15) 0=x3 at*;generalize hx4:S.getD (k+20) 0=x4 at*;(have HX:Hid (FZ dd S k=((((S.set k (x0^^^y)).set (k+5) (x1^^^y)).set (k+10) (x2^^^y)).set (k+15) (x3^^^y)).set (k+20) (x4^^^y)):=by show FZ dd S k=_;simp only[FZ,hy,hx0,hx1,hx2,hx3,hx4]);clear hS hy hx0 hx1 hx2 hx3 hx4;(have i1:(k:Int)+20<25:=by omega);(have i2:(k:Int)<5:=by omega);go_wp2_with fail;go_region;go_wp2_with fail;go_region;go_wp2_with fail;go_region;go_wp2_with fail;go_region;go_wp2_with fail;go_region;go_wp2_with fail;go_roundw;(case rel=>rw[Zp,Zp,Zp,Zp,Zp];refine⟨k+1,by omega,by go_num,?_,?_,?_⟩;(·simp only[jW,HS.out,HX.out];exact(((((hst.set k _).set (k+5) _).set (k+10) _).set (k+15) _).set (k+20) _).drew.drew.drew.drew.drew);(·exact(((((hd.setOther b hbw.symm k _).setOther b hbw.symm (k+5) _).setOther b hbw.symm (k+10) _).setOther b hbw.symm (k+15) _).setOther b hbw.symm (k+20) _).drew.drew.drew.drew.drew);·exact Ql (Ql (Ql (Ql (Ql (Qi (Qi (Qi (Qi (Qi hg k _) (k+5) _) (k+10) _) (k+15) _) (k+20) _))))));case measure=>simp[intOf];omega);·(obtain rfl:k=5:=by omega);go_wp2;go_end0;refine⟨rfl,?_,hg⟩;rw[HC.out,HDD.out];exact hst
def Jx:List Nat:=[10,7,11,17,18,3,5,16,8,21,24,4,15,23,19,13,12,2,20,14,22,9,6,1]
def J6:List Nat:=[1,3,6,10,15,21,28,36,45,55,2,14,27,41,56,8,25,43,62,18,39,61,20,44]
def Jz:List (BitVec 64):=[0x0000000000000001,0x0000000000008082,0x800000000000808a,0x8000000080008000,0x000000000000808b,0x0000000080000001,0x8000000080008081,0x8000000000008009,0x000000000000008a,0x0000000000000088,0x0000000080008009,0x000000008000000a,0x000000008000808b,0x800000000000008b,0x8000000000008089,0x8000000000008003,0x8000000000008002,0x8000000000000080,0x000000000000800a,0x800000008000000a,0x8000000080008081,0x8000000000008080,0x0000000080000001,0x8000000080008008]
theorem dW(k:Nat)(h:k<24):Jx.getD k 0<25:=(by
 decide:∀k:Fin 24,Jx.getD k.1 0<25) ⟨k,h⟩
theorem Oi(k:Nat)(h:k<24):J6.getD k 0<64:=(by
 decide:∀k:Fin 24,J6.getD k.1 0<64) ⟨k,h⟩
structure Yx(w:I):Prop where nums:∀i,i<24->w.cell? ⟨2,i,H⟩=F (tK .u64 (U (Jz.getD i 0)))walk:∀i,i<24->w.cell? ⟨3,i,H⟩=F (tK sY ((Jx.getD i 0:Nat):Int))turns:∀i,i<24->w.cell? ⟨4,i,H⟩=F (tK sY ((J6.getD i 0:Nat):Int))
theorem Yx.grown{w w':I}{b:Nat}(h:Yx w)(hg:J w w' (F b))(hb:5<=b):Yx w':=⟨fun i hi=>hg.cell (h.nums i hi) (by
 simp;omega),fun i hi=>hg.cell (h.walk i hi) (by
 simp;omega),fun i hi=>hg.cell (h.turns i hi) (by
 simp;omega)⟩
def JX(st:List (BitVec 64)):Nat->List (BitVec 64)×BitVec 64|0=>(st,st.getD 1 0)|k+1=>((JX st k).1.set (Jx.getD k 0) (xH (JX st k).2 (J6.getD k 0)),(JX st k).1.getD (Jx.getD k 0) 0)
theorem aH(w:I)(b:Nat)(hb:5<=b)(st:List (BitVec 64))(h:St w b st)(ht:Yx w):rW tA 124 #[.pointer (F ⟨b,0,H⟩)] w fun e w'=>e=sP (pV #[])∧St w' b (JX st 24).1∧J w w' (F b):=by
 have c1:=h.cell 1 (by omega);go_enter Tryz.func124,Tryz.ntmps124;go_wp2;go_loopw[2,10](fun m i wr=>∃k:Nat,k<=24∧i=tK sY (k:Int)∧m=tK .u64 (U (JX st k).2)∧St wr b (JX st k).1∧J w wr (F b))(fun _ i _=>24-(intOf i).toNat);case atStart=>exact⟨0,by omega,rfl,by simp[JX],h,Qb _ _⟩
 case round=>obtain⟨k,hk,rfl,rfl,hst,hg⟩:=hrel;clear c1;by_cases hlt:k<24;(·have hT:=ht.grown hg hb;have hw:=dW k hlt;have hr:=Oi k hlt;have t1:=hT.walk k hlt;have t2:=hT.turns k hlt;have c:=hst.cell (Jx.getD k 0) hw;have hf:=hst.frozen;generalize hS:(JX st k).1=S at*;have HS:Hid ((JX st k).1=S):=hS;generalize hM:(JX st k).2=M at*;have HM:Hid ((JX st k).2=M):=hM;generalize hW:Jx.getD k 0=W at*;have HW:Hid (Jx.getD k 0=W):=hW;generalize hR:J6.getD k 0=R at*;have HR:Hid (J6.getD k 0=R):=hR;clear hS hM hW hR;generalize hX:S.getD W 0=X at*;have HX:Hid (S.getD W 0=X):=hX;clear hX hT ht h;(have i1:(W:Int)<25:=by omega);go_wp2_with fail;go_region_with(go_at_call 147;refine(LX M (R:Int) (by omega) (by omega) _).mono ?_;rintro e w'⟨rfl,rfl⟩);(all_goals go_wp2);go_roundw;(case rel=>refine⟨k+1,by omega,by go_num,?_,?_,Ql (Qi hg _ _)⟩;(·simp only[JX,HS.out,HW.out,HX.out]);·simp only[JX,HS.out,HM.out,HW.out,HR.out];exact(hst.set W _).drew);case measure=>simp[intOf];omega);·(obtain rfl:k=24:=by omega);go_wp2;go_end0;exact⟨rfl,hst,hg⟩
def BE(st:List (BitVec 64))(n:BitVec 64):List (BitVec 64):=let r:=VL (JX (jW (bS (Vf st 5)) st 5) 24).1 5;r.set 0 (r.getD 0 0^^^n)
theorem IP(w:I)(b:Nat)(hb:5<=b)(st:List (BitVec 64))(n:BitVec 64)(h:St w b st)(ht:Yx w):rW tA 103 #[.pointer (F ⟨b,0,H⟩),tK .u64 (U n)] w fun e w'=>e=sP (pV #[])∧St w' b (BE st n)∧J w w' (F b):=by
 go_enter Tryz.func103,Tryz.ntmps103;go_wp2_with fail;refine(bK _ b st h).mono ?_;rintro e w1⟨rfl,h1,g1⟩;go_wp2_with fail;refine(aH _ b hb _ h1 (ht.grown g1 hb)).mono ?_;rintro e w2⟨rfl,h2,g2⟩;go_wp2_with fail;refine(IV _ b _ h2).mono ?_;rintro e w3⟨rfl,h3,g3⟩;have g:=Qa g1 (Qa g2 g3);clear g1 g2 g3 h1 h2 h ht;have HR:Hid (BE st n=(VL (JX (jW (bS (Vf st 5)) st 5) 24).1 5).set 0 ((VL (JX (jW (bS (Vf st 5)) st 5) 24).1 5).getD 0 0^^^n)):=rfl;generalize VL (JX (jW (bS (Vf st 5)) st 5) 24).1 5=S at*;have c0:=h3.cell 0 (by omega);have hf:=h3.frozen 0;generalize hx:S.getD 0 0=x at*;clear hx;go_wp2_with fail;go_region;go_wp2_with fail;go_end0;refine⟨rfl,?_,Ql (Qi g 0 _)⟩;rw[HR.out,Zp];exact(h3.set 0 _).drew
def kG{α:Type}(p:α->Bool):List α->Option Nat|[]=>H|a::l=>if p a=O then F 0 else(kG p l).map (·+1)
def ZJ{α:Type}(p:α->Bool)(l:List α):Int:=match kG p l with|F i=>(i:Int)|none=>-1
theorem Te{α:Type}(p:α->Bool)(d:α):∀(l:List α)(m:Nat),m<l.length->(l.take m).any p=V->p (l.getD m d)=O->kG p l=F m|[],_,h,_,_=>by simp at h|a::l,0,_,_,h=>by have h':p a=O:=h;rw[kG,if_pos h']|a::l,m+1,h0,h1,h2=>by rw[sG,rS,rO]at h1;rw[kG,if_neg (by rw[h1.1];decide),Te p d l m (by simpa using h0) h1.2 (by simpa using h2)];rfl
theorem Fg{α:Type}(p:α->Bool):∀(l:List α),l.any p=V->kG p l=H|[],_=>rfl|a::l,h=>by rw[rS,rO]at h;rw[kG,if_neg (by rw[h.1];decide),Fg p l h.2];rfl
theorem qQ{α:Type}(p:α->Bool)(d:α)(l:List α)(m:Nat)(h:m<l.length)(h1:(l.take m).any p=V)(h2:p (l.getD m d)=O):ZJ p l=(m:Int):=by
 rw[ZJ,Te p d l m h h1 h2]
theorem KY{α:Type}(p:α->Bool)(l:List α)(h:l.any p=V):ZJ p l=-1:=by
 rw[ZJ,Fg p l h]
theorem U9{α:Type}(p:α->Bool)(d:α):∀(l:List α),l.any p=O->∃m,m<l.length∧(l.take m).any p=V∧p (l.getD m d)=O∧ZJ p l=(m:Int)|[],h=>by simp at h|a::l,h=>by by_cases ha:p a=O;(·exact⟨0,by simp,by simp,ha,qQ p d (a::l) 0 (by simp) (by simp) ha⟩);·(have hf:p a=V:=by simpa using ha);rw[rS,hf,Bool.false_or]at h;obtain⟨m,h1,h2,h3,_⟩:=U9 p d l h;(have e1:m+1<(a::l).length:=by simp;omega);(have e2:((a::l).take (m+1)).any p=V:=by rw[sG,rS,hf,h2];rfl);(have e3:p ((a::l).getD (m+1) d)=O:=by simpa using h3);exact⟨m+1,e1,e2,e3,qQ p d _ _ e1 e2 e3⟩
theorem kV{α:Type}(p:α->Bool)(l:List α):(ZJ p l==-1)=!(l.any p):=by
 cases h:l.any p with|false=>rw[KY p l h];rfl|true=>cases l with|nil=>simp at h|cons a l=>obtain⟨m,_,_,_,e⟩:=U9 p a (a::l) h;rw[e];(have:((m:Int)==-1)=V:=by simp);rw[this];rfl
theorem TJ{α:Type}(p:α->Bool)(l:List α):tI (0<=ZJ p l)=l.any p:=by
 cases h:l.any p with|false=>rw[KY p l h];rfl|true=>cases l with|nil=>simp at h|cons a l=>obtain⟨m,_,_,_,e⟩:=U9 p a (a::l) h;rw[e];simp
theorem K5(w:I)(v1 v2:N)(b1 b2:List UInt8)(h1:Qe w v1 b1)(h2:Qe w v2 b2):rW tA 43 #[v1,v2] w fun e w'=>e=sP (pO (tI (b1=b2)))∧w'=w:=by
 have c1:=UC w v1 b1 h1;have c2:=UC w v2 b2 h2;go_enter Tryz.func43,Tryz.ntmps43;go_wp2;go_ret;refine⟨?_,rfl⟩;have e:((qP b1).toList==(qP b2).toList)=tI (b1=b2):=by rw[Gc,Gc];by_cases h:b1=b2<;>simp[h]
 rw[<-e];rfl
theorem Pb(p:Ze):QY [] [p]=QC p:=by
 have h0:Q6 []=0:=(XH []).2 VM;rw[QY,if_pos h0,if_neg (by simp),Xb];by_cases h:QC p=0;·have h2:=Tj VM h Ws (by omega);have h3:(Zt [] p).length<=1:=Dn [] p;rw[if_neg (by omega)]at h2;rw[if_pos h,if_pos h2,Xb,h]
 ·rw[if_neg h]
def F3:Prop:=∀(w:I)(a:Option pD)(n cap:Nat),rW tA 50 #[tH a n cap] w fun e w'=>e=sP (tK sY (Qp n))∧J w w' H
theorem YK:F3:=by
 intro w a n cap;by_cases h1:1<=n;·by_cases h2:n<=16;(·rw[Qp,if_pos ⟨h1,h2⟩];(have t1:¬(n:Int)<1:=by omega);(have t2:¬(n:Int)>16:=by omega);go_enter pP,pE;go_wp2;go_ret;exact⟨rfl,Qb _ _⟩);·rw[Qp,if_neg (by omega)];(have t1:¬(n:Int)<1:=by omega);(have t2:(n:Int)>16:=by omega);go_enter pP,pE;go_wp2;go_ret;exact⟨rfl,Qb _ _⟩
 ·rw[Qp,if_neg (by omega)];(have t1:(n:Int)<1:=by omega);go_enter pP,pE;go_wp2;go_ret;exact⟨rfl,Qb _ _⟩
def Zs(l:PL)(k:List UInt8):Nat:=(l.takeWhile fun p=>YD p.1 k).length
def GM(l:PL)(k:List UInt8):Bool:=tI (Zs l k<l.length∧(l.getD (Zs l k) ([],[])).1=k)
def XN(l:PL)(k:List UInt8):Nat:=if GM l k=O then Zs l k+1 else Zs l k
theorem xY(l:PL)(k:List UInt8):Zs l k<=l.length:=by
 induction l with|nil=>simp[Zs]|cons p r ih=>unfold Zs at ih⊢;rw[pT];cases h:YD p.1 k with|true=>simpa using ih|false=>simp
theorem OG:∀(l:PL)(k:List UInt8)(i:Nat),i<=l.length->(∀j,j<i->YD (l.getD j ([],[])).1 k=O)->(i<l.length->YD (l.getD i ([],[])).1 k=V)->Zs l k=i|[],k,i,h,_,_=>by(obtain rfl:i=0:=by simpa using h);rfl|p::r,k,0,_,_,h2=>by have:=h2 (by simp);simp only[tX]at this;simp[Zs,this]|p::r,k,i+1,h,h1,h2=>by have h0:=h1 0 (by omega);simp only[tX]at h0;have:=OG r k i (by simpa using h) (fun j hj=>by simpa using h1 (j+1) (by omega)) (fun hi=>by simpa using h2 (by simpa using hi));unfold Zs at this⊢;rw[tM (p:=fun p:Pr=>YD p.1 k) h0];simpa using this
theorem N7:∀(l:PL)(k:List UInt8)(j:Nat),j<Zs l k->YD (l.getD j ([],[])).1 k=O|[],k,j,h=>by simp[Zs]at h|p::r,k,j,h=>by cases hk:YD p.1 k with|false=>simp[Zs,hk]at h|true=>cases j with|zero=>simpa using hk|succ j=>unfold Zs at h;rw[tM (p:=fun p:Pr=>YD p.1 k) hk]at h;have:=N7 r k j (by unfold Zs;simpa using h);simpa using this
theorem Mu:∀(l:PL)(k:List UInt8),Zs l k<l.length->YD (l.getD (Zs l k) ([],[])).1 k=V|[],k,h=>by simp at h|p::r,k,h=>by cases hk:YD p.1 k with|false=>simp[Zs,hk]|true=>(have e:Zs (p::r) k=Zs r k+1:=by unfold Zs;rw[tM (p:=fun p:Pr=>YD p.1 k) hk];simp);rw[e]at h⊢;have:=Mu r k (by simpa using h);simpa using this
theorem uL(l:PL)(k:List UInt8)(hr:Ur l)(j:Nat)(hj:j<l.length):YD (l.getD j ([],[])).1 k=tI (j<Zs l k):=by
 by_cases h:j<Zs l k;·rw[decide_eq_true h];exact N7 l k j h
 ·rw[decide_eq_false h];have h0:=Mu l k (by omega);by_cases e:j=Zs l k;(·rw[e];exact h0);·cases hk:YD (l.getD j ([],[])).1 k with|false=>rfl|true=>have:=Kf _ _ _ (UL l hr (Zs l k) j (by omega) hj) hk;rw[this]at h0;cases h0
theorem vV{l:PL}{k:List UInt8}(h:GM l k=O):Zs l k<l.length∧(l.getD (Zs l k) ([],[])).1=k:=by
 simpa only[GM,decide_eq_true_eq]using h
theorem yR(l:PL)(k:List UInt8):Zs l k<=XN l k∧XN l k<=l.length∧XN l k<=Zs l k+1:=by
 have:=xY l k;unfold XN;by_cases h:GM l k=O;·rw[if_pos h];have:=(vV h).1;omega
 ·rw[if_neg h];omega
theorem F6(l:PL)(k:List UInt8)(hr:Ur l)(j:Nat)(hj:j<l.length)(he:(l.getD j ([],[])).1=k):GM l k=O∧j=Zs l k:=by
 have hp:Zs l k=j:=by refine OG l k j (by omega) (fun i hi=>?_) (fun _=>?_);(·rw[<-he];exact UL l hr i j hi hj);·rw[he];exact XX k
 refine⟨?_,hp.symm⟩;rw[GM,hp];exact decide_eq_true ⟨hj,he⟩
theorem cO(l:PL)(k:List UInt8)(hr:Ur l):zS l k=if GM l k=O then F (l.getD (Zs l k) ([],[])).2 else H:=by
 by_cases h:GM l k=O;·rw[if_pos h];obtain⟨h1,h2⟩:=vV h;refine Oy l k _ h1 (fun j hj e=>?_) h2;have:=N7 l k j hj;rw[e,XX]at this;cases this
 ·rw[if_neg h];exact DN l k fun j hj e=>h (F6 l k hr j hj e).1
theorem D5(l:PL)(p:Pr):Kd l p=l.take (Zs l p.1)++([p]++l.drop (XN l p.1)):=by
 rw[LQ l p (Zs l p.1) (xY l p.1) (fun j hj=>N7 l p.1 j hj) (Mu l p.1)];by_cases h:Zs l p.1<l.length∧(l.getD (Zs l p.1) ([],[])).1=p.1;·rw[if_pos h,XN,if_pos (by rw[GM];exact decide_eq_true h),rV,if_pos h.1];rfl
 ·rw[if_neg h,XN,if_neg (by rw[GM];simpa using h)]
theorem I7(l:PL)(p:Pr):(Kd l p).length=Zs l p.1+1+(l.length-XN l p.1):=by
 rw[D5];have h1:=xY l p.1;simp;omega
theorem IR(l:PL)(p:Pr)(hl:l.length<=60):(60<(Kd l p).length)↔(Zs l p.1=XN l p.1∧l.length=60):=by
 rw[I7];have:=yR l p.1;omega
theorem Cp(l:PL)(f:Pr->Bool)(n:Nat)(hn:n<=l.length)(h1:∀j,j<n->f (l.getD j ([],[]))=V)(h2:∀j,n<=j->j<l.length->f (l.getD j ([],[]))=O):l.filter f=l.drop n:=by
 have e:l=l.take n++l.drop n:=(tE n l).symm;have ha:(l.take n).filter f=[]:=by rw[sJ];intro q hq;obtain⟨j,hj,rfl⟩:=L.1 hq;(have hjn:j<n:=by simp at hj;omega);have:=h1 j hjn;rw[sE];rw[show l[j]'(by omega)=l.getD j ([],[])by simp[show j<l.length by omega],this];simp
 have hb:(l.drop n).filter f=l.drop n:=by rw[tN];intro q hq;obtain⟨j,hj,rfl⟩:=L.1 hq;(have hjn:n+j<l.length:=by simp at hj;omega);rw[sM,show l[n+j]=l.getD (n+j) ([],[])by simp[hjn]];exact h2 _ (by omega) hjn
 conv=>lhs;rw[e]
 rw[sI,ha,hb,pA]
theorem CD(l:PL)(f:Pr->Bool)(n:Nat)(hn:n<=l.length)(h1:∀j,j<n->f (l.getD j ([],[]))=O)(h2:∀j,n<=j->j<l.length->f (l.getD j ([],[]))=V):l.filter f=l.take n:=by
 have e:l=l.take n++l.drop n:=(tE n l).symm;have hb:(l.drop n).filter f=[]:=by rw[sJ];intro q hq;obtain⟨j,hj,rfl⟩:=L.1 hq;(have hjn:n+j<l.length:=by simp at hj;omega);rw[sM,show l[n+j]=l.getD (n+j) ([],[])by simp[hjn],h2 _ (by omega) hjn];simp
 have ha:(l.take n).filter f=l.take n:=by rw[tN];intro q hq;obtain⟨j,hj,rfl⟩:=L.1 hq;(have hjn:j<n:=by simp at hj;omega);rw[sE,show l[j]'(by omega)=l.getD j ([],[])by simp[show j<l.length by omega]];exact h1 j hjn
 conv=>lhs;rw[e]
 rw[sI,ha,hb,tV]
theorem OK(l:PL)(k:List UInt8)(hr:Ur l):kH l k=l.take (Zs l k)++l.drop (XN l k):=by
 by_cases h:GM l k=O;·obtain⟨h1,h2⟩:=vV h;(have e:l=l.take (Zs l k)++(l.getD (Zs l k) ([],[])::l.drop (Zs l k+1)):=by(conv=>lhs;rw[<-tE (Zs l k) l,sD h1]);simp[h1]);have hne:∀j,j<l.length->j≠Zs l k->(l.getD j ([],[])).1≠k:=fun j hj hn e=>hn (F6 l k hr j hj e).2;(have ha:(l.take (Zs l k)).filter (fun q=>!(q.1==k))=l.take (Zs l k):=by rw[tN];intro q hq;obtain⟨j,hj,rfl⟩:=L.1 hq;(have hjn:j<Zs l k:=by simp at hj;omega);rw[sE,show l[j]'(by omega)=l.getD j ([],[])by simp[show j<l.length by omega]];simpa using hne j (by omega) (by omega));(have hb:(l.drop (Zs l k+1)).filter (fun q=>!(q.1==k))=l.drop (Zs l k+1):=by rw[tN];intro q hq;obtain⟨j,hj,rfl⟩:=L.1 hq;(have hjn:Zs l k+1+j<l.length:=by simp at hj;omega);rw[sM,show l[Zs l k+1+j]=l.getD (Zs l k+1+j) ([],[])by simp[hjn]];simpa using hne _ hjn (by omega));rw[XN,if_pos h,kH];(conv=>lhs;rw[e]);rw[sI,pF (by simpa using h2),ha,hb]
 ·rw[XN,if_neg h,tE,kH,tN];intro q hq;obtain⟨j,hj,rfl⟩:=L.1 hq;have:=fun e=>h (F6 l k hr j hj e).1;rw[show l.getD j ([],[])=l[j]by simp[hj]]at this;simpa using this
theorem Fn(l:PL)(k:List UInt8)(hr:Ur l)(j:Nat)(hj:j<l.length):YD k (l.getD j ([],[])).1=tI (XN l k<=j):=by
 have hp:=uL l k hr j hj;have hn:=yR l k;by_cases h1:j<Zs l k;·rw[decide_eq_true h1]at hp;rw[Hk _ _ hp,decide_eq_false (by omega)]
 ·rw[decide_eq_false h1]at hp;by_cases e:(l.getD j ([],[])).1=k;(·obtain⟨h2,h3⟩:=F6 l k hr j hj e;rw[e,XX,XN,if_pos h2,decide_eq_false (by omega)]);·rw[UF _ _ hp e];by_cases h:GM l k=O;(·rw[XN,if_pos h,decide_eq_true (by by_cases hjp:j=Zs l k;(·exact absurd (by rw[hjp];exact(vV h).2) e);·omega)]);·rw[XN,if_neg h,decide_eq_true (by omega)]
theorem BL(l:PL)(f t:List UInt8)(hr:Ur l):Ve l f t=(l.take (max (Zs l f) (XN l t))).drop (Zs l f):=by
 have h1:=xY l f;have h2:=yR l t;have e:Ve l f t=(l.filter fun q=>!YD t q.1).filter fun q=>!YD q.1 f:=by rw[Ve,List.filter_filter]
 rw[e,CD l _ (XN l t) h2.2.1 (fun j hj=>by rw[Fn l t hr j (by omega),decide_eq_false (by omega)];rfl) (fun j hj hjl=>by rw[Fn l t hr j hjl,decide_eq_true hj];rfl)];have hd:∀(n:Nat),n<=l.length->(l.take n).filter (fun q=>!YD q.1 f)=(l.take n).drop (Zs l f):=by intro n hn;by_cases hc:Zs l f<=n;(·refine Cp _ _ _ (by simp;omega) (fun j hj=>?_) (fun j hj hjl=>?_);(·(have:(l.take n).getD j ([],[])=l.getD j ([],[]):=by simp[show j<n by omega]);rw[this,uL l f hr j (by omega),decide_eq_true hj];rfl);·(have hjn:j<n:=by simp at hjl;omega);(have:(l.take n).getD j ([],[])=l.getD j ([],[]):=by simp[hjn]);rw[this,uL l f hr j (by omega),decide_eq_false (by omega)];rfl);·rw[tW (by simp;omega),sJ];intro q hq;obtain⟨j,hj,rfl⟩:=L.1 hq;(have hjn:j<n:=by simp at hj;omega);rw[sE,show l[j]'(by omega)=l.getD j ([],[])by simp[show j<l.length by omega],uL l f hr j (by omega),decide_eq_true (by omega)];simp
 rw[hd _ h2.2.1];by_cases hc:Zs l f<=XN l t;·rw[Nat.max_eq_right hc]
 ·rw[Nat.max_eq_left (by omega),tW (by simp;omega),tW (by simp;omega)]
theorem NK:∀(t:FL)(p:Tn)(k:Nat),k<=t.length->(∀j,j<k->YD (t.getD j ([],[])).1 p.1=O)->(k<t.length->YD (t.getD k ([],[])).1 p.1=V)->Jp t p=if k<t.length∧(t.getD k ([],[])).1=p.1then t.set k p else t.take k++([p]++t.drop k)|[],p,k,hk,_,_=>by(obtain rfl:k=0:=by simpa using hk);simp[Jp]|q::r,p,0,_,_,h2=>by have h:=h2 (by simp);simp only[tX]at h;rw[Jp,if_neg (by rw[h];simp)];by_cases e:q.1=p.1;(·rw[if_pos e,if_pos ⟨by simp,by simpa using e⟩];simp);·rw[if_neg e,if_neg (fun h=>e (by simpa using h.2))];simp|q::r,p,k+1,hk,h1,h2=>by have h:=h1 0 (by omega);simp only[tX]at h;rw[Jp,if_pos h,NK r p k (by simpa using hk) (fun j hj=>by simpa using h1 (j+1) (by omega)) (fun hk=>by simpa using h2 (by simpa using hk))];by_cases e:k<r.length∧(r.getD k ([],[])).1=p.1;(·rw[if_pos e,if_pos ⟨by simpa using e.1,by simpa using e.2⟩];simp);·rw[if_neg e,if_neg (fun h=>e ⟨by simpa using h.1,by simpa using h.2⟩)];simp
def Qz(l:FL)(k:List UInt8):Nat:=(l.takeWhile fun p=>YD p.1 k).length
def J5(l:FL)(k:List UInt8):Bool:=tI (Qz l k<l.length∧(l.getD (Qz l k) ([],[])).1=k)
def QO(l:FL)(k:List UInt8):Nat:=if J5 l k=O then Qz l k+1 else Qz l k
theorem vA(l:FL)(k:List UInt8):Qz l k<=l.length:=by
 induction l with|nil=>simp[Qz]|cons p r ih=>unfold Qz at ih⊢;rw[pT];cases h:YD p.1 k with|true=>simpa using ih|false=>simp
theorem Dk:∀(l:FL)(k:List UInt8)(i:Nat),i<=l.length->(∀j,j<i->YD (l.getD j ([],[])).1 k=O)->(i<l.length->YD (l.getD i ([],[])).1 k=V)->Qz l k=i|[],k,i,h,_,_=>by(obtain rfl:i=0:=by simpa using h);rfl|p::r,k,0,_,_,h2=>by have:=h2 (by simp);simp only[tX]at this;simp[Qz,this]|p::r,k,i+1,h,h1,h2=>by have h0:=h1 0 (by omega);simp only[tX]at h0;have:=Dk r k i (by simpa using h) (fun j hj=>by simpa using h1 (j+1) (by omega)) (fun hi=>by simpa using h2 (by simpa using hi));unfold Qz at this⊢;rw[tM (p:=fun p:Tn=>YD p.1 k) h0];simpa using this
theorem uY:∀(l:FL)(k:List UInt8)(j:Nat),j<Qz l k->YD (l.getD j ([],[])).1 k=O|[],k,j,h=>by simp[Qz]at h|p::r,k,j,h=>by cases hk:YD p.1 k with|false=>simp[Qz,hk]at h|true=>cases j with|zero=>simpa using hk|succ j=>unfold Qz at h;rw[tM (p:=fun p:Tn=>YD p.1 k) hk]at h;have:=uY r k j (by unfold Qz;simpa using h);simpa using this
theorem PJ:∀(l:FL)(k:List UInt8),Qz l k<l.length->YD (l.getD (Qz l k) ([],[])).1 k=V|[],k,h=>by simp at h|p::r,k,h=>by cases hk:YD p.1 k with|false=>simp[Qz,hk]|true=>(have e:Qz (p::r) k=Qz r k+1:=by unfold Qz;rw[tM (p:=fun p:Tn=>YD p.1 k) hk];simp);rw[e]at h⊢;have:=PJ r k (by simpa using h);simpa using this
theorem Wm(l:FL)(k:List UInt8)(hr:Yt l)(j:Nat)(hj:j<l.length):YD (l.getD j ([],[])).1 k=tI (j<Qz l k):=by
 by_cases h:j<Qz l k;·rw[decide_eq_true h];exact uY l k j h
 ·rw[decide_eq_false h];have h0:=PJ l k (by omega);by_cases e:j=Qz l k;(·rw[e];exact h0);·cases hk:YD (l.getD j ([],[])).1 k with|false=>rfl|true=>have:=Kf _ _ _ (qV l hr (Qz l k) j (by omega) hj) hk;rw[this]at h0;cases h0
theorem yW{l:FL}{k:List UInt8}(h:J5 l k=O):Qz l k<l.length∧(l.getD (Qz l k) ([],[])).1=k:=by
 simpa only[J5,decide_eq_true_eq]using h
theorem Pv(l:FL)(k:List UInt8):Qz l k<=QO l k∧QO l k<=l.length∧QO l k<=Qz l k+1:=by
 have:=vA l k;unfold QO;by_cases h:J5 l k=O;·rw[if_pos h];have:=(yW h).1;omega
 ·rw[if_neg h];omega
theorem P6(l:FL)(k:List UInt8)(hr:Yt l)(j:Nat)(hj:j<l.length)(he:(l.getD j ([],[])).1=k):J5 l k=O∧j=Qz l k:=by
 have hp:Qz l k=j:=by refine Dk l k j (by omega) (fun i hi=>?_) (fun _=>?_);(·rw[<-he];exact qV l hr i j hi hj);·rw[he];exact XX k
 refine⟨?_,hp.symm⟩;rw[J5,hp];exact decide_eq_true ⟨hj,he⟩
theorem Wn(l:FL)(k:List UInt8)(hr:Yt l):xE l k=if J5 l k=O then F (l.getD (Qz l k) ([],[])).2 else H:=by
 by_cases h:J5 l k=O;·rw[if_pos h];obtain⟨h1,h2⟩:=yW h;refine CU l k _ h1 (fun j hj e=>?_) h2;have:=uY l k j hj;rw[e,XX]at this;cases this
 ·rw[if_neg h];exact T6 l k fun j hj e=>h (P6 l k hr j hj e).1
theorem Rx(l:FL)(p:Tn):Jp l p=l.take (Qz l p.1)++([p]++l.drop (QO l p.1)):=by
 rw[NK l p (Qz l p.1) (vA l p.1) (fun j hj=>uY l p.1 j hj) (PJ l p.1)];by_cases h:Qz l p.1<l.length∧(l.getD (Qz l p.1) ([],[])).1=p.1;·rw[if_pos h,QO,if_pos (by rw[J5];exact decide_eq_true h),rV,if_pos h.1];rfl
 ·rw[if_neg h,QO,if_neg (by rw[J5];simpa using h)]
theorem SJ(l:FL)(p:Tn):(Jp l p).length=Qz l p.1+1+(l.length-QO l p.1):=by
 rw[Rx];have h1:=vA l p.1;simp;omega
theorem TQ(l:FL)(p:Tn)(hl:l.length<=8):(8<(Jp l p).length)↔(Qz l p.1=QO l p.1∧l.length=8):=by
 rw[SJ];have:=Pv l p.1;omega
theorem Ak(l:FL)(k:List UInt8)(hr:Yt l):kQ l k=l.take (Qz l k)++l.drop (QO l k):=by
 by_cases h:J5 l k=O;·obtain⟨h1,h2⟩:=yW h;(have e:l=l.take (Qz l k)++(l.getD (Qz l k) ([],[])::l.drop (Qz l k+1)):=by(conv=>lhs;rw[<-tE (Qz l k) l,sD h1]);simp[h1]);have hne:∀j,j<l.length->j≠Qz l k->(l.getD j ([],[])).1≠k:=fun j hj hn e=>hn (P6 l k hr j hj e).2;(have ha:(l.take (Qz l k)).filter (fun q=>!(q.1==k))=l.take (Qz l k):=by rw[tN];intro q hq;obtain⟨j,hj,rfl⟩:=L.1 hq;(have hjn:j<Qz l k:=by simp at hj;omega);rw[sE,show l[j]'(by omega)=l.getD j ([],[])by simp[show j<l.length by omega]];simpa using hne j (by omega) (by omega));(have hb:(l.drop (Qz l k+1)).filter (fun q=>!(q.1==k))=l.drop (Qz l k+1):=by rw[tN];intro q hq;obtain⟨j,hj,rfl⟩:=L.1 hq;(have hjn:Qz l k+1+j<l.length:=by simp at hj;omega);rw[sM,show l[Qz l k+1+j]=l.getD (Qz l k+1+j) ([],[])by simp[hjn]];simpa using hne _ hjn (by omega));rw[QO,if_pos h,kQ];(conv=>lhs;rw[e]);rw[sI,pF (by simpa using h2),ha,hb]
 ·rw[QO,if_neg h,tE,kQ,tN];intro q hq;obtain⟨j,hj,rfl⟩:=L.1 hq;have:=fun e=>h (P6 l k hr j hj e).1;rw[show l.getD j ([],[])=l[j]by simp[hj]]at this;simpa using this
theorem gN(l:FL)(k:List UInt8)(hr:Yt l):YN l k=if J5 l k=O then(l.getD (Qz l k) ([],[])).2 else[]:=by
 unfold YN;rw[Wn l k hr];by_cases h:J5 l k=O;·rw[if_pos h,if_pos h];rfl
 ·rw[if_neg h,if_neg h];rfl
theorem DQ(l:FL)(k:List UInt8)(hr:Yt l):((l.take (QO l k)).drop (Qz l k)=[]∧YN l k=[]∧QO l k=Qz l k)∨(∃t,(l.take (QO l k)).drop (Qz l k)=[t]∧YN l k=t.2∧QO l k=Qz l k+1):=by
 rw[gN l k hr];by_cases h:J5 l k=O;·right;obtain⟨h1,h2⟩:=yW h;refine⟨l.getD (Qz l k) ([],[]),?_,by rw[if_pos h],by rw[QO,if_pos h]⟩;rw[QO,if_pos h,List.take_succ_eq_append_getElem h1,r8 (by simp;omega),tW (by simp;omega),pA];simp[h1]
 ·left;refine⟨?_,by rw[if_neg h],by rw[QO,if_neg h]⟩;rw[QO,if_neg h,tW (by simp;omega)]
def dB:Prop:=∀(w:I)(a:Option pD)(n cap:Nat),rW tA 24 #[tH a n cap] w fun e w'=>e=sP (tK sY (Qt n))∧J w w' H
def L2:Prop:=∀(w:I)(v:N)(r:Rq),UD w->Xc w v r->yK r->rW tA 30 #[v] w fun e w'=>e=sP (tK sY (X9 r))∧J w w' H
end Go.Proofs.YtieoehicoocpjaaGreatDoor
