/-
  Texts of this proof, joined, with few blanks: Base, LineF, SlM, PartM, Keys, PlaceM, Trees, TreeF, FitsF, ForestF, RdF, WrM0, TapeF, TapeG, KTree, KPure, ForestK, ForestE, WireF, WireG, LineG, RqMem, RqBox, RqEn, RdM0, ProofM, Sides, ForkF, Bits, Lanes, Cols, Move, Round, IdxF, EqB, ApplyOne, CheckC, CheckP, PosF, FPosF, FCName, RqCk.
-/
import Derived.WalkKit
import Derived.WalkSpells
import Derived.WalkLawsBesides
import Derived.BigRegion
import Derived.Deep.QuietTactic
import Derived.BigQuiet
import Derived.Deep.RegionHeld3
import Derived.Deep.DeepCutAuto
import Derived.Lib.Strings
import Derived.Test.YtjnapechlkbfmaaGreatDoorChecked
set_option maxRecDepth 100000
set_option maxHeartbeats 8000000
open Array renaming getElem?_eq_some_iff->tL,getElem?_modify->tR,ext->oK
open BitVec renaming ofInt->sD,ofInt_natCast->pN
open Bool renaming true->L,false->tA,or_eq_false_iff->rP,and_eq_true->pZ,or_eq_true->oE
open Classical renaming byContradiction->sO
open Decidable renaming decide->tI
open Go renaming World->I,Value->O,TypeId->sY,heap_alloc_new->rK,Calls->rY,Addr->pG,maxLen->oM,info_parts->oN
open Go.Ending renaming returned->sQ
open Go.IntKind renaming i64->rA,u64->rG,u8->rH,wrap_u64->rW
open Go.Obj renaming cells->tJ
open Go.Op renaming bytesLess->sI
open Go.Proofs.Tryz renaming prog->tB,underlying24->sM,ntmps68->pI,func68->pR
open Go.Value renaming slice->tH,int->tK,agg->pP,bool->pQ,tuple->pX,ownBlock->oD
open Go.Value.slice renaming injEq->rD
open Go.World renaming grownBy->J,setCell->tG,cell?->sA,frozen?->sX,grownBy_alloc->rS
open Int renaming toNat_natCast->rJ,le_refl->oL
open List renaming mem_iff_getElem->N,length_append->T,eq_nil_of_length_eq_zero->V,append_assoc->tC,take_append_drop->tE,takeWhile_cons_of_pos->tM,filter_eq_self->tN,mem_cons->tP,append_nil->tV,drop_eq_nil_of_le->tW,getD_cons_zero->tX,pairwise_cons->tY,mem_cons_of_mem->tZ,getElem_mem->sC,drop_eq_getElem_cons->sF,getElem_take->sG,take_succ_cons->sH,filter_append->sJ,filter_eq_nil_iff->sK,getElem_drop->sN,pairwise_singleton->sR,filter_cons_of_neg->sS,getElem?_map->sV,length_filter_le->sZ,flatMap_cons->rI,getElem?_eq_getElem->rM,take_left'->rN,drop_left'->rO,any_cons->rT,mem_cons_self->rV,set_eq_take_append_cons_drop->rX,length_cons->r7,mem_filter->r8,take_append_of_le_length->pA,drop_append_of_le_length->pB,nil_append->pC,getElem?_eq_some_iff->pD,pairwise_iff_getElem->pE,mem_of_find?_eq_some->pF,filter_cons_of_pos->pH,take_of_length_le->pJ,find?_cons_of_pos->pL,find?_cons_of_neg->pM,drop_succ_cons->pT,takeWhile_cons->pV,getElem?_take->pW,length_drop->oC,map_cons->oG,take_nil->oH
open List.Pairwise renaming cons->tU,filter->sU,nil->rB
open Nat renaming lt_of_lt_of_le->tS,le_refl->sB,testBit_lt_two_pow->sW,pow_le_pow_right->rC,le_trans->rF,testBit_div_two_pow->pK,div_div_eq_div_mul->pO,eq_of_testBit_eq->pS,min_eq_left->oF,sub_self->oI,mul_one->oJ
open Option renaming some->F,none->H,map_some->sP
open Option.some renaming injEq->tQ,inj->rU
open Prod.mk renaming injEq->sE
open UInt8 renaming ofNat->tD,lt_iff_toNat_lt->sL,toNat_ofNat'->pU,toNat_inj->pY
namespace Go.Proofs.YtjnapechlkbfmaaGreatDoor
open Go.RowKit
section
theorem Qb(w:I)(r:Option Nat):J w w r:=⟨rfl,rfl,rfl,sB _,fun _ _ _=>rfl⟩
theorem Qa{w w1 w2:I}{r:Option Nat}(h:J w w1 r)(k:J w1 w2 r):J w w2 r:=⟨k.os.trans h.os,k.tape.trans h.tape,k.output.trans h.output,rF h.size k.size,fun i hi hn=>(k.block i (tS hi h.size) hn).trans (h.block i hi hn)⟩
theorem Ql{w w1:I}{r:Option Nat}(h:J w w1 r):J w w1.drew r:=⟨h.os,h.tape,h.output,h.size,h.block⟩
theorem Qn{w w1:I}{r:Option Nat}(h:J w w1 r)(n:Nat):J w (w1.drewN n) r:=⟨h.os,h.tape,h.output,h.size,h.block⟩
theorem Qi{w w1:I}{b:Nat}(h:J w w1 (F b))(i:Nat)(v:O):J w (tG w1 ⟨b,i,H⟩ v) (F b):=Qa h ⟨rfl,rfl,rfl,by
 simp[tG],fun k _ hn=>Below.heap_setCell _ _ _ _ (by
 intro e;exact hn (by rw[e]))⟩
theorem Qx{w w1:I}{r:Option Nat}(h:J w w1 r)(o:Obj):J w (w1.alloc o) r:=Qa h (rS _ _ _)
theorem JB{w w1 w2:I}{r:Option Nat}{c:Nat}(h:J w w1 r)(hc:w.heap.size<=c)(k:J w1 w2 (F c)):J w w2 r:=⟨k.os.trans h.os,k.tape.trans h.tape,k.output.trans h.output,rF h.size k.size,fun i hi hn=>(k.block i (tS hi h.size) (by
 simp;omega)).trans (h.block i hi hn)⟩
theorem Qc{w w1:I}{r:Option Nat}(h:J w w1 r)(c:Nat)(hc:w.heap.size<=c)(i:Nat)(v:O):J w (tG w1 ⟨c,i,H⟩ v) r:=JB h hc (Qi (Qb _ _) i v)
theorem ZM(b o n:Nat):(⟨b,o,H⟩:pG).add n=⟨b,o+n,H⟩:=by
 unfold Addr.add;split;·simp_all
 ·rfl
theorem aV(w:I):(sizeOf (tB.elem 24)).run tB w=.ok 1 w:=by
 kernel_rfl
theorem bM(W:I)(pb o len cap:Nat)(l:Int)(n:Nat)(hn:l=(n:Int))(h1:n<=len)(hc:n<cap):(Instr.slice 24 (tH (F ⟨pb,o,H⟩) len cap) (F (tK rA l)) H H).run tB W=.ok (tH (F ⟨pb,o+n,H⟩) (len-n) (cap-n)) W:=by
 subst hn;rw[run_slice_l _ _ _ _ _ (by kernel_rfl) _ _ (by omega) (by omega),aV];simp only[Result.andThen,sliced,rJ,sP,oJ,ZM];rw[if_neg (by omega)]
theorem SU(W:I)(pb o len cap:Nat)(l:Int)(n:Nat)(hn:l=(n:Int))(hc:n<=cap)(h0:0<cap):(Instr.slice 24 (tH (F ⟨pb,o,H⟩) len cap) H (F (tK rA l)) H).run tB W=.ok (tH (F ⟨pb,o,H⟩) n cap) W:=by
 subst hn;rw[run_slice_h _ _ _ _ _ (by kernel_rfl) _ _ (by omega) (by omega),aV];simp only[Result.andThen,sliced,rJ,sP,oJ,ZM];rw[if_neg (by omega)];simp
def KP(w:I)(pb o:Nat)(bs:List UInt8):Prop:=∀i,i<bs.length->w.cell? ⟨pb,o+i,H⟩=F (tK rH ((bs.getD i 0).toNat:Int))
theorem KP.drew{w:I}{pb o:Nat}{bs:List UInt8}(h:KP w pb o bs):KP w.drew pb o bs:=h
theorem KP.grown{w w':I}{pb o:Nat}{bs:List UInt8}{r:Option Nat}(h:KP w pb o bs)(hg:J w w' r)(hr:F pb≠r):KP w' pb o bs:=fun i hi=>hg.cell (h i hi) hr
def ZX(bs:List UInt8):Array O:=(bs.map fun c=>tK rH (c.toNat:Int)).toArray
def ZL(w:I)(b:Nat)(bs:List UInt8):Prop:=∃t,w.heap[b]?=F (tJ (ZX bs) t (0,0))
section
variable{w:I}{b:Nat}{bs:List UInt8}
theorem ZL.cell(h:ZL w b bs)(i:Nat)(hi:i<bs.length):w.cell? ⟨b,i,H⟩=F (tK rH ((bs.getD i 0).toNat:Int)):=by
 obtain⟨t,hb⟩:=h;simp[sA,hb,ZX,sV,rM hi]
theorem ZL.frozen(h:ZL w b bs)(i:Nat):w.frozen? ⟨b,i,H⟩=tA:=by
 obtain⟨t,hb⟩:=h;simp[sX,hb]
theorem ZL.lt(h:ZL w b bs):b<w.heap.size:=by
 obtain⟨t,hb⟩:=h;exact(tL.1 hb).1
theorem Bl(bs:List UInt8)(i:Nat)(x:UInt8):(ZX bs).setIfInBounds i (tK rH (x.toNat:Int))=ZX (bs.set i x):=by
 simp[ZX]
theorem ZL.set(h:ZL w b bs)(i:Nat)(x:UInt8):ZL (tG w ⟨b,i,H⟩ (tK rH (x.toNat:Int))) b (bs.set i x):=by
 obtain⟨t,hb⟩:=h;refine⟨t,?_⟩;simp only[tG,tR,if_true,hb,sP];simp[Bl]
theorem ZL.drewN(h:ZL w b bs)(k:Nat):ZL (w.drewN k) b bs:=h
theorem ZL.drew(h:ZL w b bs):ZL w.drew b bs:=h
theorem ZL.alloc(h:ZL w b bs)(o:Obj):ZL (w.alloc o) b bs:=by
 have hl:=h.lt;obtain⟨t,hb⟩:=h;exact⟨t,by rw[Below.heap_alloc _ _ _ hl];exact hb⟩
theorem ZL.grown(h:ZL w b bs){w':I}{r:Option Nat}(hg:J w w' r)(hr:F b≠r):ZL w' b bs:=by
 have hl:=h.lt;obtain⟨t,hb⟩:=h;exact⟨t,by rw[hg.block b hl hr];exact hb⟩
theorem ZL.new(w:I)(t:sY)(bs:List UInt8):ZL (w.alloc (tJ (ZX bs) t)) w.heap.size bs:=⟨t,rK w _⟩
theorem ZL.at(h:ZL w b bs)(o:Nat)(cs:List UInt8)(hc:∀i,i<cs.length->o+i<bs.length∧bs.getD (o+i) 0=cs.getD i 0):KP w b o cs:=by
 intro i hi;rw[h.cell (o+i) (hc i hi).1,(hc i hi).2]
end
def Qe(w:I)(v:O)(bs:List UInt8):Prop:=∃a cap,v=tH a bs.length cap∧bs.length<=cap∧((bs=[]∧(a=H->cap=0))∨∃b o,a=F ⟨b,o,H⟩∧KP w b o bs)
theorem Qe.grown{w w':I}{v:O}{bs:List UInt8}(h:Qe w v bs)(hg:J w w' H):Qe w' v bs:=by
 obtain⟨a,cap,rfl,hc,h⟩:=h;refine⟨a,cap,rfl,hc,?_⟩;rcases h with h|⟨b,o,rfl,h⟩;·exact .inl h
 ·exact .inr ⟨b,o,rfl,h.grown hg (by simp)⟩
theorem Qe.alloc{w:I}{v:O}{bs:List UInt8}(h:Qe w v bs)(o:Obj):Qe (w.alloc o) v bs:=h.grown (rS _ _ _)
theorem Qe.drew{w:I}{v:O}{bs:List UInt8}(h:Qe w v bs):Qe w.drew v bs:=h
theorem Qe.drewN{w:I}{v:O}{bs:List UInt8}(h:Qe w v bs)(n:Nat):Qe (w.drewN n) v bs:=h
theorem ZL.slice{w:I}{b:Nat}{bs:List UInt8}(h:ZL w b bs)(cap:Nat)(hc:bs.length<=cap):Qe w (tH (F ⟨b,0,H⟩) bs.length cap) bs:=⟨_,cap,rfl,hc,.inr ⟨b,0,rfl,h.at 0 bs fun i hi=>by
 simpa using hi⟩⟩
theorem Qw(w:I):Qe w (tH H 0 0) []:=⟨H,0,rfl,sB _,.inl ⟨rfl,fun _=>rfl⟩⟩
def Um(n:Nat):List UInt8:=List.replicate n 0
theorem Nf(n:Nat):(Um n).length=n:=by
 simp[Um]
theorem Sb(n:Nat):madeCells (tK rH 0).cells (n*1)=ZX (Um n):=by
 apply oK;·simp[size_madeCells,ZX,Um]
 ·intro i h1 h2;simp[madeCells,ZX,Um,Value.cells,Nat.mod_one]
theorem fO:(tB.info? 5).map (fun i=>(i.zero,i.size,i.bytes))=F (F (tK rH 0),1,1):=by
 kernel_rfl
theorem fK:(tB.info? 5).map (·.size)=F 1:=by
 kernel_rfl
theorem AW(W:I)(c:Int)(n:Nat)(hc:c=(n:Int))(hn:n<=1000000):(Instr.makeSlice 24 (tK rA c) (tK rA c)).run tB W=.ok (tH (F ⟨W.heap.size,0,H⟩) n n) (W.alloc (tJ (ZX (Um n)) 5)):=by
 subst hc;obtain⟨i0,hi,hz0,hz1,hz2⟩:=oN fO;have h:=run_make (P:=tB) W 24 5 i0 (tK rH 0) sM hi hz0 rA rA (n:Int) (n:Int) (by omega) (oL _) (by rw[hz2];omega) (by omega);rw[h,hz1,rJ,Sb]
theorem jX(bs:List UInt8):∀v∈(bs.map fun c=>tK rH (c.toNat:Int)),v.oneCell'=L:=by
 intro v hv;obtain⟨c,_,rfl⟩:=List.mem_map.1 hv;rfl
theorem Mf(w:I)(X Y:Array O)(t:sY):(w.alloc (tJ X t)).setRow w.heap.size Y=w.alloc (tJ Y t):=by
 simp only[World.setRow,World.alloc];congr 1;apply oK;·simp
 ·intro i h1 h2;simp only[Array.getElem_modify,Array.getElem_push];(have hi:i<w.heap.size+1:=by simpa using h2);split<;>split<;>first|rfl|omega|(exfalso;omega)|simp_all
theorem Sx(w:I)(a:Option pG)(bs:List UInt8)(cap n m ty:Nat)(hn:bs.length<=n)(hs:Qe w (tH a bs.length cap) bs):(Builtin.copy_ #[24,24] ty #[tH (F ⟨w.heap.size,0,H⟩) n m,tH a bs.length cap]).run tB (w.alloc (tJ (ZX (Um n)) 5))=.ok (tK rA (bs.length:Int)) (w.alloc (tJ (ZX (bs++Um (n-bs.length))) 5)):=by
 obtain⟨a',cap',e,hc,h⟩:=hs.alloc (tJ (ZX (Um n)) 5);simp only[rD,true_and]at e;obtain⟨rfl,rfl⟩:=e;by_cases h0:bs=[];·subst h0;have:=run_copy_none (P:=tB) (w.alloc (tJ (ZX (Um n)) 5)) 24 24 ty 5 (F ⟨w.heap.size,0,H⟩) a n m 0 cap sM fK (by simp);simpa[goInt]using this
 ·rcases h with h|⟨b,o,rfl,h⟩;(·exact absurd h.1 h0);·have:=run_copy_row (P:=tB) (w.alloc (tJ (ZX (Um n)) 5)) 24 24 ty 5 w.heap.size 0 n m ⟨b,o,H⟩ bs.length cap (ZX (Um n)) 5 (bs.map fun c=>tK rH (c.toNat:Int)) sM fK (rK w _) (by simp only[List.length_map];exact(oF hn).symm) (by intro j v hj;rw[sV]at hj;cases hb:bs[j]?with|none=>rw[hb]at hj;simp at hj|some c=>rw[hb]at hj;simp at hj;subst hj;rw[ZM];have hlt:j<bs.length:=(pD.1 hb).1;rw[h j hlt];simp[hb]) (by simp[ZX,Um];exact hn) (jX bs);rw[this,Mf];simp[goInt,ZX,Um]
def VK(bs:List UInt8):List O:=bs.map fun c=>tK rH (c.toNat:Int)
theorem O6(bs:List UInt8):(VK bs).length=bs.length:=by
 simp[VK]
theorem Dj(a b:List UInt8):VK (a++b)=VK a++VK b:=by
 simp[VK]
theorem Bc(bs:List UInt8)(j:Nat)(u:O)(h:(VK bs)[j]?=F u):j<bs.length∧u=tK rH ((bs.getD j 0).toNat:Int):=by
 rw[VK,sV]at h;cases hb:bs[j]?with|none=>rw[hb]at h;simp at h|some c=>rw[hb]at h;simp at h;exact⟨(pD.1 hb).1,by simp[hb,<-h]⟩
def Q9(base:Nat)(w:I)(v:O)(bs:List UInt8):Prop:=w.ownsRow base 5 1 v bs.length (VK bs)
theorem QV(base:Nat)(w:I):Q9 base w (tH H 0 0) []:=World.ownsRow_nil _ _ _ _
theorem Q9.grown{base:Nat}{w w':I}{v:O}{bs:List UInt8}(h:Q9 base w v bs){row:Option Nat}(hg:J w w' row)(hne:v.ownBlock=H∨v.ownBlock≠row):Q9 base w' v bs:=World.ownsRow.kept h hg hne
theorem Q9.grownNone{base:Nat}{w w':I}{v:O}{bs:List UInt8}(h:Q9 base w v bs)(hg:J w w' H):Q9 base w' v bs:=by
 refine h.grown hg ?_;cases hv:v.ownBlock with|none=>exact .inl rfl|some k=>exact .inr (by simp)
theorem Q9.alloc{base:Nat}{w:I}{v:O}{bs:List UInt8}(h:Q9 base w v bs)(o:Obj):Q9 base (w.alloc o) v bs:=World.ownsRow.alloc h o
theorem Q9.slice{base:Nat}{w:I}{v:O}{bs:List UInt8}(h:Q9 base w v bs):Qe w v bs:=by
 obtain⟨h1,h2⟩:=h;rcases h2 with⟨rfl,h0⟩|⟨g,cap,cur,rfl,hb,hg,hn,hm,hs,ht⟩;·obtain rfl:=V h0;exact Qw w
 ·refine⟨_,cap,rfl,hn,.inr ⟨g,0,rfl,?_⟩⟩;intro i hi;(have hc:cur.toList[i]?=F (tK rH ((bs.getD i 0).toNat:Int)):=by(have e:(cur.toList.take (bs.length*1))[i]?=(VK bs)[i]?:=by rw[ht]);rw[pW,if_pos (by omega)]at e;rw[e,VK,sV,rM hi];simp[hi]);simp[sA,hg];simpa using hc
theorem Q9.lt{base:Nat}{w:I}{v:O}{bs:List UInt8}(h:Q9 base w v bs):∀k,v.ownBlock=F k->base<=k∧k<w.heap.size:=World.ownsRow.lt h
theorem Q9.shape{base:Nat}{w:I}{v:O}{bs:List UInt8}(h:Q9 base w v bs):∃a cap,v=tH a bs.length cap:=by
 obtain⟨a,cap,e,_⟩:=h.slice;exact⟨a,cap,e⟩
theorem Ta(base:Nat)(w:I)(bs:List UInt8)(hb:base<=w.heap.size)(hm:bs.length<=oM):Q9 base (w.alloc (tJ (ZX bs) 5)) (tH (F ⟨w.heap.size,0,H⟩) bs.length bs.length) bs:=⟨by
 simp[VK],.inr ⟨w.heap.size,bs.length,ZX bs,rfl,hb,rK w _,sB _,hm,by
 simp[ZX],by
 simp[ZX,VK,pJ]⟩⟩
theorem Xm{w W w1:I}{v:O}{bs:List UInt8}(h:J w W H)(ho:Q9 w.heap.size W v bs)(hg:J W w1 v.ownBlock):J w w1 H:=⟨hg.os.trans h.os,hg.tape.trans h.tape,hg.output.trans h.output,rF h.size hg.size,fun i hi hn=>(hg.block i (tS hi h.size) (fun e=>by
 have:=(ho.lt i e.symm).1;omega)).trans (h.block i hi hn)⟩
theorem Mp(w:I)(base ty:Nat)(v:O)(bs:List UInt8)(hown:Q9 base w v bs)(a:Option pG)(m cap:Nat)(cs:List UInt8)(hs:Qe w (tH a m cap) cs)(hbytes:bs.length+m<=140737488355328)(hbase:base<=w.heap.size):∃v' w',(Builtin.append_ #[24,24] ty #[v,tH a m cap]).run tB w=.ok v' w'∧Q9 base w' v' (bs++cs)∧J w w' v.ownBlock:=by
 obtain⟨i0,hi,hz0,hz1,hz2⟩:=oN fO;obtain⟨a',cap',e,hc,h⟩:=hs;simp only[rD]at e;obtain⟨rfl,rfl,rfl⟩:=e;have h63:bs.length+cs.length<=oM:=by unfold oM;omega
 have key:∀ad:pG,(∀j u,(VK cs)[j]?=F u->w.cell? (ad.add j)=F u)->∃v' w',(Builtin.append_ #[24,24] ty #[v,tH (F ad) cs.length cap]).run tB w=.ok v' w'∧Q9 base w' v' (bs++cs)∧J w w' v.ownBlock:=by intro ad hnews;obtain⟨v',w',hr,ho,hg,_⟩:=run_append_own (P:=tB) w base 24 ty 5 i0 (tK rH 0) 1 1 sM hi hz0 hz1 hz2 rfl (by decide) v bs.length (VK bs) hown ad cs.length cap (VK cs) (by simp[VK]) hnews (jX cs) h63 (by omega) hbase;refine⟨v',w',hr,?_,hg⟩;unfold Q9;rw[Dj,T];exact ho
 rcases h with⟨rfl,hz⟩|⟨b,o,rfl,h⟩;·cases a with|none=>obtain rfl:=hz rfl;refine⟨v,w,run_append_owned_none (P:=tB) (w:=w) base 24 ty 5 i0 1 sM hi v bs.length (VK bs) hown,?_,Qb _ _⟩;rw[tV];exact hown|some ad=>exact key ad (by simp[VK])
 ·refine key ⟨b,o,H⟩ fun j u hj=>?_;obtain⟨hlt,rfl⟩:=Bc cs j u hj;rw[ZM];exact h j hlt
theorem QL{w:I}{ops:Array Oper}{rest:List Oper}{o:Oper}{a:Act}{Q:Exit->Act->I->Prop}(hgd:o.guard=H)(s x:Operand)(ho:o.op=.call {callee:=.builtin .append,args:=#[s,x],argTypes:=#[24,24]})(base:Nat)(v:O)(bs:List UInt8)(hs:a.eval s=v)(hown:Q9 base w v bs)(xa:Option pG)(m cap:Nat)(cs:List UInt8)(hx:a.eval x=tH xa m cap)(hsl:Qe w (tH xa m cap) cs)(hbytes:bs.length+m<=140737488355328)(hbase:base<=w.heap.size)(h:∀v' w',Q9 base w' v' (bs++cs)->J w w' v.ownBlock->wpList tB ops Q rest (a.put o.dst v') w'):wpList tB ops Q (o::rest) a w:=by
 refine wpList_plain hgd fun K hK=>?_;obtain⟨v',w',hrun,ho',hg⟩:=Mp w base o.type v bs hown xa m cap cs hsl hbytes hbase;unfold Oper.wp;simp[execOp,ho,resolve,invoke,builtin,hs,hx,hrun,Result.andThen];exact hK _ _ (h v' w' ho' hg)
theorem Qe.take{w:I}{a:Option pG}{m cap:Nat}{bs:List UInt8}(h:Qe w (tH a m cap) bs)(k:Nat)(hk:k<=m):Qe w (tH a k cap) (bs.take k):=by
 obtain⟨a',cap',e,hc,h⟩:=h;simp only[rD]at e;obtain⟨rfl,rfl,rfl⟩:=e;have hl:(bs.take k).length=k:=by simp;omega
 refine⟨a,cap,by rw[hl],by omega,?_⟩;rcases h with⟨rfl,hz⟩|⟨b,o,rfl,h⟩;·exact .inl ⟨by simp,hz⟩
 ·refine .inr ⟨b,o,rfl,fun i hi=>?_⟩;rw[h i (by omega)];rw[hl]at hi;simp[hi]
theorem Wf(bs:List UInt8)(s:ByteArray):((bs.map fun c=>((c.toNat:Nat):Int)).foldl (fun r n=>r.push (tD n.toNat)) s)=⟨s.data++bs.toArray⟩:=by
 induction bs generalizing s with|nil=>simp|cons c bs ih=>simp only[oG,List.foldl_cons];rw[ih];congr 1;simp[ByteArray.push]
def qT(bs:List UInt8):ByteArray:=⟨bs.toArray⟩
theorem Gc(bs:List UInt8):(qT bs).toList=bs:=by
 rw[Lib.toList_data];rfl
theorem conv_bytes(W:I)(v:O)(bs:List UInt8)(hs:Qe W v bs):(convert 24 9 v).run tB W=.ok (.string (qT bs)) W:=by
 obtain⟨a,cap,rfl,hc,h⟩:=hs;rw[run_convert_bytes_string W 24 9 5 a bs.length cap sM Tryz.underlying5 Tryz.underlying9];have key:∀ad:pG,(∀j u,(VK bs)[j]?=F u->W.cell? (ad.add j)=F u)->(Conv.bytesToString (tH (F ad) bs.length cap)).run tB W=.ok (.string (qT bs)) W:=by intro ad hcells;have hl:=run_loadCells_list (P:=tB) W ad (VK bs) hcells;rw[O6]at hl;have:=run_bytesToString (P:=tB) W ad bs.length cap (bs.map fun c=>((c.toNat:Nat):Int)) (by rw[hl];simp[VK]);rw[this,Wf];simp[qT]
 rcases h with⟨rfl,hz⟩|⟨b,o,rfl,h⟩;·cases a with|none=>simp[Conv.bytesToString,qT];rfl|some ad=>exact key ad (by simp[VK])
 ·refine key ⟨b,o,H⟩ fun j u hj=>?_;obtain⟨hlt,rfl⟩:=Bc bs j u hj;rw[ZM];exact h j hlt
theorem ZL.slice32{w:I}{b:Nat}{bs:List UInt8}(h:ZL w b bs)(hl:bs.length=32):Qe w (tH (F ⟨b,0,H⟩) 32 32) bs:=by
 have:=h.slice 32 (by omega);rw[hl]at this;exact this
theorem UL(w:I)(x:UInt8)(t:sY):Qe (w.alloc (tJ #[tK rH (x.toNat:Int)] t)) (tH (F ⟨w.heap.size,0,H⟩) 1 1) [x]:=(ZL.new w t [x]).slice 1 (by
 simp)
theorem Nx(w:I)(x y:UInt8)(t:sY):Qe (w.alloc (tJ #[tK rH (x.toNat:Int),tK rH (y.toNat:Int)] t)) (tH (F ⟨w.heap.size,0,H⟩) 2 2) [x,y]:=(ZL.new w t [x,y]).slice 2 (by
 simp)
theorem Kt{base base':Nat}{w:I}{v:O}{bs:List UInt8}(h:Q9 base w v bs)(hb:base'<=base):Q9 base' w v bs:=by
 refine⟨h.1,?_⟩;rcases h.2with h2|⟨g,cap,cur,h1,h2,h3⟩;·exact .inl h2
 ·exact .inr ⟨g,cap,cur,h1,rF hb h2,h3⟩
end
structure Ac where
  kind : Int
  sess : Int
  keep : Int
  data : List UInt8
def Ux:Ac:=⟨0,0,0,[]⟩
def Y1(a:Ac):Int:=if 1<=a.kind∧a.kind<=4then(if(a.kind=1∧¬(0<=a.sess∧a.sess<=7))∨(a.kind=3∧¬(0<=a.keep∧a.keep<=200000))then 2 else if 4000<a.data.length then 1 else if(a.kind≠1∧a.sess≠0)∨(a.kind≠3∧a.keep≠0)∨(a.kind≠1∧0<a.data.length)then 4 else 0)else 5
structure Ku(a:Ac):Prop where kind:1<=a.kind∧a.kind<=4sess:a.kind=1->0<=a.sess∧a.sess<=7keep:a.kind=3->0<=a.keep∧a.keep<=200000data:a.data.length<=4000noSess:a.kind≠1->a.sess=0noKeep:a.kind≠3->a.keep=0noData:a.kind≠1->a.data=[]
theorem uC(a:Ac):Y1 a=0↔Ku a:=by
 unfold Y1;by_cases h0:1<=a.kind∧a.kind<=4;·rw[if_pos h0];by_cases h1:(a.kind=1∧¬(0<=a.sess∧a.sess<=7))∨(a.kind=3∧¬(0<=a.keep∧a.keep<=200000));(·rw[if_pos h1];refine⟨fun e=>(by cases e),fun h=>?_⟩;rcases h1 with⟨h1,h2⟩|⟨h1,h2⟩;(·exact absurd (h.sess h1) h2);·exact absurd (h.keep h1) h2);·rw[if_neg h1];by_cases h2:4000<a.data.length;(·rw[if_pos h2];exact⟨fun e=>(by cases e),fun h=>by have:=h.data;omega⟩);·rw[if_neg h2];by_cases h3:(a.kind≠1∧a.sess≠0)∨(a.kind≠3∧a.keep≠0)∨(a.kind≠1∧0<a.data.length);(·rw[if_pos h3];refine⟨fun e=>(by cases e),fun h=>?_⟩;rcases h3 with⟨h3,h4⟩|⟨h3,h4⟩|⟨h3,h4⟩;(·exact absurd (h.noSess h3) h4);(·exact absurd (h.noKeep h3) h4);·rw[h.noData h3]at h4;simp at h4);·rw[if_neg h3];refine⟨fun _=>⟨h0,fun h=>?_,fun h=>?_,by omega,fun h=>?_,fun h=>?_,fun h=>?_⟩,fun _=>rfl⟩;(·exact sO fun e=>h1 (.inl ⟨h,e⟩));(·exact sO fun e=>h1 (.inr ⟨h,e⟩));(·exact sO fun e=>h3 (.inl ⟨h,e⟩));(·exact sO fun e=>h3 (.inr (.inl ⟨h,e⟩)));·refine V ?_;have:¬0<a.data.length:=fun e=>h3 (.inr (.inr ⟨h,e⟩));omega
 ·rw[if_neg h0];exact⟨fun e=>(by cases e),fun h=>absurd h.kind h0⟩
def lI(n:Nat):UInt8:=tD (48+n)
def gA(n:Nat):List UInt8:=if n<10then[lI n]else gA (n/10)++[lI (n%10)]termination_by n decreasing_by
 omega
def iY(n:Nat):UInt8:=if n<10then tD (48+n)else tD (87+n)
def mC(bs:List UInt8):List UInt8:=bs.flatMap fun c=>[iY (c.toNat/16),iY (c.toNat%16)]
def mD:List UInt8:=[97,115,107]
def iK:List UInt8:=[115,121,110,99]
def gK:List UInt8:=[99,114,97,115,104]
def fW:List UInt8:=[115,116,97,114,116]
def lR(a:Ac):List UInt8:=if a.kind=1then mD++32::(gA a.sess.toNat++32::mC a.data)else if a.kind=2then iK else if a.kind=3then gK++32::gA a.keep.toNat else if a.kind=4then fW else[]
theorem Zm(w:I)(o:Obj):∃W:I,Hid (W=w.alloc o)∧J w W H∧Hid (W.heap[w.heap.size]?=F o):=⟨w.alloc o,rfl,rS _ _ _,rK w o⟩
theorem Qe.shape{w:I}{v:O}{bs:List UInt8}(h:Qe w v bs):∃a cap,v=tH a bs.length cap:=by
 obtain⟨a,cap,rfl,_⟩:=h;exact⟨a,cap,rfl⟩
theorem QS{W w:I}{b:Nat}{x y:O}{t:sY}(hg:J W w H)(h:W.heap[b]?=F (tJ #[x,y] t)):w.cell? ⟨b,0,H⟩=F x∧w.cell? ⟨b,1,H⟩=F y∧w.frozen? ⟨b,0,H⟩=tA∧w.frozen? ⟨b,1,H⟩=tA:=by
 have hb:w.heap[b]?=F (tJ #[x,y] t):=by rw[hg.block b (tL.1 h).1 (by simp)];exact h
 refine⟨by simp[sA,hb],by simp[sA,hb],by simp[sX,hb],by simp[sX,hb]⟩
theorem z8{W w:I}{b:Nat}{x y:O}{t:sY}(hg:J W w H)(h:W.heap[b]?=F (tJ #[x,y] t)){G:Prop}(k:w.heap[b]?=F (tJ #[x,y] t)->w.cell? ⟨b,0,H⟩=F x->w.cell? ⟨b,1,H⟩=F y->w.frozen? ⟨b,0,H⟩=tA->w.frozen? ⟨b,1,H⟩=tA->G):G:=by
 obtain⟨h1,h2,h3,h4⟩:=QS hg h;exact k (by rw[hg.block b (tL.1 h).1 (by simp)];exact h) h1 h2 h3 h4
theorem Qd{W w:I}{b:Nat}{o:Obj}(hg:J W w H)(h:W.heap[b]?=F o):w.heap[b]?=F o:=by
 rw[hg.block b (tL.1 h).1 (by simp)];exact h
def Qh(base:Nat)(w:I)(v:O)(bs:List UInt8):Prop:=Qe w v bs∧(bs=[]∨∃b,v.ownBlock=F b∧b<w.heap.size∧(b<base∨∃cur fz,w.heap[b]?=F (tJ cur 5 fz)))
theorem Qh.slice{base:Nat}{w:I}{v:O}{bs:List UInt8}(h:Qh base w v bs):Qe w v bs:=h.1
theorem Q9.part{base base':Nat}{w:I}{v:O}{bs:List UInt8}(h:Q9 base' w v bs):Qh base w v bs:=by
 refine⟨h.slice,?_⟩;rcases h.2with⟨rfl,h0⟩|⟨g,cap,cur,rfl,hb,hg,_⟩;·exact .inl (V h0)
 ·exact .inr ⟨g,rfl,(tL.1 hg).1,.inr ⟨cur,_,hg⟩⟩
theorem VF{w:I}{b o:Nat}{v:O}(h:w.cell? ⟨b,o,H⟩=F v):b<w.heap.size:=by
 by_cases hb:b<w.heap.size;·exact hb
 ·simp[sA,Array.getElem?_eq_none (Nat.le_of_not_lt hb)]at h
theorem Qe.part{w w':I}{v:O}{bs:List UInt8}(h:Qe w v bs)(hg:J w w' H)(base:Nat)(hb:w.heap.size<=base):Qh base w' v bs:=by
 refine⟨h.grown hg,?_⟩;obtain⟨a,cap,rfl,hc,h⟩:=h;rcases h with⟨rfl,_⟩|⟨b,o,rfl,h⟩;·exact .inl rfl
 ·by_cases h0:bs=[];(·exact .inl h0);·have hl:0<bs.length:=List.length_pos_iff.2 h0;have:=VF (h 0 hl);exact .inr ⟨b,rfl,tS this hg.size,.inl (by omega)⟩
theorem Qh.mono{base base':Nat}{w:I}{v:O}{bs:List UInt8}(h:Qh base w v bs)(hb:base<=base'):Qh base' w v bs:=by
 refine⟨h.1,?_⟩;rcases h.2with h|⟨b,h1,h2,h3⟩;·exact .inl h
 ·refine .inr ⟨b,h1,h2,?_⟩;rcases h3 with h3|h3;(·exact .inl (by omega));·exact .inr h3
theorem Zw{base:Nat}{w:I}{v:O}{bs:List UInt8}(h:Qh base w v bs):v.oneCell'=L:=by
 obtain⟨⟨a,cap,rfl,_⟩,_⟩:=h;rfl
theorem Qh.keptT{base:Nat}{w w':I}{v:O}{bs:List UInt8}(h:Qh base w v bs){row:Option Nat}(hg:J w w' row)(hrow:row=H∨∃g cur t fz,row=F g∧base<=g∧w.heap[g]?=F (tJ cur t fz)∧t≠5):Qh base w' v bs:=by
 obtain⟨hs,ho⟩:=h;rcases ho with rfl|⟨b,hb,hlt,hc⟩;·obtain⟨a,cap,rfl,hc,h⟩:=hs;refine⟨⟨a,cap,rfl,hc,?_⟩,.inl rfl⟩;rcases h with h|⟨b,o,rfl,h⟩;(·exact .inl h);·exact .inr ⟨b,o,rfl,fun i hi=>by simp at hi⟩
 ·(have hne:F b≠row:=by intro e;rcases hrow with rfl|⟨g,cur,t,fz,rfl,hbg,hgc,ht⟩;(·cases e);·cases e;rcases hc with hc|⟨cur2,fz2,hc⟩;(·omega);·rw[hc]at hgc;simp only[tQ,Obj.cells.injEq]at hgc;exact ht hgc.2.1.symm);have hblk:=hg.block b hlt hne;refine⟨?_,.inr ⟨b,hb,tS hlt hg.size,?_⟩⟩;(·obtain⟨a,cap,rfl,hcp,h⟩:=hs;refine⟨a,cap,rfl,hcp,?_⟩;rcases h with h|⟨b',o,rfl,h⟩;(·exact .inl h);·refine .inr ⟨b',o,rfl,fun i hi=>?_⟩;simp[oD]at hb;subst hb;exact hg.cell (h i hi) (by simpa using hne));·rcases hc with hc|⟨cur,fz,hc⟩;(·exact .inl hc);·exact .inr ⟨cur,fz,by rw[hblk];exact hc⟩
def ZU(k:List UInt8)(i:Nat):Bool:=if i/9<k.length then(if i%9=0then L else(k.getD (i/9) 0).toNat.testBit (8-i%9))else tA
theorem Ue(k:List UInt8)(p:Nat):ZU k (9*p)=tI (p<k.length):=by
 unfold ZU;rw[show 9*p/9=p by omega,show 9*p%9=0 by omega];by_cases h:p<k.length<;>simp[h]
theorem Uf(k:List UInt8)(p r:Nat)(hp:p<k.length)(hr:1<=r)(hr8:r<=8):ZU k (9*p+r)=(k.getD p 0).toNat.testBit (8-r):=by
 unfold ZU;rw[show(9*p+r)/9=p by omega,show(9*p+r)%9=r by omega,if_pos hp,if_neg (by omega)]
theorem Nm(k:List UInt8)(i:Nat)(h:k.length<=i/9):ZU k i=tA:=by
 unfold ZU;rw[if_neg (by omega)]
theorem CO(x y:UInt8)(h:∀j,j<8->x.toNat.testBit j=y.toNat.testBit j):x=y:=by
 apply pY.1;apply pS;intro j;by_cases hj:j<8;·exact h j hj
 ·rw[sW (tS x.toNat_lt (rC (by decide) (by omega:8<=j))),sW (tS y.toNat_lt (rC (by decide) (by omega:8<=j)))]
theorem WU(a b:List UInt8)(ha:a.length<=16)(hb:b.length<=16)(h:∀i,i<145->ZU a i=ZU b i):a=b:=by
 have hl:a.length=b.length:=by have h1:=h (9*a.length) (by omega);have h2:=h (9*b.length) (by omega);rw[Ue,Ue]at h1 h2;simp at h1 h2;omega
 apply List.ext_getElem hl;intro p h1 h2;have e:a.getD p 0=b.getD p 0:=by apply CO;intro j hj;have:=h (9*p+(8-j)) (by omega);rw[Uf a p _ h1 (by omega) (by omega),Uf b p _ h2 (by omega) (by omega),show 8-(8-j)=j by omega]at this;exact this
 simpa[h1,h2]using e
def yB(a b:List UInt8):Nat->Nat->Int|0,_=>-1|n+1,i=>if ZU a i=ZU b i then yB a b n (i+1)else(i:Int)
def JM(a b:List UInt8):Int:=yB a b 145 0
theorem Ef(a b:List UInt8)(n i:Nat):(yB a b n i=-1∧∀j,i<=j->j<i+n->ZU a j=ZU b j)∨∃m:Nat,yB a b n i=(m:Int)∧i<=m∧m<i+n∧(∀j,i<=j->j<m->ZU a j=ZU b j)∧ZU a m≠ZU b m:=by
 induction n generalizing i with|zero=>exact .inl ⟨rfl,fun j _ h=>by omega⟩|succ n ih=>unfold yB;by_cases he:ZU a i=ZU b i;(·rw[if_pos he];rcases ih (i+1)with⟨h1,h2⟩|⟨m,h1,h2,h3,h4,h5⟩;(·refine .inl ⟨h1,fun j hj hj2=>?_⟩;by_cases hji:j=i;(·subst hji;exact he);·exact h2 j (by omega) (by omega));·refine .inr ⟨m,h1,by omega,by omega,fun j hj hj2=>?_,h5⟩;by_cases hji:j=i;(·subst hji;exact he);·exact h4 j (by omega) hj2);·rw[if_neg he];exact .inr ⟨i,rfl,sB _,by omega,fun j h1 h2=>by omega,he⟩
theorem JS(a b:List UInt8):(JM a b=-1∧∀j,j<145->ZU a j=ZU b j)∨∃m:Nat,JM a b=(m:Int)∧m<145∧(∀j,j<m->ZU a j=ZU b j)∧ZU a m≠ZU b m:=by
 rcases Ef a b 145 0with⟨h1,h2⟩|⟨m,h1,_,h3,h4,h5⟩;·exact .inl ⟨h1,fun j hj=>h2 j (by omega) (by omega)⟩
 ·exact .inr ⟨m,h1,by omega,fun j hj=>h4 j (by omega) hj,h5⟩
theorem DQ(a b:List UInt8)(m:Nat)(hm:m<145)(h:∀j,j<m->ZU a j=ZU b j)(hd:ZU a m≠ZU b m):JM a b=(m:Int):=by
 rcases JS a b with⟨_,h2⟩|⟨m',h1,h2,h3,h4⟩;·exact absurd (h2 m hm) hd
 ·by_cases hlt:m'<m;(·exact absurd (h m' hlt) h4);·by_cases hgt:m<m';(·exact absurd (h3 m hgt) hd);·rw[h1];omega
theorem TV(a b:List UInt8)(h:∀j,j<145->ZU a j=ZU b j):JM a b=-1:=by
 rcases JS a b with⟨h1,_⟩|⟨m',_,h2,_,h4⟩;·exact h1
 ·exact absurd (h m' h2) h4
theorem Fe(a b:List UInt8):-1<=JM a b∧JM a b<=144:=by
 rcases JS a b with⟨h,_⟩|⟨m,h,hm,_⟩<;>omega
theorem Ao(a b:List UInt8)(ha:a.length<=16)(hb:b.length<=16):JM a b<0↔a=b:=by
 constructor;·intro h;rcases JS a b with⟨_,h2⟩|⟨m,h1,_⟩;(·exact WU a b ha hb h2);·omega
 ·rintro rfl;rw[TV a a fun _ _=>rfl];decide
theorem Pv(x y:UInt8)(a b:List UInt8):sI (x::a) (y::b)=(tI (x<y)||(x==y&&sI a b)):=by
 simp[sI]
theorem ND:∀(p:Nat)(a b:List UInt8),(∀i,i<p->i<a.length∧i<b.length∧a.getD i 0=b.getD i 0)->sI a b=sI (a.drop p) (b.drop p)|0,a,b,_=>by simp|p+1,[],b,h=>by have:=(h 0 (by omega)).1;simp at this|p+1,x::a,[],h=>by have:=(h 0 (by omega)).2.1;simp at this|p+1,x::a,y::b,h=>by have h0:=(h 0 (by omega)).2.2;simp at h0;subst h0;rw[Pv,pT,pT,<-ND p a b fun i hi=>by have:=h (i+1) (by omega);simp at this;simpa using this];simp
theorem Ck(a:List UInt8):sI a []=tA:=by
 cases a<;>rfl
theorem P5(a:List UInt8)(p:Nat)(h:p<a.length):a.drop p=a.getD p 0::a.drop (p+1):=by
 rw[sF h];simp[h]
theorem EW(x y j:Nat)(hx:x.testBit j=tA)(hy:y.testBit j=L)(h:∀i,j<i->x.testBit i=y.testBit i):x<y:=by
 have hq:x/2^(j+1)=y/2^(j+1):=by apply pS;intro i;rw[pK,pK];exact h _ (by omega)
 rw[Nat.testBit_eq_decide_div_mod_eq]at hx hy;simp at hx hy;rw[Nat.pow_succ,<-pO,<-pO]at hq;exact Nat.lt_of_div_lt_div (c:=2^j) (by omega)
theorem Is(x y:UInt8)(j:Nat)(hd:x.toNat.testBit j≠y.toNat.testBit j)(h:∀i,j<i->x.toNat.testBit i=y.toNat.testBit i):(tI (x<y)||(x==y&&tA))=y.toNat.testBit j:=by
 cases hy:y.toNat.testBit j with|true=>(have hx:x.toNat.testBit j=tA:=by cases hx:x.toNat.testBit j with|true=>exact absurd (hx.trans hy.symm) hd|false=>rfl);have:=EW _ _ j hx hy h;simp[sL,this]|false=>(have hx:x.toNat.testBit j=L:=by cases hx:x.toNat.testBit j with|true=>rfl|false=>exact absurd (hx.trans hy.symm) hd);have:=EW _ _ j hy hx (fun i hi=>(h i hi).symm);simp[sL];omega
theorem Tm(a b:List UInt8)(m:Nat)(h:∀j,j<m->ZU a j=ZU b j)(hd:ZU a m≠ZU b m):ZU b m=sI a b:=by
 have hone:m/9<a.length∨m/9<b.length:=by by_cases h1:m/9<a.length;(·exact .inl h1);·by_cases h2:m/9<b.length;(·exact .inr h2);·rw[Nm a m (by omega),Nm b m (by omega)]at hd;exact absurd rfl hd
 have hpre:∀i,i<m/9->i<a.length∧i<b.length∧a.getD i 0=b.getD i 0:=by intro i hi;have hh:=h (9*i) (by omega);rw[Ue,Ue]at hh;(have hl:i<a.length∧i<b.length:=by simp at hh;omega);refine⟨hl.1,hl.2,CO _ _ fun j hj=>?_⟩;have:=h (9*i+(8-j)) (by omega);rw[Uf a i _ hl.1 (by omega) (by omega),Uf b i _ hl.2 (by omega) (by omega),show 8-(8-j)=j by omega]at this;exact this
 rw[ND (m/9) a b hpre];by_cases hr:m%9=0;·(have em:m=9*(m/9):=by omega);have ha:=Ue a (m/9);have hb:=Ue b (m/9);rw[<-em]at ha hb;by_cases hlb:m/9<b.length;(·have hla:¬m/9<a.length:=fun hla=>hd (by rw[ha,hb];simp[hla,hlb]);rw[hb,tW (by omega),P5 b _ hlb];simp[hlb,sI]);·rw[hb,tW (show b.length<=m/9by omega),Ck];simp[hlb]
 ·have hh:=h (9*(m/9)) (by omega);rw[Ue,Ue]at hh;(have hl:m/9<a.length∧m/9<b.length:=by simp at hh;omega);(have em:m=9*(m/9)+m%9:=by omega);have ha:=Uf a (m/9) (m%9) hl.1 (by omega) (by omega);have hb:=Uf b (m/9) (m%9) hl.2 (by omega) (by omega);rw[<-em]at ha hb;rw[P5 a _ hl.1,P5 b _ hl.2,Pv,hb];rw[ha,hb]at hd;(have hne:(a.getD (m/9) 0==b.getD (m/9) 0)=tA:=by rw[beq_eq_false_iff_ne];intro e;rw[e]at hd;exact hd rfl);rw[hne,Bool.false_and];have:=Is (a.getD (m/9) 0) (b.getD (m/9) 0) (8-m%9) hd (fun i hi=>by by_cases hi8:i<8;(·have:=h (9*(m/9)+(8-i)) (by omega);rw[Uf a _ _ hl.1 (by omega) (by omega),Uf b _ _ hl.2 (by omega) (by omega),show 8-(8-i)=i by omega]at this;exact this);·rw[sW (tS (a.getD (m/9) 0).toNat_lt (rC (by decide) (by omega:8<=i))),sW (tS (b.getD (m/9) 0).toNat_lt (rC (by decide) (by omega:8<=i)))]);rw[Bool.and_false]at this;exact this.symm
def Qp(n:Nat):Int:=if 1<=n∧n<=16then 0 else 1
def An(k:List UInt8)(i:Int):Bool×Int:=if 1<=k.length∧k.length<=16then(if 0<=i∧i<=144then(ZU k i.toNat,0)else(tA,2))else(tA,1)
def Tf(a b:List UInt8):Int×Int:=if 1<=a.length∧a.length<=16then(if 1<=b.length∧b.length<=16then(JM a b,0)else(0,1))else(0,1)
theorem cU(k:List UInt8)(i:Nat)(hk:1<=k.length∧k.length<=16)(hi:i<145):An k (i:Int)=(ZU k i,0):=by
 rw[An,if_pos hk,if_pos (by omega)];rfl
theorem OK(a b:List UInt8)(ha:1<=a.length∧a.length<=16)(hb:1<=b.length∧b.length<=16):Tf a b=(JM a b,0):=by
 rw[Tf,if_pos ha,if_pos hb]
structure Zd where
  name : List UInt8
  key : List UInt8
  value : List UInt8
  gone : Bool
def YQ(p:Zd):Prop:=p.name.length<=140737488355328∧p.key.length<=140737488355328∧p.value.length<=140737488355328
def Qs:Zd:=⟨[],[],[],tA⟩
theorem Qj{W w:I}{b:Nat}{x y z u:O}{t:sY}(hg:J W w H)(h:W.heap[b]?=F (tJ #[x,y,z,u] t)):(w.cell? ⟨b,0,H⟩=F x∧w.cell? ⟨b,1,H⟩=F y∧w.cell? ⟨b,2,H⟩=F z∧w.cell? ⟨b,3,H⟩=F u)∧w.frozen? ⟨b,0,H⟩=tA∧w.frozen? ⟨b,1,H⟩=tA∧w.frozen? ⟨b,2,H⟩=tA∧w.frozen? ⟨b,3,H⟩=tA∧w.heap[b]?=F (tJ #[x,y,z,u] t):=by
 have hb:w.heap[b]?=F (tJ #[x,y,z,u] t):=by rw[hg.block b (tL.1 h).1 (by simp)];exact h
 refine⟨⟨?_,?_,?_,?_⟩,?_,?_,?_,?_,hb⟩;all_goals simp[sA,sX,hb]
theorem Jv{w:I}{b:Nat}{x y z u:O}{t:sY}(h:w.heap[b]?=F (tJ #[x,y,z,u] t))(x' y' z' u':O):((((tG w ⟨b,0,H⟩ x').setCell ⟨b,1,H⟩ y').setCell ⟨b,2,H⟩ z').setCell ⟨b,3,H⟩ u').heap[b]?=F (tJ #[x',y',z',u'] t)∧(tG w ⟨b,0,H⟩ x').cell? ⟨b,0,H⟩=F x'∧((tG w ⟨b,0,H⟩ x').setCell ⟨b,1,H⟩ y').cell? ⟨b,1,H⟩=F y'∧(((tG w ⟨b,0,H⟩ x').setCell ⟨b,1,H⟩ y').setCell ⟨b,2,H⟩ z').cell? ⟨b,2,H⟩=F z'∧((((tG w ⟨b,0,H⟩ x').setCell ⟨b,1,H⟩ y').setCell ⟨b,2,H⟩ z').setCell ⟨b,3,H⟩ u').cell? ⟨b,3,H⟩=F u':=by
 have h0:(tG w ⟨b,0,H⟩ x').heap[b]?=F (tJ #[x',y,z,u] t):=by simp only[tG,tR,if_true,h,sP];first|rfl|simp
 have h1:((tG w ⟨b,0,H⟩ x').setCell ⟨b,1,H⟩ y').heap[b]?=F (tJ #[x',y',z,u] t):=by rw[tG,tR,if_pos rfl,h0];first|rfl|simp
 have h2:(((tG w ⟨b,0,H⟩ x').setCell ⟨b,1,H⟩ y').setCell ⟨b,2,H⟩ z').heap[b]?=F (tJ #[x',y',z',u] t):=by rw[tG,tR,if_pos rfl,h1];first|rfl|simp
 have h3:((((tG w ⟨b,0,H⟩ x').setCell ⟨b,1,H⟩ y').setCell ⟨b,2,H⟩ z').setCell ⟨b,3,H⟩ u').heap[b]?=F (tJ #[x',y',z',u'] t):=by rw[tG,tR,if_pos rfl,h2];first|rfl|simp
 exact⟨h3,by simp[sA,h0],by simp[sA,h1],by simp[sA,h2],by simp[sA,h3]⟩
theorem Q9.setBlk{base:Nat}{w:I}{v:O}{bs:List UInt8}(h:Q9 base w v bs){b:Nat}{cur:Array O}{t:sY}{fz:Nat×Nat}(hb:w.heap[b]?=F (tJ cur t fz))(ht:t≠5)(i:Nat)(u:O):Q9 base (tG w ⟨b,i,H⟩ u) v bs:=by
 refine h.grown (row:=F b) (Qi (Qb _ _) i u) ?_;rcases h.2with⟨rfl,_⟩|⟨g,cap,cur2,rfl,_,hg,_⟩;·exact .inl rfl
 ·right;intro e;simp[oD]at e;subst e;rw[hg]at hb;simp at hb;exact ht hb.2.1.symm
theorem Jt{w w1:I}(h:J w w1 H)(b:Nat)(hb:w.heap.size<=b)(x y z u:O):J w ((((tG w1 ⟨b,0,H⟩ x).setCell ⟨b,1,H⟩ y).setCell ⟨b,2,H⟩ z).setCell ⟨b,3,H⟩ u) H:=Qc (Qc (Qc (Qc h _ hb _ _) _ hb _ _) _ hb _ _) _ hb _ _
abbrev Pr:=List UInt8×List UInt8
abbrev PL:=List Pr
abbrev YD(a b:List UInt8):Bool:=sI a b
theorem F6(a:List UInt8):YD a []=tA:=Ck a
theorem vU(x y:UInt8)(a b:List UInt8):YD (x::a) (y::b)=(tI (x<y)||(x==y&&YD a b)):=Pv x y a b
theorem XN:∀a:List UInt8,YD a a=tA|[]=>rfl|x::a=>by rw[vU,XN a];simp
theorem Jg:∀a b c:List UInt8,YD a b=L->YD b c=L->YD a c=L|_,[],_,h,_=>by rw[F6]at h;cases h|_,_::_,[],_,h=>by rw[F6]at h;cases h|[],_::_,_::_,_,_=>rfl|x::a,y::b,z::c,h1,h2=>by rw[vU]at h1 h2⊢;simp only[oE,decide_eq_true_eq,pZ,beq_iff_eq,sL]at h1 h2⊢;rcases h1 with h1|⟨rfl,h1⟩;(·rcases h2 with h2|⟨rfl,h2⟩;(·left;omega);·left;exact h1);·rcases h2 with h2|⟨rfl,h2⟩;(·left;exact h2);·right;exact⟨rfl,Jg a b c h1 h2⟩
theorem K8:∀a b:List UInt8,YD a b=tA->a≠b->YD b a=L|[],[],_,h=>absurd rfl h|[],_::_,h,_=>by cases h|_::_,[],_,_=>rfl|x::a,y::b,h1,h2=>by rw[vU]at h1⊢;simp only[rP,decide_eq_false_iff_not,Bool.and_eq_false_iff,beq_eq_false_iff_ne,sL]at h1;simp only[oE,decide_eq_true_eq,pZ,beq_iff_eq,sL];by_cases e:y=x;(·subst e;right;refine⟨rfl,K8 a b ?_ (fun e=>h2 (by rw[e]))⟩;rcases h1.2with h|h;(·exact absurd rfl h);·exact h);·left;have:x.toNat≠y.toNat:=fun h=>e (pY.1 h.symm);omega
theorem Hb(a b:List UInt8)(h:YD a b=L):YD b a=tA:=by
 cases hb:YD b a with|false=>rfl|true=>have:=Jg a b a h hb;rw[XN]at this;cases this
theorem Br{a b:List UInt8}(h:YD a b=L):a≠b:=by
 rintro rfl;rw[XN]at h;cases h
def QY(p:Pr):Int:=if 32<p.2.length then 1 else Qp p.1.length
def XI(l:PL)(i:Nat):Int:=if QY (l.getD i ([],[]))=0then(if 0<i∧YD (l.getD (i-1) ([],[])).1 (l.getD i ([],[])).1=tA then 3 else 0)else QY (l.getD i ([],[]))
def Kc(l:PL):Nat->Nat->Int|0,_=>0|n+1,i=>if XI l i=0then Kc l n (i+1)else XI l i
def QC(l:PL):Int:=if 60<l.length then 1 else Kc l l.length 0
theorem zQ(l:PL)(n i:Nat)(hi:i<=n)(h:∀j,j<i->XI l j=0):Kc l n 0=Kc l (n-i) i:=by
 induction i with|zero=>rfl|succ i ih=>rw[ih (by omega) (fun j hj=>h j (by omega)),show n-i=(n-(i+1))+1by omega,Kc,if_pos (h i (by omega))]
theorem jV(l:PL)(i:Nat)(hi:i<l.length)(hl:l.length<=60)(h:∀j,j<i->XI l j=0)(hf:XI l i≠0):QC l=XI l i:=by
 rw[QC,if_neg (by omega),zQ l _ i (by omega) h,show l.length-i=(l.length-(i+1))+1by omega,Kc,if_neg hf]
theorem zP(l:PL)(hl:l.length<=60)(h:∀j,j<l.length->XI l j=0):QC l=0:=by
 rw[QC,if_neg (by omega),zQ l _ l.length (sB _) h,oI,Kc]
theorem zM(l:PL)(hl:60<l.length):QC l=1:=by
 rw[QC,if_pos hl]
theorem xN(l:PL):∀(n i:Nat),Kc l n i=0->∀j,i<=j->j<i+n->XI l j=0|0,i,_,j,h1,h2=>by omega|n+1,i,h,j,h1,h2=>by rw[Kc]at h;by_cases e:XI l i=0;(·rw[if_pos e]at h;by_cases hj:j=i;(·subst hj;exact e);·exact xN l n (i+1) h j (by omega) (by omega));·rw[if_neg e]at h;exact absurd h e
def Ud(l:PL):Prop:=l.Pairwise fun p q=>YD p.1 q.1=L
structure ZH(l:PL):Prop where room:l.length<=60pairs:∀p∈l,(1<=p.1.length∧p.1.length<=16)∧p.2.length<=32rises:Ud l
theorem JD(p:Pr):QY p=0↔(1<=p.1.length∧p.1.length<=16)∧p.2.length<=32:=by
 unfold QY Qp;by_cases h:32<p.2.length;·rw[if_pos h];constructor;(·intro h;cases h);·intro h;omega
 ·rw[if_neg h];by_cases h2:1<=p.1.length∧p.1.length<=16;(·rw[if_pos h2];exact⟨fun _=>⟨h2,by omega⟩,fun _=>rfl⟩);·rw[if_neg h2];constructor;(·intro h;cases h);·intro h;exact absurd h.1 h2
theorem Fi(l:PL)(i:Nat):XI l i=0↔QY (l.getD i ([],[]))=0∧(0<i->YD (l.getD (i-1) ([],[])).1 (l.getD i ([],[])).1=L):=by
 unfold XI;by_cases h:QY (l.getD i ([],[]))=0;·rw[if_pos h];by_cases h2:0<i∧YD (l.getD (i-1) ([],[])).1 (l.getD i ([],[])).1=tA;(·rw[if_pos h2];constructor;(·intro h;cases h);·intro h3;have:=h3.2 h2.1;rw[h2.2]at this;cases this);·rw[if_neg h2];refine⟨fun _=>⟨h,fun hi=>?_⟩,fun _=>rfl⟩;cases hk:YD (l.getD (i-1) ([],[])).1 (l.getD i ([],[])).1with|true=>rfl|false=>exact absurd ⟨hi,hk⟩ h2
 ·rw[if_neg h];constructor;(·intro h2;exact absurd h2 h);·intro h2;exact absurd h2.1 h
theorem xH:∀l:PL,(∀i,0<i->i<l.length->YD (l.getD (i-1) ([],[])).1 (l.getD i ([],[])).1=L)->Ud l|[],_=>rB|[_],_=>sR _ _|p::q::r,h=>by(have ih:Ud (q::r):=xH (q::r) fun i h0 hi=>by have:=h (i+1) (by omega) (by simp at hi⊢;omega);rw[show i+1-1=(i-1)+1by omega]at this;simpa using this);(have h01:YD p.1 q.1=L:=by have:=h 1 (by omega) (by simp);simpa using this);refine tU (fun x hx=>?_) ih;rcases tP.1 hx with rfl|hx;(·exact h01);·exact Jg _ _ _ h01 ((tY.1 ih).1 x hx)
theorem UK(l:PL)(h:Ud l)(i j:Nat)(hij:i<j)(hj:j<l.length):YD (l.getD i ([],[])).1 (l.getD j ([],[])).1=L:=by
 have:=pE.1 h i j (by omega) hj hij;simpa[hj,show i<l.length by omega]using this
theorem YP(l:PL):QC l=0↔ZH l:=by
 constructor;·intro h;(have hl:l.length<=60:=by by_cases hl:60<l.length;(·rw[zM l hl]at h;cases h);·omega);rw[QC,if_neg (by omega)]at h;have ha:=fun j(hj:j<l.length)=>(Fi l j).1 (xN l l.length 0 h j (by omega) (by omega));refine⟨hl,fun p hp=>?_,xH l fun i h0 hi=>(ha i hi).2 h0⟩;obtain⟨i,hi,rfl⟩:=N.1 hp;have:=(JD _).1 (ha i hi).1;simpa[hi]using this
 ·intro h;refine zP l h.room fun j hj=>(Fi l j).2 ⟨(JD _).2 ?_,fun h0=>UK l h.rises _ _ (by omega) hj⟩;have:=h.pairs l[j] (sC hj);simpa[hj]using this
theorem OW:ZH []:=⟨by
 simp,by
 simp,rB⟩
def xL(l:PL)(k:List UInt8):Option (List UInt8):=(l.find? fun p=>p.1==k).map (·.2)
theorem Jx(p:Pr)(l:PL)(k:List UInt8):xL (p::l) k=if p.1=k then F p.2 else xL l k:=by
 unfold xL;by_cases h:p.1=k;·rw[pL (by simpa using h),if_pos h];rfl
 ·rw[pM (by simpa using h),if_neg h]
theorem Oj:∀(l:PL)(k:List UInt8)(i:Nat),i<l.length->(∀j,j<i->(l.getD j ([],[])).1≠k)->(l.getD i ([],[])).1=k->xL l k=F (l.getD i ([],[])).2|[],_,_,h,_,_=>by simp at h|p::l,k,0,_,_,h2=>by rw[Jx,if_pos (by simpa using h2)];simp|p::l,k,i+1,h,h1,h2=>by rw[Jx,if_neg (by simpa using h1 0 (by omega))];have:=Oj l k i (by simpa using h) (fun j hj=>by simpa using h1 (j+1) (by omega)) (by simpa using h2);simpa using this
theorem DR:∀(l:PL)(k:List UInt8),(∀j,j<l.length->(l.getD j ([],[])).1≠k)->xL l k=H|[],_,_=>rfl|p::l,k,h=>by rw[Jx,if_neg (by simpa using h 0 (by simp))];exact DR l k fun j hj=>by simpa using h (j+1) (by simpa using hj)
def JI:PL->Pr->PL|[],p=>[p]|q::r,p=>if YD q.1 p.1=L then q::JI r p else if q.1=p.1then p::r else p::q::r
def zV(l:PL)(k:List UInt8):PL:=l.filter fun q=>!(q.1==k)
def Vl(l:PL)(a b:List UInt8):PL:=l.filter fun q=>!YD q.1 a&&!YD b q.1
theorem Mw(l:PL)(p x:Pr):x∈JI l p->x=p∨x∈l:=by
 induction l with|nil=>intro h;simp[JI]at h;exact .inl h|cons q r ih=>intro h;rw[JI]at h;by_cases h1:YD q.1 p.1=L;(·rw[if_pos h1]at h;rcases tP.1 h with rfl|h;(·exact .inr (by simp));·rcases ih h with h|h;(·exact .inl h);·exact .inr (tZ _ h));·rw[if_neg h1]at h;by_cases h2:q.1=p.1;(·rw[if_pos h2]at h;rcases tP.1 h with h|h;(·exact .inl h);·exact .inr (tZ _ h));·rw[if_neg h2]at h;rcases tP.1 h with h|h;(·exact .inl h);·exact .inr h
theorem Pi(l:PL)(p:Pr)(h:Ud l):Ud (JI l p):=by
 induction l with|nil=>exact sR _ _|cons q r ih=>have hr:=tY.1 h;rw[JI];by_cases h1:YD q.1 p.1=L;(·rw[if_pos h1];refine tU (fun x hx=>?_) (ih hr.2);rcases Mw r p x hx with rfl|hx;(·exact h1);·exact hr.1 x hx);·rw[if_neg h1];by_cases h2:q.1=p.1;(·rw[if_pos h2];exact tU (fun x hx=>by rw[<-h2];exact hr.1 x hx) hr.2);·rw[if_neg h2];have hpq:=K8 _ _ (by simpa using h1) h2;refine tU (fun x hx=>?_) h;rcases tP.1 hx with rfl|hx;(·exact hpq);·exact Jg _ _ _ hpq (hr.1 x hx)
theorem dZ(l:PL)(p:Pr)(k:List UInt8)(h:Ud l):xL (JI l p) k=if p.1=k then F p.2 else xL l k:=by
 induction l with|nil=>rw[JI,Jx]|cons q r ih=>have hr:=tY.1 h;rw[JI];by_cases h1:YD q.1 p.1=L;(·rw[if_pos h1,Jx,Jx,ih hr.2];by_cases e:p.1=k;(·rw[if_pos e,if_pos e,if_neg (fun e2=>Br h1 (e2.trans e.symm))]);·rw[if_neg e,if_neg e]);·rw[if_neg h1];by_cases h2:q.1=p.1;(·rw[if_pos h2,Jx,Jx];by_cases e:p.1=k;(·rw[if_pos e,if_pos e]);·rw[if_neg e,if_neg e,if_neg (by rw[h2];exact e)]);·rw[if_neg h2,Jx]
theorem dF(l:PL)(k x:List UInt8):xL (zV l k) x=if k=x then H else xL l x:=by
 induction l with|nil=>simp[zV,xL]|cons q r ih=>unfold zV at ih⊢;by_cases e:q.1=k;(·rw[sS (by simp[e]),ih,Jx];by_cases e2:k=x;(·rw[if_pos e2,if_pos e2]);·rw[if_neg e2,if_neg e2,if_neg (by rw[e];exact e2)]);·rw[pH (by simp[e]),Jx,ih,Jx];by_cases e2:k=x;(·rw[if_pos e2,if_pos e2,if_neg (by rw[<-e2];exact e)]);·rw[if_neg e2,if_neg e2]
theorem Nu(l:PL)(k:List UInt8)(h:Ud l):Ud (zV l k):=sU _ h
theorem C9(l:PL)(a b:List UInt8)(h:Ud l):Ud (Vl l a b):=sU _ h
def Xc(l:PL)(k:List UInt8):Int:=if QC l=0then Qp k.length else QC l
theorem jH{l:PL}{k:List UInt8}(h:Xc l k=0):ZH l:=by
 unfold Xc at h;by_cases h0:QC l=0;·exact(YP l).1 h0
 ·rw[if_neg h0]at h;exact absurd h h0
theorem Zv(n:Nat):Qp n=0↔1<=n∧n<=16:=by
 unfold Qp;by_cases h:1<=n∧n<=16;·rw[if_pos h];exact⟨fun _=>h,fun _=>rfl⟩
 ·rw[if_neg h];constructor;(·intro h2;cases h2);·intro h2;exact absurd h2 h
theorem Ot{l:PL}{k:List UInt8}(h:Xc l k=0):1<=k.length∧k.length<=16:=by
 have ht:=(YP l).2 (jH h);unfold Xc at h;rw[if_pos ht]at h;exact(Zv _).1 h
theorem vZ{l:PL}{k:List UInt8}(h:ZH l)(hk:1<=k.length∧k.length<=16):Xc l k=0:=by
 unfold Xc;rw[if_pos ((YP l).2 h)];exact(Zv _).2 hk
def Ei(l:PL)(k:List UInt8):Bool:=Xc l k==0&&(xL l k).isSome
def Ek(l:PL)(k:List UInt8):List UInt8:=if Xc l k=0then(xL l k).getD []else[]
def zX(l:PL)(k:List UInt8):PL:=if Xc l k=0then zV l k else[]
theorem Mm(l:PL)(k:List UInt8):(zV l k).length<=l.length:=sZ _ _
def Yz(l:PL)(f t:List UInt8):Int:=if Xc l f=0then Qp t.length else Xc l f
theorem BE{l:PL}{f t:List UInt8}(h:Yz l f t=0):Xc l f=0:=by
 unfold Yz at h;by_cases h0:Xc l f=0;·exact h0
 ·rw[if_neg h0]at h;exact absurd h h0
def KT(l:PL)(f t:List UInt8):PL:=if Yz l f t=0then Vl l f t else[]
theorem Wv(l:PL)(f t:List UInt8):(Vl l f t).length<=l.length:=sZ _ _
def V1(l:PL)(p:Pr):Int:=if QC l=0then QY p else QC l
def Kh(l:PL)(p:Pr):Int:=if V1 l p=0then(if 60<(JI l p).length then 11 else 0)else V1 l p
def Vv(l:PL)(p:Pr):PL:=if Kh l p=0then JI l p else[]
theorem Lj(l:PL)(p:Pr):(JI l p).length<=l.length+1:=by
 induction l with|nil=>simp[JI]|cons q r ih=>rw[JI];by_cases h1:YD q.1 p.1=L;(·rw[if_pos h1];simp;omega);·rw[if_neg h1];by_cases h2:q.1=p.1;(·rw[if_pos h2];simp);·rw[if_neg h2];simp
structure uB (l : PL) : Prop where
  many : l.length * 48 <= 140737488355328
  each : ∀ i, i < l.length -> (l.getD i ([], [])).1.length <= 140737488355328 ∧ (l.getD i ([], [])).2.length <= 140737488355328
theorem uB.len{l:PL}(h:uB l):l.length<=140737488355328:=by
 have:=h.many;omega
theorem ZH.fits{l:PL}(h:ZH l):uB l:=by
 refine⟨by have:=h.room;omega,fun i hi=>?_⟩;have:=h.pairs l[i] (sC hi);rw[show l[i]=l.getD i ([],[])by simp[hi]]at this;omega
abbrev Tn:=List UInt8×PL
abbrev FL:=List Tn
def Xr(l:FL):Prop:=l.Pairwise fun p q=>YD p.1 q.1=L
def Y0(l:FL)(k:List UInt8):Option PL:=(l.find? fun p=>p.1==k).map (·.2)
theorem Zz(p:Tn)(l:FL)(k:List UInt8):Y0 (p::l) k=if p.1=k then F p.2 else Y0 l k:=by
 unfold Y0;by_cases h:p.1=k;·rw[pL (by simpa using h),if_pos h];rfl
 ·rw[pM (by simpa using h),if_neg h]
theorem CY:∀(l:FL)(k:List UInt8)(i:Nat),i<l.length->(∀j,j<i->(l.getD j ([],[])).1≠k)->(l.getD i ([],[])).1=k->Y0 l k=F (l.getD i ([],[])).2|[],_,_,h,_,_=>by simp at h|p::l,k,0,_,_,h2=>by rw[Zz,if_pos (by simpa using h2)];simp|p::l,k,i+1,h,h1,h2=>by rw[Zz,if_neg (by simpa using h1 0 (by omega))];have:=CY l k i (by simpa using h) (fun j hj=>by simpa using h1 (j+1) (by omega)) (by simpa using h2);simpa using this
theorem kJ:∀(l:FL)(k:List UInt8),(∀j,j<l.length->(l.getD j ([],[])).1≠k)->Y0 l k=H|[],_,_=>rfl|p::l,k,h=>by rw[Zz,if_neg (by simpa using h 0 (by simp))];exact kJ l k fun j hj=>by simpa using h (j+1) (by simpa using hj)
def YK:FL->Tn->FL|[],p=>[p]|q::r,p=>if YD q.1 p.1=L then q::YK r p else if q.1=p.1then p::r else p::q::r
def GA(l:FL)(k:List UInt8):FL:=l.filter fun q=>!(q.1==k)
theorem EP(l:FL)(p x:Tn):x∈YK l p->x=p∨x∈l:=by
 induction l with|nil=>intro h;simp[YK]at h;exact .inl h|cons q r ih=>intro h;rw[YK]at h;by_cases h1:YD q.1 p.1=L;(·rw[if_pos h1]at h;rcases tP.1 h with rfl|h;(·exact .inr (by simp));·rcases ih h with h|h;(·exact .inl h);·exact .inr (tZ _ h));·rw[if_neg h1]at h;by_cases h2:q.1=p.1;(·rw[if_pos h2]at h;rcases tP.1 h with h|h;(·exact .inl h);·exact .inr (tZ _ h));·rw[if_neg h2]at h;rcases tP.1 h with h|h;(·exact .inl h);·exact .inr h
theorem Dh(l:FL)(p:Tn)(h:Xr l):Xr (YK l p):=by
 induction l with|nil=>exact sR _ _|cons q r ih=>have hr:=tY.1 h;rw[YK];by_cases h1:YD q.1 p.1=L;(·rw[if_pos h1];refine tU (fun x hx=>?_) (ih hr.2);rcases EP r p x hx with rfl|hx;(·exact h1);·exact hr.1 x hx);·rw[if_neg h1];by_cases h2:q.1=p.1;(·rw[if_pos h2];exact tU (fun x hx=>by rw[<-h2];exact hr.1 x hx) hr.2);·rw[if_neg h2];have hpq:=K8 _ _ (by simpa using h1) h2;refine tU (fun x hx=>?_) h;rcases tP.1 hx with rfl|hx;(·exact hpq);·exact Jg _ _ _ hpq (hr.1 x hx)
theorem Iy(l:FL)(p:Tn)(k:List UInt8)(h:Xr l):Y0 (YK l p) k=if p.1=k then F p.2 else Y0 l k:=by
 induction l with|nil=>rw[YK,Zz]|cons q r ih=>have hr:=tY.1 h;rw[YK];by_cases h1:YD q.1 p.1=L;(·rw[if_pos h1,Zz,Zz,ih hr.2];by_cases e:p.1=k;(·rw[if_pos e,if_pos e,if_neg (fun e2=>Br h1 (e2.trans e.symm))]);·rw[if_neg e,if_neg e]);·rw[if_neg h1];by_cases h2:q.1=p.1;(·rw[if_pos h2,Zz,Zz];by_cases e:p.1=k;(·rw[if_pos e,if_pos e]);·rw[if_neg e,if_neg e,if_neg (by rw[h2];exact e)]);·rw[if_neg h2,Zz]
theorem LJ(l:FL)(k x:List UInt8):Y0 (GA l k) x=if k=x then H else Y0 l x:=by
 induction l with|nil=>simp[GA,Y0]|cons q r ih=>unfold GA at ih⊢;by_cases e:q.1=k;(·rw[sS (by simp[e]),ih,Zz];by_cases e2:k=x;(·rw[if_pos e2,if_pos e2]);·rw[if_neg e2,if_neg e2,if_neg (by rw[e];exact e2)]);·rw[pH (by simp[e]),Zz,ih,Zz];by_cases e2:k=x;(·rw[if_pos e2,if_pos e2,if_neg (by rw[<-e2];exact e)]);·rw[if_neg e2,if_neg e2]
theorem CZ(l:FL)(k:List UInt8)(h:Xr l):Xr (GA l k):=sU _ h
theorem KI(l:FL)(k:List UInt8)(h:∀p∈l,YD k p.1=L):Y0 l k=H:=kJ l k fun j hj e=>by
 have:=h l[j] (sC hj);rw[show l[j]=l.getD j ([],[])by simp[hj],e,XN]at this;cases this
theorem Fo:∀(l m:FL),Xr l->Xr m->(∀k,Y0 l k=Y0 m k)->l=m|[],[],_,_,_=>rfl|[],q::r,_,_,h=>by have:=h q.1;rw[Zz,if_pos rfl]at this;cases this|p::l,[],_,_,h=>by have:=h p.1;rw[Zz,if_pos rfl]at this;cases this|p::l,q::r,hl,hr,h=>by have h1:=tY.1 hl;have h2:=tY.1 hr;(have hk:p.1=q.1:=by cases e:YD p.1 q.1with|true=>have:=h p.1;rw[Zz,if_pos rfl,KI (q::r) p.1 fun x hx=>by rcases tP.1 hx with rfl|hx;(·exact e);·exact Jg _ _ _ e (h2.1 x hx)]at this;cases this|false=>by_cases e2:p.1=q.1;(·exact e2);·have e3:=K8 _ _ e e2;have:=h q.1;rw[Zz (p:=q),if_pos rfl,KI (p::l) q.1 fun x hx=>by rcases tP.1 hx with rfl|hx;(·exact e3);·exact Jg _ _ _ e3 (h1.1 x hx)]at this;cases this);(have hv:p.2=q.2:=by have:=h p.1;rw[Zz,if_pos rfl,Zz,if_pos hk.symm]at this;exact rU this);have hp:p=q:=Prod.ext hk hv;subst hp;congr 1;refine Fo l r h1.2 h2.2 fun k=>?_;by_cases e:p.1=k;(·subst e;rw[KI l p.1 h1.1,KI r p.1 h2.1]);·have:=h k;rw[Zz,Zz,if_neg e,if_neg e]at this;exact this
theorem Wq(l:FL)(p:Tn):(YK l p).length<=l.length+1:=by
 induction l with|nil=>simp[YK]|cons q r ih=>rw[YK];by_cases h1:YD q.1 p.1=L;(·rw[if_pos h1];simp;omega);·rw[if_neg h1];by_cases h2:q.1=p.1;(·rw[if_pos h2];simp);·rw[if_neg h2];simp
theorem NH(l:FL)(k:List UInt8):(GA l k).length<=l.length:=sZ _ _
def Qt(n:Nat):Int:=if 1<=n∧n<=8then 0 else 1
theorem ZD(n:Nat):Qt n=0↔1<=n∧n<=8:=by
 unfold Qt;by_cases h:1<=n∧n<=8;·rw[if_pos h];exact⟨fun _=>h,fun _=>rfl⟩
 ·rw[if_neg h];constructor;(·intro h2;cases h2);·intro h2;exact absurd h2 h
def XC(t:Tn):Int:=if Qt t.1.length=0then(if t.2.length=0then 4 else QC t.2)else Qt t.1.length
theorem vX(t:Tn):XC t=0↔(1<=t.1.length∧t.1.length<=8)∧t.2≠[]∧ZH t.2:=by
 unfold XC;by_cases h:Qt t.1.length=0;·rw[if_pos h];by_cases h2:t.2.length=0;(·rw[if_pos h2];constructor;(·intro h3;cases h3);·intro h3;exact absurd (V h2) h3.2.1);·rw[if_neg h2,YP];exact⟨fun h3=>⟨(ZD _).1 h,fun e=>h2 (by rw[e];rfl),h3⟩,fun h3=>h3.2.2⟩
 ·rw[if_neg h];constructor;(·intro h2;exact absurd h2 h);·intro h2;exact absurd ((ZD _).2 h2.1) h
def Kk(l:FL)(i:Nat):Int:=if XC (l.getD i ([],[]))=0then(if 0<i∧YD (l.getD (i-1) ([],[])).1 (l.getD i ([],[])).1=tA then 3 else 0)else XC (l.getD i ([],[]))
def VC(l:FL):Nat->Nat->Int|0,_=>0|n+1,i=>if Kk l i=0then VC l n (i+1)else Kk l i
def Q8(l:FL):Int:=if 8<l.length then 1 else VC l l.length 0
theorem jQ(l:FL)(n i:Nat)(hi:i<=n)(h:∀j,j<i->Kk l j=0):VC l n 0=VC l (n-i) i:=by
 induction i with|zero=>rfl|succ i ih=>rw[ih (by omega) (fun j hj=>h j (by omega)),show n-i=(n-(i+1))+1by omega,VC,if_pos (h i (by omega))]
theorem RW(l:FL)(i:Nat)(hi:i<l.length)(hl:l.length<=8)(h:∀j,j<i->Kk l j=0)(hf:Kk l i≠0):Q8 l=Kk l i:=by
 rw[Q8,if_neg (by omega),jQ l _ i (by omega) h,show l.length-i=(l.length-(i+1))+1by omega,VC,if_neg hf]
theorem uO(l:FL)(hl:l.length<=8)(h:∀j,j<l.length->Kk l j=0):Q8 l=0:=by
 rw[Q8,if_neg (by omega),jQ l _ l.length (sB _) h,oI,VC]
theorem vS(l:FL)(hl:8<l.length):Q8 l=1:=by
 rw[Q8,if_pos hl]
theorem vO(l:FL):∀(n i:Nat),VC l n i=0->∀j,i<=j->j<i+n->Kk l j=0|0,i,_,j,h1,h2=>by omega|n+1,i,h,j,h1,h2=>by rw[VC]at h;by_cases e:Kk l i=0;(·rw[if_pos e]at h;by_cases hj:j=i;(·subst hj;exact e);·exact vO l n (i+1) h j (by omega) (by omega));·rw[if_neg e]at h;exact absurd h e
theorem EG(l:FL)(i:Nat):Kk l i=0↔XC (l.getD i ([],[]))=0∧(0<i->YD (l.getD (i-1) ([],[])).1 (l.getD i ([],[])).1=L):=by
 unfold Kk;by_cases h:XC (l.getD i ([],[]))=0;·rw[if_pos h];by_cases h2:0<i∧YD (l.getD (i-1) ([],[])).1 (l.getD i ([],[])).1=tA;(·rw[if_pos h2];constructor;(·intro h;cases h);·intro h3;have:=h3.2 h2.1;rw[h2.2]at this;cases this);·rw[if_neg h2];refine⟨fun _=>⟨h,fun hi=>?_⟩,fun _=>rfl⟩;cases hk:YD (l.getD (i-1) ([],[])).1 (l.getD i ([],[])).1with|true=>rfl|false=>exact absurd ⟨hi,hk⟩ h2
 ·rw[if_neg h];constructor;(·intro h2;exact absurd h2 h);·intro h2;exact absurd h2.1 h
theorem G4:∀l:FL,(∀i,0<i->i<l.length->YD (l.getD (i-1) ([],[])).1 (l.getD i ([],[])).1=L)->Xr l|[],_=>rB|[_],_=>sR _ _|p::q::r,h=>by(have ih:Xr (q::r):=G4 (q::r) fun i h0 hi=>by have:=h (i+1) (by omega) (by simp at hi⊢;omega);rw[show i+1-1=(i-1)+1by omega]at this;simpa using this);(have h01:YD p.1 q.1=L:=by have:=h 1 (by omega) (by simp);simpa using this);refine tU (fun x hx=>?_) ih;rcases tP.1 hx with rfl|hx;(·exact h01);·exact Jg _ _ _ h01 ((tY.1 ih).1 x hx)
theorem qZ(l:FL)(h:Xr l)(i j:Nat)(hij:i<j)(hj:j<l.length):YD (l.getD i ([],[])).1 (l.getD j ([],[])).1=L:=by
 have:=pE.1 h i j (by omega) hj hij;simpa[hj,show i<l.length by omega]using this
structure Z5(l:FL):Prop where room:l.length<=8tens:∀t∈l,(1<=t.1.length∧t.1.length<=8)∧t.2≠[]∧ZH t.2rises:Xr l
theorem X6(l:FL):Q8 l=0↔Z5 l:=by
 constructor;·intro h;(have hl:l.length<=8:=by by_cases hl:8<l.length;(·rw[vS l hl]at h;cases h);·omega);rw[Q8,if_neg (by omega)]at h;have ha:=fun j(hj:j<l.length)=>(EG l j).1 (vO l l.length 0 h j (by omega) (by omega));refine⟨hl,fun p hp=>?_,G4 l fun i h0 hi=>(ha i hi).2 h0⟩;obtain⟨i,hi,rfl⟩:=N.1 hp;have:=(vX _).1 (ha i hi).1;simpa[hi]using this
 ·intro h;refine uO l h.room fun j hj=>(EG l j).2 ⟨(vX _).2 ?_,fun h0=>qZ l h.rises _ _ (by omega) hj⟩;have:=h.tens l[j] (sC hj);simpa[hj]using this
theorem qM:Z5 []:=⟨by
 simp,by
 simp,rB⟩
def YE(l:FL)(n:List UInt8):PL:=(Y0 l n).getD []
theorem fT(n:List UInt8):YE [] n=[]:=rfl
theorem KG{l:FL}(h:Z5 l)(n:List UInt8):ZH (YE l n):=by
 unfold YE Y0;cases hf:l.find? (fun p=>p.1==n)with|none=>exact OW|some t=>exact(h.tens t (pF hf)).2.2
theorem forest_ext{l m:FL}(hl:Z5 l)(hm:Z5 m)(h:∀n,YE l n=YE m n):l=m:=by
 have hs:∀{l:FL},Z5 l->∀n,Y0 l n=if YE l n=[]then H else F (YE l n):=by intro l hl n;unfold YE;cases hf:l.find? (fun p=>p.1==n)with|none=>(have:Y0 l n=H:=by unfold Y0;rw[hf];rfl);rw[this];rfl|some t=>(have hg:Y0 l n=F t.2:=by unfold Y0;rw[hf];rfl);have hne:=(hl.tens t (pF hf)).2.1;rw[hg,if_neg (by simpa using hne)];rfl
 refine Fo l m hl.rises hm.rises fun n=>?_;rw[hs hl,hs hm,h n]
def QD(w:Zd):Int:=if Qt w.name.length=0then(if w.gone=L then(if Qp w.key.length=0then(if 0<w.value.length then 4 else 0)else Qp w.key.length)else QY (w.key,w.value))else Qt w.name.length
def XJ(l:FL)(w:Zd):PL:=if w.gone=L then zV (YE l w.name) w.key else JI (YE l w.name) (w.key,w.value)
def qE(l:FL)(w:Zd):Int:=if w.gone=L then Xc (YE l w.name) w.key else Kh (YE l w.name) (w.key,w.value)
def Za(l:FL)(w:Zd):FL:=if(XJ l w).length=0then GA l w.name else YK l (w.name,XJ l w)
def XW(l:FL)(w:Zd):Int:=if qE l w=0then(if 8<(Za l w).length then 11 else 0)else qE l w
def Zy:FL->List Zd->Int|_,[]=>0|l,w::ws=>if QD w=0then(if XW l w=0then Zy (Za l w) ws else XW l w)else QD w
def XX:FL->List Zd->FL|l,[]=>l|l,w::ws=>XX (Za l w) ws
def QQ(l:FL)(ws:List Zd):Int:=if Q8 l=0then(if 10<ws.length then 1 else Zy l ws)else Q8 l
def Xv(l:FL)(ws:List Zd):FL:=if QQ l ws=0then XX l ws else[]
theorem XK(w:Zd):QD w=0↔(1<=w.name.length∧w.name.length<=8)∧(1<=w.key.length∧w.key.length<=16)∧(if w.gone=L then w.value=[]else w.value.length<=32):=by
 unfold QD;by_cases hn:Qt w.name.length=0;·rw[if_pos hn];have hn':=(ZD _).1 hn;by_cases hg:w.gone=L;(·rw[if_pos hg,if_pos hg];by_cases hk:Qp w.key.length=0;(·rw[if_pos hk];have hk':=(Zv _).1 hk;by_cases hv:0<w.value.length;(·rw[if_pos hv];constructor;(·intro h;cases h);·intro h;rw[h.2.2]at hv;simp at hv);·rw[if_neg hv];exact⟨fun _=>⟨hn',hk',V (by omega)⟩,fun _=>rfl⟩);·rw[if_neg hk];constructor;(·intro h;exact absurd h hk);·intro h;exact absurd ((Zv _).2 h.2.1) hk);·rw[if_neg hg,if_neg hg,JD];exact⟨fun h=>⟨hn',h.1,h.2⟩,fun h=>⟨h.2.1,h.2.2⟩⟩
 ·rw[if_neg hn];constructor;(·intro h;exact absurd h hn);·intro h;exact absurd ((ZD _).2 h.1) hn
theorem It{l:FL}(h:Z5 l){w:Zd}(hw:QD w=0)(he:qE l w=0):ZH (XJ l w):=by
 obtain⟨_,hk,hv⟩:=(XK w).1 hw;have hT:=KG h w.name;unfold XJ;unfold qE at he;by_cases hg:w.gone=L;·rw[if_pos hg];exact⟨rF (Mm _ _) hT.room,fun p hp=>hT.pairs p (r8.1 hp).1,Nu _ _ hT.rises⟩
 ·rw[if_neg hg]at he hv⊢;(have h60:¬60<(JI (YE l w.name) (w.key,w.value)).length:=by intro h60;unfold Kh at he;by_cases h0:V1 (YE l w.name) (w.key,w.value)=0;(·rw[if_pos h0,if_pos h60]at he;cases he);·rw[if_neg h0]at he;exact h0 he);refine⟨by omega,fun q hq=>?_,Pi _ _ hT.rises⟩;rcases Mw _ _ q hq with rfl|hq;(·exact⟨hk,hv⟩);·exact hT.pairs q hq
theorem Eg{l:FL}(h:Xr l)(w:Zd):Xr (Za l w):=by
 unfold Za;by_cases hn:(XJ l w).length=0;·rw[if_pos hn];exact CZ _ _ h
 ·rw[if_neg hn];exact Dh _ _ h
theorem RK{l:FL}(h:Xr l)(w:Zd)(n:List UInt8):YE (Za l w) n=if w.name=n then XJ l w else YE l n:=by
 unfold Za;by_cases hn:(XJ l w).length=0;·rw[if_pos hn];have hn':XJ l w=[]:=V hn;rw[hn'];unfold YE;rw[LJ];by_cases e:w.name=n;(·rw[if_pos e,if_pos e];rfl);·rw[if_neg e,if_neg e]
 ·rw[if_neg hn];unfold YE;rw[Iy _ _ _ h];by_cases e:w.name=n;(·rw[if_pos e,if_pos e];rfl);·rw[if_neg e,if_neg e]
theorem V3{l:FL}(h:Z5 l){w:Zd}(hw:QD w=0)(he:XW l w=0):Z5 (Za l w):=by
 have hE:qE l w=0:=by by_cases h0:qE l w=0;(·exact h0);·unfold XW at he;rw[if_neg h0]at he;exact absurd he h0
 have hl:(Za l w).length<=8:=by unfold XW at he;rw[if_pos hE]at he;by_cases h8:8<(Za l w).length;(·rw[if_pos h8]at he;cases he);·omega
 obtain⟨hn,_,_⟩:=(XK w).1 hw;refine⟨hl,fun t ht=>?_,Eg h.rises w⟩;unfold Za at ht;by_cases h0:(XJ l w).length=0;·rw[if_pos h0]at ht;exact h.tens t (r8.1 ht).1
 ·rw[if_neg h0]at ht;rcases EP _ _ t ht with rfl|ht;(·exact⟨hn,fun e=>h0 (by rw[show XJ l w=[]from e];rfl),It h hw hE⟩);·exact h.tens t ht
structure Rd where
  name : List UInt8
  key : List UInt8
  wide : Bool
  last : List UInt8
def Zg:Rd:=⟨[],[],tA,[]⟩
def XE(r:Rd):Int:=if Qt r.name.length=0then(if Qp r.key.length=0then(if r.wide=L then Qp r.last.length else(if 0<r.last.length then 4 else 0))else Qp r.key.length)else Qt r.name.length
theorem EF(r:Rd):XE r=0↔(1<=r.name.length∧r.name.length<=8)∧(1<=r.key.length∧r.key.length<=16)∧(if r.wide=L then 1<=r.last.length∧r.last.length<=16 else r.last=[]):=by
 unfold XE;by_cases hn:Qt r.name.length=0;·rw[if_pos hn];have hn':=(ZD _).1 hn;by_cases hk:Qp r.key.length=0;(·rw[if_pos hk];have hk':=(Zv _).1 hk;by_cases hw:r.wide=L;(·rw[if_pos hw,if_pos hw,Zv];exact⟨fun h=>⟨hn',hk',h⟩,fun h=>h.2.2⟩);·rw[if_neg hw,if_neg hw];by_cases hl:0<r.last.length;(·rw[if_pos hl];exact⟨fun h=>by omega,fun h=>by rw[h.2.2]at hl;simp at hl⟩);·rw[if_neg hl];exact⟨fun _=>⟨hn',hk',V (by omega)⟩,fun _=>rfl⟩);·rw[if_neg hk];exact⟨fun h=>absurd h hk,fun h=>absurd ((Zv _).2 h.2.1) hk⟩
 ·rw[if_neg hn];exact⟨fun h=>absurd h hn,fun h=>absurd ((ZD _).2 h.1) hn⟩
def Xb(w:I)(v:O)(p:Zd):Prop:=∃vn vk vv,v=pP #[vn,vk,pQ p.gone,vv]∧Qe w vn p.name∧Qe w vk p.key∧Qe w vv p.value
theorem Xb.grown{w w':I}{v:O}{p:Zd}(h:Xb w v p)(hg:J w w' H):Xb w' v p:=by
 obtain⟨vn,vk,vv,rfl,h1,h2,h3⟩:=h;exact⟨vn,vk,vv,rfl,h1.grown hg,h2.grown hg,h3.grown hg⟩
theorem Xb.aggW{w:I}{v:O}{p:Zd}(h:Xb w v p):∃na nc ka kc va vc,v=pP #[tH na p.name.length nc,tH ka p.key.length kc,pQ p.gone,tH va p.value.length vc]:=by
 obtain⟨vn,vk,vv,rfl,h1,h2,h3⟩:=h;obtain⟨na,nc,rfl⟩:=h1.shape;obtain⟨ka,kc,rfl⟩:=h2.shape;obtain⟨va,vc,rfl⟩:=h3.shape;exact⟨na,nc,ka,kc,va,vc,rfl⟩
def vD(w:I)(b o:Nat)(p:Zd):Prop:=∃vn vk vv,w.cell? ⟨b,o,H⟩=F vn∧w.cell? ⟨b,o+1,H⟩=F vk∧w.cell? ⟨b,o+2,H⟩=F (pQ p.gone)∧w.cell? ⟨b,o+3,H⟩=F vv∧Qe w vn p.name∧Qe w vk p.key∧Qe w vv p.value
theorem vD.grown{w w':I}{b o:Nat}{p:Zd}(h:vD w b o p)(hg:J w w' H):vD w' b o p:=by
 obtain⟨vn,vk,vv,c1,c2,c3,c4,h1,h2,h3⟩:=h;exact⟨vn,vk,vv,hg.cell c1 (by simp),hg.cell c2 (by simp),hg.cell c3 (by simp),hg.cell c4 (by simp),h1.grown hg,h2.grown hg,h3.grown hg⟩
def QR(w:I)(v:O)(l:List Zd):Prop:=∃a cap,v=tH a l.length cap∧l.length<=cap∧((l=[]∧(a=H->cap=0))∨∃b o,a=F ⟨b,o,H⟩∧∀i,i<l.length->vD w b (o+i*4) (l.getD i Qs))
theorem QR.shape{w:I}{v:O}{l:List Zd}(h:QR w v l):∃a cap,v=tH a l.length cap:=by
 obtain⟨a,cap,rfl,_⟩:=h;exact⟨a,cap,rfl⟩
theorem QR.grown{w w':I}{v:O}{l:List Zd}(h:QR w v l)(hg:J w w' H):QR w' v l:=by
 obtain⟨a,cap,rfl,hc,h⟩:=h;refine⟨a,cap,rfl,hc,?_⟩;rcases h with h|⟨b,o,rfl,h⟩;·exact .inl h
 ·exact .inr ⟨b,o,rfl,fun i hi=>(h i hi).grown hg⟩
theorem QR.at{w:I}{a:Option pG}{n cap:Nat}{l:List Zd}(h:QR w (tH a n cap) l)(i:Nat)(hi:i<l.length):∃b o,a=F ⟨b,o,H⟩∧vD w b (o+i*4) (l.getD i Qs):=by
 obtain⟨a',cap',e,hc,h⟩:=h;simp only[rD]at e;obtain⟨rfl,rfl,rfl⟩:=e;rcases h with⟨rfl,_⟩|⟨b,o,rfl,h⟩;·simp at hi
 ·exact⟨b,o,rfl,h i hi⟩
structure uE (l : List Zd) : Prop where
  many : l.length * 80 <= 140737488355328
  each : ∀ i, i < l.length -> YQ (l.getD i Qs)
theorem uE.len{l:List Zd}(h:uE l):l.length<=140737488355328:=by
 have:=h.many;omega
structure XD where
  turn : Int
  writes : List Zd
def Zl:XD:=⟨0,[]⟩
def BD:Nat->List Zd->Int|_,[]=>0|i,w::ws=>if(if 10<=i then(1:Int)else QD w)=0then BD (i+1) ws else(if 10<=i then(1:Int)else QD w)
def QZ(c:XD):Int:=if 1<=c.turn∧c.turn<=1048576then(if c.writes.length=0then 1 else BD 0 c.writes)else 2
theorem Ln:∀(ws:List Zd)(i:Nat),BD i ws=0↔(ws=[]∨i+ws.length<=10)∧∀w∈ws,QD w=0|[],i=>by simp[BD]|w::ws,i=>by have ih:=Ln ws (i+1);rw[BD];by_cases h10:10<=i;(·rw[if_pos h10,if_neg (by omega)];constructor;(·intro h;omega);·rintro⟨h|h,_⟩;(·cases h);·simp at h;omega);·rw[if_neg h10];by_cases hw:QD w=0;(·rw[if_pos hw,ih];constructor;(·rintro⟨h1,h2⟩;refine⟨.inr ?_,?_⟩;(·rcases h1 with rfl|h1;(·simp;omega);·simp;omega);·intro x hx;rcases tP.1 hx with rfl|hx;(·exact hw);·exact h2 x hx);·rintro⟨h1,h2⟩;refine⟨.inr ?_,fun x hx=>h2 x (tZ _ hx)⟩;rcases h1 with h1|h1;(·cases h1);·simp at h1;omega);·rw[if_neg hw];constructor;(·intro h;exact absurd h hw);·rintro⟨_,h2⟩;exact absurd (h2 w (rV ..)) hw
theorem KW(c:XD):QZ c=0↔(1<=c.turn∧c.turn<=1048576)∧(1<=c.writes.length∧c.writes.length<=10)∧∀w∈c.writes,QD w=0:=by
 unfold QZ;by_cases h1:1<=c.turn∧c.turn<=1048576;·rw[if_pos h1];by_cases h2:c.writes.length=0;(·rw[if_pos h2];constructor;(·intro h;omega);·rintro⟨_,h,_⟩;omega);·rw[if_neg h2,Ln];constructor;(·rintro⟨h3|h3,h4⟩;(·rw[h3]at h2;simp at h2);·exact⟨h1,⟨by omega,by omega⟩,h4⟩);·rintro⟨_,h3,h4⟩;exact⟨.inr (by omega),h4⟩
 ·rw[if_neg h1];constructor;(·intro h;omega);·rintro⟨h,_⟩;exact absurd h h1
theorem bI(ws:List Zd)(i:Nat)(h:i<ws.length):BD i (ws.drop i)=if(if 10<=i then(1:Int)else QD (ws.getD i Qs))=0then BD (i+1) (ws.drop (i+1))else(if 10<=i then(1:Int)else QD (ws.getD i Qs)):=by
 rw[sF h,BD,show ws[i]=ws.getD i Qs by simp[h]]
theorem cX(ws:List Zd):BD ws.length (ws.drop ws.length)=0:=by
 rw[List.drop_length,BD]
def XM(p:List UInt8):List UInt8:=tD p.length::p
theorem qL(p:List UInt8):(XM p).length=p.length+1:=rfl
def Gw(w:Zd):List UInt8:=if w.gone=L then[255]else XM w.value
def Yf(w:Zd):List UInt8:=XM w.name++XM w.key++Gw w
def U8(t n:Nat):List UInt8:=[tD (t/65536),tD (t/256%256),tD (t%256),tD n]
def Zi(c:XD):List UInt8:=U8 c.turn.toNat c.writes.length++c.writes.flatMap Yf
def Zt:List UInt8->Option (List UInt8×List UInt8)|[]=>H|x::r=>if x.toNat<=r.length then F (r.take x.toNat,r.drop x.toNat)else H
def uT(n k r:List UInt8):Option (Zd×List UInt8):=if r.head?=F 255then F (⟨n,k,[],L⟩,r.tail)else match Zt r with|F (v,r2)=>F (⟨n,k,v,tA⟩,r2)|none=>H
def MS(n r:List UInt8):Option (Zd×List UInt8):=match Zt r with|F (k,r2)=>uT n k r2|none=>H
def Jd(r:List UInt8):Option (Zd×List UInt8):=match Zt r with|F (n,r2)=>MS n r2|none=>H
def ZW:Nat->List UInt8->Option (List Zd×List UInt8)|0,r=>F ([],r)|n+1,r=>match Jd r with|F (w,r1)=>(match ZW n r1 with|F (ws,r2)=>F (w::ws,r2)|none=>H)|none=>H
theorem DS{p:List UInt8}(h:p.length<256):(tD p.length).toNat=p.length:=by
 simp;omega
theorem Vw(p r:List UInt8)(h:p.length<256):Zt (XM p++r)=F (p,r):=by
 show Zt (tD p.length::(p++r))=_;rw[Zt,DS h,if_pos (by simp),rN,rO]<;>rfl
theorem Gn{r p r2:List UInt8}(h:Zt r=F (p,r2)):r=XM p++r2:=by
 cases r with|nil=>cases h|cons x r=>rw[Zt]at h;by_cases hx:x.toNat<=r.length;(·rw[if_pos hx]at h;simp only[tQ,sE]at h;obtain⟨rfl,rfl⟩:=h;(have hl:(r.take x.toNat).length=x.toNat:=by simp;omega);show x::r=tD (r.take x.toNat).length::(r.take x.toNat++r.drop x.toNat);rw[hl,tE];simp);·rw[if_neg hx]at h;cases h
theorem Ae{r p r2:List UInt8}(h:Zt r=F (p,r2))(x:List UInt8):Zt (r++x)=F (p,r2++x):=by
 cases r with|nil=>cases h|cons y r=>rw[Zt]at h;by_cases hy:y.toNat<=r.length;(·rw[if_pos hy]at h;simp only[tQ,sE]at h;obtain⟨rfl,rfl⟩:=h;show Zt (y::(r++x))=_;rw[Zt,if_pos (by simp;omega),pA hy,pB hy]);·rw[if_neg hy]at h;cases h
theorem At{w:Zd}(hw:QD w=0)(r:List UInt8):Jd (Yf w++r)=F (w,r):=by
 obtain⟨h1,h2,h3⟩:=(XK w).1 hw;unfold Jd Yf;rw[tC,tC,Vw _ _ (by omega)];show MS w.name (XM w.key++(Gw w++r))=_;unfold MS;rw[Vw _ _ (by omega)];show uT w.name w.key (Gw w++r)=_;unfold uT Gw;by_cases hg:w.gone=L;·rw[if_pos hg]at h3⊢;rw[if_pos (by rfl)];obtain⟨n,k,v,g⟩:=w;simp only at hg h3;subst hg h3;rfl
 ·rw[if_neg hg]at h3⊢;rw[if_neg,Vw _ _ (by omega)];(·obtain⟨n,k,v,g⟩:=w;simp only[Bool.not_eq_true]at hg;subst hg;rfl);·show¬(F (tD w.value.length)=F 255);intro e;have:=congrArg UInt8.toNat (rU e);rw[DS (by omega)]at this;have h255:(255:UInt8).toNat=255:=rfl;omega
theorem Fv:∀(ws:List Zd)(_:∀w∈ws,QD w=0)(r:List UInt8),ZW ws.length (ws.flatMap Yf++r)=F (ws,r)|[],_,r=>rfl|w::ws,h,r=>by show ZW (ws.length+1) ((w::ws).flatMap Yf++r)=_;rw[ZW,rI,tC,At (h w (rV ..))];show(match ZW ws.length (ws.flatMap Yf++r)with|F (ws',r2)=>F (w::ws',r2)|none=>H)=_;rw[Fv ws (fun x hx=>h x (tZ _ hx)) r]
theorem Dz{r r2:List UInt8}{w:Zd}(h:Jd r=F (w,r2)):r=Yf w++r2:=by
 unfold Jd at h;cases h1:Zt r with|none=>rw[h1]at h;cases h|some q=>obtain⟨n,ra⟩:=q;rw[h1]at h;have h:MS n ra=F (w,r2):=h;unfold MS at h;cases h2:Zt ra with|none=>rw[h2]at h;cases h|some q=>obtain⟨k,rb⟩:=q;rw[h2]at h;have h:uT n k rb=F (w,r2):=h;rw[Gn h1,Gn h2];unfold uT at h;by_cases hg:rb.head?=F 255;(·rw[if_pos hg]at h;simp only[tQ,sE]at h;obtain⟨rfl,rfl⟩:=h;cases rb with|nil=>cases hg|cons x rb=>obtain rfl:x=255:=rU hg;show XM n++(XM k++255::rb)=XM n++XM k++[255]++rb;simp[tC]);·rw[if_neg hg]at h;cases h3:Zt rb with|none=>rw[h3]at h;cases h|some q=>obtain⟨v,rc⟩:=q;rw[h3]at h;simp only[tQ,sE]at h;obtain⟨rfl,rfl⟩:=h;rw[Gn h3];show XM n++(XM k++(XM v++rc))=XM n++XM k++XM v++rc;simp[tC]
theorem Pb:∀(n:Nat){r r2:List UInt8}{ws:List Zd},ZW n r=F (ws,r2)->r=ws.flatMap Yf++r2∧ws.length=n|0,r,r2,ws,h=>by rw[ZW]at h;simp only[tQ,sE]at h;obtain⟨rfl,rfl⟩:=h;exact⟨rfl,rfl⟩|n+1,r,r2,ws,h=>by rw[ZW]at h;cases h1:Jd r with|none=>rw[h1]at h;cases h|some q=>obtain⟨w,ra⟩:=q;rw[h1]at h;have h:(match ZW n ra with|F (ws,r2)=>F (w::ws,r2)|none=>H)=F (ws,r2):=h;cases h2:ZW n ra with|none=>rw[h2]at h;cases h|some q=>obtain⟨ws',rb⟩:=q;rw[h2]at h;simp only[tQ,sE]at h;obtain⟨rfl,rfl⟩:=h;obtain⟨e1,e2⟩:=Pb n h2;exact⟨by rw[Dz h1,e1,rI,tC],by simp[e2]⟩
theorem xG : ∀ (n : Nat) (r : List UInt8), ZW (n + 1) r = match ZW n r with | F (ws, r1) => (match Jd r1 with | F (w, r2) => F (ws ++ [w], r2) | none => H) | none => H
  | 0, r => by
    rw [ZW]
    cases h : Jd r with
    | none => simp [ZW, h]
    | some q => obtain ⟨w, ra⟩ := q; simp [ZW, h]
  | n + 1, r => by
    rw [ZW]
    cases h : Jd r with
    | none =>
      show H = _
      rw [ZW, h]
    | some q =>
      obtain ⟨w, ra⟩ := q
      show (match ZW (n + 1) ra with | F (ws, r2) => F (w :: ws, r2) | none => H) = _
      rw [xG n ra, show ZW (n + 1) r = (match ZW n ra with | F (ws, r2) => F (w :: ws, r2) | none => H) by rw [ZW, h]]
      cases h2 : ZW n ra with
      | none => rfl
      | some q =>
        obtain ⟨ws, rb⟩ := q
        show (match (match Jd rb with | F (w, r2) => F (ws ++ [w], r2) | none => H) with | F (ws, r2) => F (w :: ws, r2) | none => H) = (match Jd rb with | F (w', r2) => F (w :: ws ++ [w'], r2) | none => H)
        cases Jd rb with
        | none => rfl
        | some q => rfl
def Gd(b:List UInt8):Nat:=65536*(b.getD 0 0).toNat+256*(b.getD 1 0).toNat+(b.getD 2 0).toNat
def G2(b:List UInt8):Option (List Zd×List UInt8):=ZW (b.getD 3 0).toNat (b.drop 4)
def YH(b:List UInt8):Int:=if 4000<b.length then 1 else if b.length<4then 14 else match G2 b with|none=>14|F (ws,r)=>if r.length=0then QZ ⟨(Gd b:Int),ws⟩else 4
def JF(b:List UInt8):XD:=if YH b=0then(match G2 b with|F (ws,_)=>⟨(Gd b:Int),ws⟩|none=>Zl)else Zl
theorem PX(t n:Nat):(U8 t n).length=4:=rfl
theorem Ie(t n:Nat)(x:List UInt8)(ht:t<=1048576):Gd (U8 t n++x)=t:=by
 show 65536*(tD (t/65536)).toNat+256*(tD (t/256%256)).toNat+(tD (t%256)).toNat=t;simp only[pU];omega
theorem Hh(t n:Nat)(x:List UInt8)(hn:n<=10):((U8 t n++x).getD 3 0).toNat=n:=by
 show(tD n).toNat=n;simp;omega
theorem LS(t n:Nat)(x:List UInt8):(U8 t n++x).drop 4=x:=rfl
theorem A9{w:Zd}(hw:QD w=0):(Yf w).length=3+w.name.length+w.key.length+w.value.length∧(Yf w).length<=59:=by
 obtain⟨h1,h2,h3⟩:=(XK w).1 hw;unfold Yf Gw;by_cases hg:w.gone=L;·rw[if_pos hg]at h3⊢;rw[h3];simp only[T,qL,r7,List.length_nil];omega
 ·rw[if_neg hg]at h3⊢;simp only[T,qL];omega
def SS(ws:List Zd):Nat:=(ws.map fun w=>3+w.name.length+w.key.length+w.value.length).sum
theorem xQ:∀(ws:List Zd)(_:∀w∈ws,QD w=0),(ws.flatMap Yf).length=SS ws∧(ws.flatMap Yf).length<=59*ws.length|[],_=>by simp[SS]|w::ws,h=>by obtain⟨i1,i2⟩:=xQ ws (fun x hx=>h x (tZ _ hx));obtain⟨j1,j2⟩:=A9 (h w (rV ..));rw[rI,T];unfold SS at i1⊢;rw[oG,List.sum_cons,r7];omega
theorem U7{c:XD}(h:QZ c=0):(Zi c).length=4+SS c.writes∧(Zi c).length<=594:=by
 obtain⟨_,h2,h3⟩:=(KW c).1 h;obtain⟨i1,i2⟩:=xQ c.writes h3;unfold Zi;rw[T,PX];omega
theorem DD{c:XD}(h:QZ c=0)(x:List UInt8):G2 (Zi c++x)=F (c.writes,x)∧Gd (Zi c++x)=c.turn.toNat:=by
 obtain⟨h1,h2,h3⟩:=(KW c).1 h;unfold G2 Zi;rw[tC,Hh _ _ _ h2.2,LS,Ie _ _ _ (by omega)];exact⟨Fv _ h3 _,rfl⟩
theorem Di{c:XD}(h:QZ c=0):YH (Zi c)=0∧JF (Zi c)=c:=by
 obtain⟨h1,h2,h3⟩:=(KW c).1 h;obtain⟨s1,s2⟩:=U7 h;obtain⟨b1,b2⟩:=DD h [];rw[tV]at b1 b2;have hc:(⟨(Gd (Zi c):Int),c.writes⟩:XD)=c:=by rw[b2,Int.toNat_of_nonneg (by omega)]
 have hd:YH (Zi c)=0:=by rw[YH,if_neg (by omega),if_neg (by omega),b1];show(if([]:List UInt8).length=0then QZ ⟨(Gd (Zi c):Int),c.writes⟩else 4)=0;rw[if_pos (show([]:List UInt8).length=0from rfl),hc,h]
 refine⟨hd,?_⟩;rw[JF,if_pos hd,b1];exact hc
theorem Mn{b:List UInt8}(h:YH b=0):QZ (JF b)=0∧Zi (JF b)=b:=by
 have hC:JF b=(match G2 b with|F (ws,_)=>⟨(Gd b:Int),ws⟩|none=>Zl):=by rw[JF,if_pos h]
 rw[YH]at h;by_cases h1:4000<b.length;·rw[if_pos h1]at h;omega
 rw[if_neg h1]at h;by_cases h2:b.length<4;·rw[if_pos h2]at h;omega
 rw[if_neg h2]at h;cases hb:G2 b with|none=>rw[hb]at h;simp at h|some q=>obtain⟨ws,r⟩:=q;rw[hb]at h hC;have h:(if r.length=0then QZ ⟨(Gd b:Int),ws⟩else 4)=0:=h;have hC:JF b=⟨(Gd b:Int),ws⟩:=hC;by_cases hr:r.length=0;(·rw[if_pos hr]at h;obtain rfl:r=[]:=V hr;rw[hC];refine⟨h,?_⟩;obtain⟨k1,k2,k3⟩:=(KW _).1 h;unfold G2 at hb;obtain⟨e1,e2⟩:=Pb _ hb;rw[tV]at e1;show U8 ((Gd b:Int)).toNat ws.length++ws.flatMap Yf=b;rw[<-e1,e2,rJ];match b,h2 with|x0::x1::x2::x3::t,_=>show U8 (65536*x0.toNat+256*x1.toNat+x2.toNat) x3.toNat++t=_;have a0:=x0.toNat_lt;have a1:=x1.toNat_lt;have a2:=x2.toNat_lt;have a3:=x3.toNat_lt;unfold U8;rw[show(65536*x0.toNat+256*x1.toNat+x2.toNat)/65536=x0.toNat by omega,show(65536*x0.toNat+256*x1.toNat+x2.toNat)/256%256=x1.toNat by omega,show(65536*x0.toNat+256*x1.toNat+x2.toNat)%256=x2.toNat by omega];simp);·rw[if_neg hr]at h;omega
def FQ(b:List UInt8):List UInt8:=tD (b.length/256)::tD (b.length%256)::b
theorem xA(b:List UInt8):(FQ b).length=b.length+2:=rfl
def ZI(D:List UInt8->List UInt8)(c:XD):List UInt8:=FQ (Zi c)++D (FQ (Zi c))
def Zh(r:List UInt8):Nat:=256*(r.getD 0 0).toNat+(r.getD 1 0).toNat
def XG(D:List UInt8->List UInt8)(r:List UInt8):Option (XD×List UInt8):=if r.length<6then H else if r.length<Zh r+6∨4000<Zh r+2then H else if D (r.take (Zh r+2))=(r.drop (Zh r+2)).take 4then(if YH ((r.drop 2).take (Zh r))=0then F (JF ((r.drop 2).take (Zh r)),r.drop (Zh r+6))else H)else H
theorem BP{D:List UInt8->List UInt8}{r r2:List UInt8}{c:XD}(h:XG D r=F (c,r2)):∃m,6<=m∧m<=r.length∧r2=r.drop m∧QZ c=0:=by
 unfold XG at h;by_cases h1:r.length<6;·rw[if_pos h1]at h;cases h
 rw[if_neg h1]at h;by_cases h2:r.length<Zh r+6∨4000<Zh r+2;·rw[if_pos h2]at h;cases h
 rw[if_neg h2]at h;by_cases h3:D (r.take (Zh r+2))=(r.drop (Zh r+2)).take 4;·rw[if_pos h3]at h;by_cases h4:YH ((r.drop 2).take (Zh r))=0;(·rw[if_pos h4]at h;simp only[tQ,sE]at h;obtain⟨rfl,rfl⟩:=h;exact⟨Zh r+6,by omega,by omega,rfl,(Mn h4).1⟩);·rw[if_neg h4]at h;cases h
 ·rw[if_neg h3]at h;cases h
theorem E6{b:List UInt8}(h:b.length<65536)(x:List UInt8):Zh (FQ b++x)=b.length:=by
 show 256*(tD (b.length/256)).toNat+(tD (b.length%256)).toNat=b.length;simp only[pU];omega
theorem Pz{D:List UInt8->List UInt8}(hD:∀x,(D x).length=4)(c:XD):(ZI D c).length=(Zi c).length+6:=by
 unfold ZI;rw[T,hD,xA]
theorem BF{D:List UInt8->List UInt8}(hD:∀x,(D x).length=4){c:XD}(h:QZ c=0)(r:List UInt8):XG D (ZI D c++r)=F (c,r):=by
 obtain⟨s1,s2⟩:=U7 h;obtain⟨d1,d2⟩:=Di h;have hl:=Pz hD c;have hz:Zh (ZI D c++r)=(Zi c).length:=by unfold ZI;rw[tC];exact E6 (by omega) _
 have ht:(ZI D c++r).take ((Zi c).length+2)=FQ (Zi c):=by unfold ZI;rw[tC];exact rN (xA _)
 have hd:(ZI D c++r).drop ((Zi c).length+2)=D (FQ (Zi c))++r:=by unfold ZI;rw[tC];exact rO (xA _)
 have hm:((ZI D c++r).drop 2).take (Zi c).length=Zi c:=by unfold ZI;rw[tC];exact rN rfl
 have he:(ZI D c++r).drop ((Zi c).length+6)=r:=rO hl;have hlen:(ZI D c++r).length=(Zi c).length+6+r.length:=by rw[T,hl]
 unfold XG;rw[if_neg (by omega),hz,if_neg (by omega),ht,hd,hm,he,if_pos (rN (hD _)).symm,if_pos d1,d2]
theorem SO{D:List UInt8->List UInt8}(hD:∀x,(D x).length=4){c:XD}(h:QZ c=0)(k:Nat)(hk:k<(ZI D c).length):XG D ((ZI D c).take k)=H:=by
 obtain⟨s1,s2⟩:=U7 h;have hl:=Pz hD c;have hkl:((ZI D c).take k).length=k:=by simp;omega
 unfold XG;by_cases h6:k<6;·rw[if_pos (by omega)]
 ·(have hz:Zh ((ZI D c).take k)=(Zi c).length:=by(have hz:Zh (ZI D c++[])=(Zi c).length:=by unfold ZI;rw[tC];exact E6 (by omega) _);rw[tV]at hz;rw[<-hz];unfold Zh;simp only[List.getD_eq_getElem?_getD,pW];rw[if_pos (by omega),if_pos (by omega)]);rw[if_neg (by omega),hz,if_pos (by omega)]
def KD(D:List UInt8->List UInt8)(turn:Nat)(r:List UInt8):List XD×List UInt8:=match h:XG D r with|F (c,r2)=>if c.turn=(turn:Int)then(c::(KD D (turn+1) r2).1,(KD D (turn+1) r2).2)else([],r)|none=>([],r)termination_by r.length decreasing_by
 all_goals obtain⟨m,h1,h2,h3,_⟩:=BP h;rw[h3,oC];omega
theorem IT{D:List UInt8->List UInt8}{turn:Nat}{r r2:List UInt8}{c:XD}(h:XG D r=F (c,r2))(ht:c.turn=(turn:Int)):KD D turn r=(c::(KD D (turn+1) r2).1,(KD D (turn+1) r2).2):=by
 rw[KD];split;·next c' r' h'=>rw[h]at h';simp only[tQ,sE]at h';obtain⟨rfl,rfl⟩:=h';rw[if_pos ht]
 ·next h'=>rw[h]at h';cases h'
theorem WJ{D:List UInt8->List UInt8}{turn:Nat}{r r2:List UInt8}{c:XD}(h:XG D r=F (c,r2))(ht:c.turn≠(turn:Int)):KD D turn r=([],r):=by
 rw[KD];split;·next c' r' h'=>rw[h]at h';simp only[tQ,sE]at h';obtain⟨rfl,rfl⟩:=h';rw[if_neg ht]
 ·rfl
theorem T9{D:List UInt8->List UInt8}{turn:Nat}{r:List UInt8}(h:XG D r=H):KD D turn r=([],r):=by
 rw[KD];split;·next c' r' h'=>rw[h]at h';cases h'
 ·rfl
theorem Ih(D:List UInt8->List UInt8):XG D []=H:=by
 unfold XG;rw[if_pos (by simp)]
def zB:Nat->List XD->Prop|_,[]=>True|t,c::cs=>c.turn=(t:Int)∧QZ c=0∧zB (t+1) cs
theorem zB.take:∀{t:Nat}{cs:List XD}(_:zB t cs)(j:Nat),zB t (cs.take j)|_,[],_,j=>by rw[oH];trivial|_,c::cs,_,0=>trivial|t,c::cs,h,j+1=>⟨h.1,h.2.1,zB.take h.2.2 j⟩
def QW(D:List UInt8->List UInt8)(cs:List XD):List UInt8:=cs.flatMap (ZI D)
theorem KQ(D:List UInt8->List UInt8)(c:XD)(cs:List XD):QW D (c::cs)=ZI D c++QW D cs:=rI
theorem VE(D:List UInt8->List UInt8)(a b:List XD):QW D (a++b)=QW D a++QW D b:=List.flatMap_append
theorem Pu(D:List UInt8->List UInt8)(c:XD):QW D [c]=ZI D c:=by
 simp[QW]
def DG(D:List UInt8->List UInt8)(r:List UInt8):Nat:=r.length-(KD D 1 r).2.length
theorem C8{D:List UInt8->List UInt8}(hD:∀x,(D x).length=4):∀{t:Nat}{cs:List XD}(_:zB t cs)(k:Nat),∃j,j<=cs.length∧KD D t ((QW D cs).take k)=(cs.take j,((QW D cs).take k).drop (QW D (cs.take j)).length)∧(QW D (cs.take j)).length<=k∧(QW D (cs.take j)).length<=(QW D cs).length∧(j<cs.length->k<(QW D (cs.take (j+1))).length)|t,[],_,k=>⟨0,by simp,by show KD D t (([]:List UInt8).take k)=_;rw[oH,T9 (Ih D)];simp[QW],by simp[QW],by simp[QW],fun h=>by simp at h⟩|t,c::cs,h,k=>by by_cases hk:k<(ZI D c).length;(·refine⟨0,by simp,?_,by simp[QW],by simp[QW],fun _=>?_⟩;(·rw[KQ,pA (by omega),T9 (SO hD h.2.1 k hk)];simp[QW]);·show k<(QW D [c]).length;rw[Pu];exact hk);·obtain⟨j,h1,h2,h3,h4,h5⟩:=C8 hD h.2.2 (k-(ZI D c).length);(have ht:(QW D (c::cs)).take k=ZI D c++(QW D cs).take (k-(ZI D c).length):=by rw[KQ,List.take_append,pJ (by omega)]);refine⟨j+1,by simp;omega,?_,?_,?_,fun hj=>?_⟩;(·rw[ht,IT (BF hD h.2.1 _) h.1,h2,sH,KQ];rw[T,<-List.drop_drop,rO rfl]);(·rw[sH,KQ,T];omega);(·rw[sH,KQ,KQ,T,T];omega);·have:=h5 (by simpa using hj);rw[sH,KQ,T];omega
theorem UW(D:List UInt8->List UInt8)(cs:List XD)(i j:Nat)(h:i<=j):(QW D (cs.take i)).length<=(QW D (cs.take j)).length:=by
 have:cs.take i=(cs.take j).take i:=by rw[List.take_take,oF h]
 rw[this];conv=>rhs;rw[<-tE i (cs.take j),VE]
 rw[T];omega
theorem RG{D:List UInt8->List UInt8}{cs:List XD}{k j i:Nat}(hi:i<=cs.length)(hj:j<cs.length->k<(QW D (cs.take (j+1))).length)(hk:(QW D (cs.take i)).length<=k):i<=j:=by
 by_cases h:i<=j;·exact h
 ·have:=UW D cs (j+1) i (by omega);have:=hj (by omega);omega
theorem EX(t:PL)(p:Pr)(h:∀q∈t,(1<=q.1.length∧q.1.length<=16)∧q.2.length<=32)(hp:(1<=p.1.length∧p.1.length<=16)∧p.2.length<=32):∀q∈JI t p,(1<=q.1.length∧q.1.length<=16)∧q.2.length<=32:=by
 intro q hq;rcases Mw t p q hq with rfl|hq;·exact hp
 ·exact h q hq
theorem Lz:∀(t:PL)(p:Pr)(k:Nat),k<=t.length->(∀j,j<k->YD (t.getD j ([],[])).1 p.1=L)->(k<t.length->YD (t.getD k ([],[])).1 p.1=tA)->JI t p=if k<t.length∧(t.getD k ([],[])).1=p.1then t.set k p else t.take k++([p]++t.drop k)|[],p,k,hk,_,_=>by(obtain rfl:k=0:=by simpa using hk);simp[JI]|q::r,p,0,_,_,h2=>by have h:=h2 (by simp);simp only[tX]at h;rw[JI,if_neg (by rw[h];simp)];by_cases e:q.1=p.1;(·rw[if_pos e,if_pos ⟨by simp,by simpa using e⟩];simp);·rw[if_neg e,if_neg (fun h=>e (by simpa using h.2))];simp|q::r,p,k+1,hk,h1,h2=>by have h:=h1 0 (by omega);simp only[tX]at h;rw[JI,if_pos h,Lz r p k (by simpa using hk) (fun j hj=>by simpa using h1 (j+1) (by omega)) (fun hk=>by simpa using h2 (by simpa using hk))];by_cases e:k<r.length∧(r.getD k ([],[])).1=p.1;(·rw[if_pos e,if_pos ⟨by simpa using e.1,by simpa using e.2⟩];simp);·rw[if_neg e,if_neg (fun h=>e ⟨by simpa using h.1,by simpa using h.2⟩)];simp
theorem bT(t:PL)(p:Pr)(h:ZH t)(hp:(1<=p.1.length∧p.1.length<=16)∧p.2.length<=32)(hl:t.length<60):Kh t p=0∧Vv t p=JI t p∧ZH (JI t p):=by
 have h0:V1 t p=0:=by rw[V1,if_pos ((YP t).2 h)];exact(JD p).2 hp
 have hlen:=Lj t p;have h1:Kh t p=0:=by rw[Kh,if_pos h0,if_neg (by omega)]
 exact⟨h1,by rw[Vv,if_pos h1],⟨by omega,EX t p h.pairs hp,Pi t p h.rises⟩⟩
def Nl(m:Nat)(l:FL):Prop:=∀n,(YE l n).length<=m
theorem Wi:Nl 0 []:=fun n=>by
 rw[fT];simp
theorem aH(l:FL)(w:Zd):(XJ l w).length<=(YE l w.name).length+1:=by
 unfold XJ;by_cases hg:w.gone=L;·rw[if_pos hg];have:=Mm (YE l w.name) w.key;omega
 ·rw[if_neg hg];exact Lj _ _
theorem En{l:FL}{m:Nat}(hr:Xr l)(h:Nl m l)(w:Zd):Nl (m+1) (Za l w):=fun n=>by
 rw[RK hr];by_cases e:w.name=n;·rw[if_pos e];have:=aH l w;have:=h w.name;omega
 ·rw[if_neg e];have:=h n;omega
theorem eC{l:FL}{m:Nat}(h:Z5 l){w:Zd}(hw:QD w=0)(hs:Nl m l)(hm:m<60):qE l w=0:=by
 obtain⟨_,hk,hv⟩:=(XK w).1 hw;have hT:=KG h w.name;have hl:=hs w.name;unfold qE;by_cases hg:w.gone=L;·rw[if_pos hg];exact vZ hT hk
 ·rw[if_neg hg]at hv⊢;exact(bT _ _ hT ⟨hk,hv⟩ (by omega)).1
theorem z9{l:FL}{m:Nat}(h:Z5 l){w:Zd}(hw:QD w=0)(hs:Nl m l)(hm:m<60):XW l w=if 8<(Za l w).length then 11 else 0:=by
 rw[XW,if_pos (eC h hw hs hm)]
theorem Fb(l:FL)(w:Zd):(Za l w).length<=l.length+1:=by
 unfold Za;by_cases hn:(XJ l w).length=0;·rw[if_pos hn];have:=NH l w.name;omega
 ·rw[if_neg hn];exact Wq _ _
theorem get_written{l:FL}(h:Z5 l)(w:Zd)(n k:List UInt8):xL (YE (Za l w) n) k=if w.name=n∧w.key=k then(if w.gone=L then H else F w.value)else xL (YE l n) k:=by
 rw[RK h.rises];by_cases e:w.name=n;·subst e;rw[if_pos rfl];unfold XJ;by_cases hg:w.gone=L;(·rw[if_pos hg,if_pos hg,dF];by_cases e2:w.key=k;(·rw[if_pos e2,if_pos ⟨rfl,e2⟩]);·rw[if_neg e2,if_neg (fun h=>e2 h.2)]);·rw[if_neg hg,if_neg hg,dZ _ _ _ (KG h _).rises];by_cases e2:w.key=k;(·rw[if_pos e2,if_pos ⟨rfl,e2⟩]);·rw[if_neg e2,if_neg (fun h=>e2 h.2)]
 ·rw[if_neg e,if_neg (fun h=>e h.1)]
theorem apply_append:∀(x y:List Zd)(l:FL),Zy l (x++y)=(if Zy l x=0then Zy (XX l x) y else Zy l x)∧XX l (x++y)=XX (XX l x) y|[],y,l=>by simp[Zy,XX]|w::x,y,l=>by obtain⟨h1,h2⟩:=apply_append x y (Za l w);rw[List.cons_append,Zy,Zy,XX,XX,h1,h2];refine⟨?_,rfl⟩;by_cases hw:QD w=0;(·rw[if_pos hw,if_pos hw];by_cases he:XW l w=0;(·rw[if_pos he,if_pos he]);·rw[if_neg he,if_neg he,if_neg he]);·rw[if_neg hw,if_neg hw,if_neg hw]
theorem vJ:∀(ws:List Zd)(l:FL),Z5 l->Zy l ws=0->Z5 (XX l ws)|[],l,h,_=>h|w::ws,l,h,he=>by rw[Zy]at he;by_cases hw:QD w=0;(·rw[if_pos hw]at he;by_cases h2:XW l w=0;(·rw[if_pos h2]at he;exact vJ ws _ (V3 h hw h2) he);·rw[if_neg h2]at he;exact absurd he h2);·rw[if_neg hw]at he;exact absurd he hw
def qG(l:FL)(n:List UInt8):Int:=if Q8 l=0then Qt n.length else Q8 l
theorem qY{l:FL}{n:List UInt8}(h:qG l n=0):Z5 l∧(1<=n.length∧n.length<=8):=by
 unfold qG at h;by_cases h0:Q8 l=0;·rw[if_pos h0]at h;exact⟨(X6 l).1 h0,(ZD _).1 h⟩
 ·rw[if_neg h0]at h;exact absurd h h0
def VL(l:FL)(n k:List UInt8):Int:=if qG l n=0then Xc (YE l n) k else qG l n
def Vc(l:FL)(n k:List UInt8):Bool:=if qG l n=0then Ei (YE l n) k else tA
def Vg(l:FL)(n k:List UInt8):List UInt8:=if qG l n=0then Ek (YE l n) k else[]
def YF(l:FL)(n f t:List UInt8):Int:=if qG l n=0then Yz (YE l n) f t else qG l n
def Kj(l:FL)(n f t:List UInt8):PL:=if qG l n=0then KT (YE l n) f t else[]
structure Rq where
  kind : Int
  name : List UInt8
  key : List UInt8
  last : List UInt8
  value : List UInt8
def V9:Rq:=⟨0,[],[],[],[]⟩
def QU(k:Int):Bool:=tI (2<=k∧k<=5)||tI (k=8)
def yV(r:Rq):Int:=if QU r.kind=L then(if Qt r.name.length=0then(if Qp r.key.length=0then(if r.kind=3then Qp r.last.length else 0)else Qp r.key.length)else Qt r.name.length)else 0
def Eb(r:Rq):Int:=if QU r.kind=tA∧0<r.name.length+r.key.length then 4 else if(r.kind≠3∧0<r.last.length)∨(r.kind≠4∧0<r.value.length)then 4 else 0
def Yi(r:Rq):Int:=if 1<=r.kind∧r.kind<=8then(if yV r=0then(if 32<r.value.length then 1 else Eb r)else yV r)else 5
structure X8(r:Rq):Prop where kind:1<=r.kind∧r.kind<=8name:QU r.kind=L->1<=r.name.length∧r.name.length<=8key:QU r.kind=L->1<=r.key.length∧r.key.length<=16last:r.kind=3->1<=r.last.length∧r.last.length<=16value:r.value.length<=32noName:QU r.kind=tA->r.name=[]noKey:QU r.kind=tA->r.key=[]noLast:r.kind≠3->r.last=[]noValue:r.kind≠4->r.value=[]
theorem Fw(r:Rq):yV r=0↔(QU r.kind=L->(1<=r.name.length∧r.name.length<=8)∧(1<=r.key.length∧r.key.length<=16)∧(r.kind=3->1<=r.last.length∧r.last.length<=16)):=by
 unfold yV;by_cases h:QU r.kind=L;·rw[if_pos h];by_cases h1:Qt r.name.length=0;(·rw[if_pos h1];by_cases h2:Qp r.key.length=0;(·rw[if_pos h2];by_cases h3:r.kind=3;(·rw[if_pos h3,Zv];exact⟨fun e _=>⟨(ZD _).1 h1,(Zv _).1 h2,fun _=>e⟩,fun e=>(e h).2.2 h3⟩);·rw[if_neg h3];exact⟨fun _ _=>⟨(ZD _).1 h1,(Zv _).1 h2,fun e=>absurd e h3⟩,fun _=>rfl⟩);·rw[if_neg h2];exact⟨fun e=>absurd e h2,fun e=>(Zv _).2 (e h).2.1⟩);·rw[if_neg h1];exact⟨fun e=>absurd e h1,fun e=>(ZD _).2 (e h).1⟩
 ·rw[if_neg h];exact⟨fun _ e=>absurd e h,fun _=>rfl⟩
theorem dN{l:List UInt8}(h:¬0<l.length):l=[]:=V (by
 omega)
theorem AZ(r:Rq):Eb r=0↔(QU r.kind=tA->r.name=[]∧r.key=[])∧(r.kind≠3->r.last=[])∧(r.kind≠4->r.value=[]):=by
 unfold Eb;by_cases h1:QU r.kind=tA∧0<r.name.length+r.key.length;·rw[if_pos h1];refine⟨fun e=>(by cases e),fun e=>?_⟩;have:=e.1 h1.1;rw[this.1,this.2]at h1;simp at h1
 ·rw[if_neg h1];by_cases h2:(r.kind≠3∧0<r.last.length)∨(r.kind≠4∧0<r.value.length);(·rw[if_pos h2];refine⟨fun e=>(by cases e),fun e=>?_⟩;rcases h2 with h2|h2;(·rw[e.2.1 h2.1]at h2;simp at h2);·rw[e.2.2 h2.1]at h2;simp at h2);·rw[if_neg h2];refine⟨fun _=>⟨fun h=>?_,fun h=>dN fun e=>h2 (.inl ⟨h,e⟩),fun h=>dN fun e=>h2 (.inr ⟨h,e⟩)⟩,fun _=>rfl⟩;have hz:¬0<r.name.length+r.key.length:=fun e=>h1 ⟨h,e⟩;exact⟨dN (by omega),dN (by omega)⟩
theorem Yh(r:Rq):Yi r=0↔X8 r:=by
 unfold Yi;by_cases h0:1<=r.kind∧r.kind<=8;·rw[if_pos h0];by_cases h1:yV r=0;(·rw[if_pos h1];have hp:=(Fw r).1 h1;by_cases h2:32<r.value.length;(·rw[if_pos h2];exact⟨fun e=>(by cases e),fun e=>by have:=e.value;omega⟩);·rw[if_neg h2,AZ];refine⟨fun⟨e1,e2,e3⟩=>⟨h0,fun h=>(hp h).1,fun h=>(hp h).2.1,fun h=>(hp (by rw[h];decide)).2.2 h,by omega,fun h=>(e1 h).1,fun h=>(e1 h).2,e2,e3⟩,fun e=>⟨fun h=>⟨e.noName h,e.noKey h⟩,e.noLast,e.noValue⟩⟩);·rw[if_neg h1];refine⟨fun e=>absurd e h1,fun e=>(Fw r).2 fun h=>⟨e.name h,e.key h,e.last⟩⟩
 ·rw[if_neg h0];exact⟨fun e=>(by cases e),fun e=>absurd e.kind h0⟩
def Xn(c:Bool)(p:List UInt8):List UInt8:=if c=L then XM p else[]
def Jl(c:Bool)(r:List UInt8):Option (List UInt8×List UInt8):=if c=L then Zt r else F ([],r)
theorem yR(c:Bool)(p r:List UInt8)(h:c=L->p.length<256)(h0:c=tA->p=[]):Jl c (Xn c p++r)=F (p,r):=by
 cases c with|true=>exact Vw p r (h rfl)|false=>rw[h0 rfl];rfl
theorem VT{c:Bool}{r p r2:List UInt8}(h:Jl c r=F (p,r2)):r=Xn c p++r2:=by
 cases c with|true=>exact Gn h|false=>(obtain⟨rfl,rfl⟩:[]=p∧r=r2:=by simpa[Jl]using h);rfl
theorem jJ{c:Bool}{r p r2:List UInt8}(h:Jl c r=F (p,r2))(x:List UInt8):Jl c (r++x)=F (p,r2++x):=by
 cases c with|true=>exact Ae h x|false=>(obtain⟨rfl,rfl⟩:[]=p∧r=r2:=by simpa[Jl]using h);rfl
theorem WG{c:Bool}{r p r2:List UInt8}(h:Jl c r=F (p,r2))(hc:c=tA):p=[]:=by
 subst hc;have:[]=p∧r=r2:=by simpa[Jl]using h
 exact this.1.symm
def zR(r:Rq):List UInt8:=Xn (QU r.kind) r.name++(Xn (QU r.kind) r.key++(Xn (tI (r.kind=3)) r.last++Xn (tI (r.kind=4)) r.value))
def Kb(r:Rq):List UInt8:=tD r.kind.toNat::zR r
def Vr(k:Int)(n q l r:List UInt8):Option (Rq×List UInt8):=match Jl (tI (k=4)) r with|F (v,r2)=>F (⟨k,n,q,l,v⟩,r2)|none=>H
def Vs(k:Int)(n q r:List UInt8):Option (Rq×List UInt8):=match Jl (tI (k=3)) r with|F (l,r2)=>Vr k n q l r2|none=>H
def Vq(k:Int)(n r:List UInt8):Option (Rq×List UInt8):=match Jl (QU k) r with|F (q,r2)=>Vs k n q r2|none=>H
def Yd(k:Int)(r:List UInt8):Option (Rq×List UInt8):=match Jl (QU k) r with|F (n,r2)=>Vq k n r2|none=>H
theorem Nb{r:Rq}(h:X8 r)(x:List UInt8):Yd r.kind (zR r++x)=F (r,x):=by
 have e1:=yR (QU r.kind) r.name (Xn (QU r.kind) r.key++(Xn (tI (r.kind=3)) r.last++(Xn (tI (r.kind=4)) r.value++x))) (fun e=>by have:=h.name e;omega) h.noName;have e2:=yR (QU r.kind) r.key (Xn (tI (r.kind=3)) r.last++(Xn (tI (r.kind=4)) r.value++x)) (fun e=>by have:=h.key e;omega) h.noKey;have e3:=yR (tI (r.kind=3)) r.last (Xn (tI (r.kind=4)) r.value++x) (fun e=>by have:=h.last (by simpa using e);omega) (fun e=>h.noLast (by simpa using e));have e4:=yR (tI (r.kind=4)) r.value x (fun _=>by have:=h.value;omega) (fun e=>h.noValue (by simpa using e));rw[zR,tC,tC,tC,Yd,e1];show Vq _ _ _=_;rw[Vq,e2];show Vs _ _ _ _=_;rw[Vs,e3];show Vr _ _ _ _ _=_;rw[Vr,e4]
theorem kV{k:Int}{b x:List UInt8}{r:Rq}(h:Yd k b=F (r,x)):r.kind=k∧∃r1 r2 r3,Jl (QU k) b=F (r.name,r1)∧Jl (QU k) r1=F (r.key,r2)∧Jl (tI (k=3)) r2=F (r.last,r3)∧Jl (tI (k=4)) r3=F (r.value,x):=by
 rw[Yd]at h;match h1:Jl (QU k) b with|none=>rw[h1]at h;cases h|F (n,r1)=>rw[h1]at h;replace h:Vq k n r1=F (r,x):=h;rw[Vq]at h;match h2:Jl (QU k) r1 with|none=>rw[h2]at h;cases h|F (q,r2)=>rw[h2]at h;replace h:Vs k n q r2=F (r,x):=h;rw[Vs]at h;match h3:Jl (tI (k=3)) r2 with|none=>rw[h3]at h;cases h|F (l,r3)=>rw[h3]at h;replace h:Vr k n q l r3=F (r,x):=h;rw[Vr]at h;match h4:Jl (tI (k=4)) r3 with|none=>rw[h4]at h;cases h|F (v,r4)=>rw[h4]at h;(obtain⟨rfl,rfl⟩:(⟨k,n,q,l,v⟩:Rq)=r∧r4=x:=by simpa using h);exact⟨rfl,r1,r2,r3,rfl,h2,h3,h4⟩
theorem bW{k:Int}{b r1 r2 r3 x n q l v:List UInt8}(h1:Jl (QU k) b=F (n,r1))(h2:Jl (QU k) r1=F (q,r2))(h3:Jl (tI (k=3)) r2=F (l,r3))(h4:Jl (tI (k=4)) r3=F (v,x)):Yd k b=F (⟨k,n,q,l,v⟩,x):=by
 rw[Yd,h1];show Vq _ _ _=_;rw[Vq,h2];show Vs _ _ _ _=_;rw[Vs,h3];show Vr _ _ _ _ _=_;rw[Vr,h4]
theorem TG{k:Int}{b x:List UInt8}{r:Rq}(h:Yd k b=F (r,x)):b=zR r++x∧r.kind=k:=by
 obtain⟨hk,r1,r2,r3,h1,h2,h3,h4⟩:=kV h;refine⟨?_,hk⟩;rw[zR,hk,VT h1,VT h2,VT h3,VT h4];simp[tC]
theorem Hw{k:Int}{b y:List UInt8}{r:Rq}(h:Yd k b=F (r,y))(x:List UInt8):Yd k (b++x)=F (r,y++x):=by
 obtain⟨hk,r1,r2,r3,h1,h2,h3,h4⟩:=kV h;have:=bW (jJ h1 x) (jJ h2 x) (jJ h3 x) (jJ h4 x);rw[this,<-hk]
def Uv(b:List UInt8):Int:=((b.getD 0 0).toNat:Int)
def QJ(b:List UInt8):Int:=if 4000<b.length then 1 else if b.length=0then 14 else if 1<=Uv b∧Uv b<=8then(match Yd (Uv b) (b.drop 1)with|none=>14|F (r,x)=>if x.length=0then Yi r else 4)else 5
def Qu(b:List UInt8):Rq:=if QJ b=0then(match Yd (Uv b) (b.drop 1)with|F (r,_)=>r|none=>V9)else V9
theorem No{r:Rq}(h:X8 r)(x:List UInt8):Uv (Kb r++x)=r.kind∧(Kb r++x).drop 1=zR r++x:=by
 have h0:=h.kind;refine⟨?_,rfl⟩;show(((tD r.kind.toNat).toNat:Nat):Int)=r.kind;simp;omega
theorem K4(c:Bool)(p:List UInt8):(Xn c p).length<=p.length+1:=by
 cases c with|true=>exact sB _|false=>exact Nat.zero_le _
theorem Dn{r:Rq}(h:X8 r):(Kb r).length<=78∧1<=(Kb r).length:=by
 have l1:=K4 (QU r.kind) r.name;have l2:=K4 (QU r.kind) r.key;have l3:=K4 (tI (r.kind=3)) r.last;have l4:=K4 (tI (r.kind=4)) r.value;have k1:r.name.length<=8:=by by_cases e:QU r.kind=L;(·exact(h.name e).2);·rw[h.noName (by simpa using e)];simp
 have k2:r.key.length<=16:=by by_cases e:QU r.kind=L;(·exact(h.key e).2);·rw[h.noKey (by simpa using e)];simp
 have k3:r.last.length<=16:=by by_cases e:r.kind=3;(·exact(h.last e).2);·rw[h.noLast e];simp
 have k4:=h.value;have e:(Kb r).length=1+(Xn (QU r.kind) r.name).length+(Xn (QU r.kind) r.key).length+(Xn (tI (r.kind=3)) r.last).length+(Xn (tI (r.kind=4)) r.value).length:=by rw[Kb,zR,r7,T,T,T];omega
 omega
theorem CD{r:Rq}(h:X8 r):QJ (Kb r)=0∧Qu (Kb r)=r:=by
 have hl:=Dn h;obtain⟨e1,e2⟩:=No h [];rw[tV]at e1 e2;have e3:=Nb h [];have e:QJ (Kb r)=0:=by rw[QJ,if_neg (by omega),if_neg (by omega),e1,if_pos h.kind,e2,e3];show(if([]:List UInt8).length=0then Yi r else 4)=0;rw[if_pos (by simp)];exact(Yh r).2 h
 refine⟨e,?_⟩;rw[Qu,if_pos e,e1,e2,e3]
theorem iL{r:Rq}(h:X8 r)(k:Nat)(hk:k<(Kb r).length):QJ ((Kb r).take k)=14:=by
 have hl2:=Dn h;have hlen:((Kb r).take k).length=k:=by rw[List.length_take];omega
 rw[QJ,if_neg (by omega)];by_cases h0:k=0;·rw[if_pos (by omega)]
 ·rw[if_neg (by omega)];have hsp:(Kb r).take k++(Kb r).drop k=Kb r:=tE _ _;(have hkd:Uv ((Kb r).take k)=r.kind:=by obtain⟨e1,_⟩:=No h [];rw[tV]at e1;rw[<-e1];match k,h0 with|k+1,_=>rfl);rw[hkd,if_pos h.kind];match hD:Yd r.kind (((Kb r).take k).drop 1)with|none=>rfl|F (r',y)=>have hm:=Hw hD ((Kb r).drop k);(have hd:((Kb r).take k).drop 1++(Kb r).drop k=zR r:=by match k,h0 with|k+1,_=>show(zR r).take k++(zR r).drop k=zR r;exact tE _ _);rw[hd]at hm;have hb:=Nb h [];rw[tV,hm]at hb;(have he:y++(Kb r).drop k=[]:=by have:=congrArg (fun o=>o.map Prod.snd) hb;simpa using this);have:=congrArg List.length he;rw[T,oC]at this;simp at this;omega
theorem Ys{b:List UInt8}(h:QJ b=0):Yi (Qu b)=0∧Kb (Qu b)=b:=by
 have h':=h;rw[QJ]at h;by_cases h1:4000<b.length;·rw[if_pos h1]at h;cases h
 ·rw[if_neg h1]at h;by_cases h2:b.length=0;(·rw[if_pos h2]at h;cases h);·rw[if_neg h2]at h;by_cases h3:1<=Uv b∧Uv b<=8;(·rw[if_pos h3]at h;match hD:Yd (Uv b) (b.drop 1)with|none=>rw[hD]at h;cases h|F (r,x)=>rw[hD]at h;replace h:(if x.length=0then Yi r else 4)=0:=h;by_cases hx:x.length=0;(·rw[if_pos hx]at h;(have hr:Qu b=r:=by rw[Qu,if_pos h',hD]);rw[hr];refine⟨h,?_⟩;obtain⟨f1,f2⟩:=TG hD;rw[V hx,tV]at f1;rw[Kb,<-f1,f2];match b,h2 with|c::b,_=>show tD ((c.toNat:Nat):Int).toNat::b=c::b;simp);·rw[if_neg hx]at h;cases h);·rw[if_neg h3]at h;cases h
theorem jI{b:List UInt8}(h:QJ b≠0):Qu b=V9:=by
 rw[Qu,if_neg h]
def Uo(r:Rq):Int:=if Yi r=0then(if r.kind=2∨r.kind=3then 0 else 7)else Yi r
def Zs(r:Rq):Rd:=if Uo r=0then⟨r.name,r.key,tI (r.kind=3),r.last⟩else Zg
def Jb(r:Rq):Int:=if Yi r=0then(if r.kind=4∨r.kind=5then 0 else 7)else Yi r
def Xj(r:Rq):Zd:=if Jb r=0then⟨r.name,r.key,r.value,tI (r.kind=5)⟩else Qs
theorem O0{r:Rq}(h:Uo r=0):XE (Zs r)=0:=by
 have h':=h;unfold Uo at h;by_cases h0:Yi r=0;·rw[if_pos h0]at h;have ho:=(Yh r).1 h0;by_cases h1:r.kind=2∨r.kind=3;(·(have hn:QU r.kind=L:=by rcases h1 with h1|h1<;>rw[h1]<;>decide);rw[Zs,if_pos h',EF];refine⟨ho.name hn,ho.key hn,?_⟩;show if tI (r.kind=3)=L then _ else _;by_cases h3:r.kind=3;(·rw[if_pos (by simpa using h3)];exact ho.last h3);·rw[if_neg (by simpa using h3)];exact ho.noLast h3);·rw[if_neg h1]at h;cases h
 ·rw[if_neg h0]at h;exact absurd h h0
theorem Ph{r:Rq}(h:Jb r=0):QD (Xj r)=0:=by
 have h':=h;unfold Jb at h;by_cases h0:Yi r=0;·rw[if_pos h0]at h;have ho:=(Yh r).1 h0;by_cases h1:r.kind=4∨r.kind=5;(·(have hn:QU r.kind=L:=by rcases h1 with h1|h1<;>rw[h1]<;>decide);rw[Xj,if_pos h',XK];refine⟨ho.name hn,ho.key hn,?_⟩;show if tI (r.kind=5)=L then _ else _;by_cases h3:r.kind=5;(·rw[if_pos (by simpa using h3)];exact ho.noValue (by omega));·rw[if_neg (by simpa using h3)];exact ho.value);·rw[if_neg h1]at h;cases h
 ·rw[if_neg h0]at h;exact absurd h h0
theorem EZ{r:Rq}(h:X8 r):Uo r=(if r.kind=2∨r.kind=3then 0 else 7)∧Jb r=(if r.kind=4∨r.kind=5then 0 else 7):=by
 have:=(Yh r).2 h;exact⟨by rw[Uo,if_pos this],by rw[Jb,if_pos this]⟩
def On(l:List Ac):List UInt8:=l.flatMap fun a=>lR a++[10]
def Ug:Nat->List Ac->Option (Nat×Int)|_,[]=>H|n,a::l=>if Y1 a=0then Ug (n+1) l else F (n,Y1 a)
def Gh(l:List Ac):Int:=if 100000<l.length then 1 else match Ug 0 l with|none=>0|F (_,e)=>e
def Fj(l:List Ac):Nat:=if 100000<l.length then 0 else match Ug 0 l with|none=>0|F (i,_)=>i
def Fk(l:List Ac):List UInt8:=if Gh l=0then On l else[]
theorem Np:∀(l:List Ac)(n:Nat),Ug n l=H↔∀a∈l,Ku a|[],_=>by simp[Ug]|a::l,n=>by rw[Ug];by_cases ha:Y1 a=0;(·rw[if_pos ha,Np l (n+1)];simp only[tP,forall_eq_or_imp];exact⟨fun h=>⟨(uC a).1 ha,h⟩,fun h=>h.2⟩);·rw[if_neg ha];exact⟨fun h=>(by cases h),fun h=>absurd ((uC a).2 (h a (by simp))) ha⟩
theorem Hn(l:List Ac)(m:Nat)(hm:m<l.length):Ug m (l.drop m)=if Y1 (l.getD m Ux)=0then Ug (m+1) (l.drop (m+1))else F (m,Y1 (l.getD m Ux)):=by
 rw[sF hm,Ug,show l[m]=l.getD m Ux by simp[hm]]
theorem lX{l:List Ac}(h:∀a∈l,Ku a)(hl:l.length<=100000):Gh l=0∧Fj l=0∧Fk l=On l:=by
 have hb:=(Np l 0).2 h;have he:Gh l=0:=by rw[Gh,if_neg (by omega),hb]
 exact⟨he,by rw[Fj,if_neg (by omega),hb],by rw[Fk,if_pos he]⟩
theorem L5{l:List Ac}(h:100000<l.length):Gh l=1∧Fj l=0∧Fk l=[]:=by
 have e:Gh l=1:=by rw[Gh,if_pos h]
 exact⟨e,by rw[Fj,if_pos h],by rw[Fk,e,if_neg (by decide)]⟩
theorem Ty{l:List Ac}(h:l.length<=100000)(hb:Ug 0 l=H):Gh l=0∧Fj l=0∧Fk l=On l:=by
 have e:Gh l=0:=by rw[Gh,if_neg (by omega),hb]
 exact⟨e,by rw[Fj,if_neg (by omega),hb],by rw[Fk,if_pos e]⟩
theorem aT{l:List Ac}(h:l.length<=100000){i:Nat}{e:Int}(hb:Ug 0 l=F (i,e))(he:e≠0):Gh l=e∧Fj l=i∧Fk l=[]:=by
 have h1:Gh l=e:=by rw[Gh,if_neg (by omega),hb]
 exact⟨h1,by rw[Fj,if_neg (by omega),hb],by rw[Fk,h1,if_neg he]⟩
theorem eI{l:List Ac}{m:Nat}(hm:m<l.length)(hb:Ug 0 l=Ug m (l.drop m)):(Y1 (l.getD m Ux)=0->Ug 0 l=Ug (m+1) (l.drop (m+1)))∧(Y1 (l.getD m Ux)≠0->Ug 0 l=F (m,Y1 (l.getD m Ux))):=by
 rw[hb,Hn l m hm];exact⟨fun h=>by rw[if_pos h],fun h=>by rw[if_neg h]⟩
def Xp(w:I)(v:O)(r:Rq):Prop:=∃vn vk vl vv,v=pP #[tK rA r.kind,vn,vk,vl,vv]∧Qe w vn r.name∧Qe w vk r.key∧Qe w vl r.last∧Qe w vv r.value
theorem Xp.grown{w w':I}{v:O}{r:Rq}(h:Xp w v r)(hg:J w w' H):Xp w' v r:=by
 obtain⟨vn,vk,vl,vv,rfl,h1,h2,h3,h4⟩:=h;exact⟨vn,vk,vl,vv,rfl,h1.grown hg,h2.grown hg,h3.grown hg,h4.grown hg⟩
theorem Xp.agg{w:I}{v:O}{r:Rq}(h:Xp w v r):∃n1 n2 k1 k2 l1 l2 v1 v2,v=pP #[tK rA r.kind,tH n1 r.name.length n2,tH k1 r.key.length k2,tH l1 r.last.length l2,tH v1 r.value.length v2]:=by
 obtain⟨vn,vk,vl,vv,rfl,h1,h2,h3,h4⟩:=h;obtain⟨n1,n2,rfl⟩:=h1.shape;obtain⟨k1,k2,rfl⟩:=h2.shape;obtain⟨l1,l2,rfl⟩:=h3.shape;obtain⟨v1,v2,rfl⟩:=h4.shape;exact⟨n1,n2,k1,k2,l1,l2,v1,v2,rfl⟩
theorem Xp.parts{w:I}{r:Rq}{x a b c d:O}(h:Xp w (pP #[x,a,b,c,d]) r):x=tK rA r.kind∧Qe w a r.name∧Qe w b r.key∧Qe w c r.last∧Qe w d r.value:=by
 obtain⟨vn,vk,vl,vv,e,h1,h2,h3,h4⟩:=h;simp only[Value.agg.injEq,Array.mk.injEq,List.cons.injEq,and_true]at e;obtain⟨rfl,rfl,rfl,rfl,rfl⟩:=e;exact⟨rfl,h1,h2,h3,h4⟩
theorem uZ(w:I):Xp w (pP #[tK rA 0,tH H 0 0,tH H 0 0,tH H 0 0,tH H 0 0]) V9:=⟨_,_,_,_,rfl,Qw w,Qw w,Qw w,Qw w⟩
structure yO(r:Rq):Prop where kind:-9223372036854775808<=r.kind∧r.kind<=9223372036854775807name:r.name.length<=140737488355328key:r.key.length<=140737488355328last:r.last.length<=140737488355328value:r.value.length<=140737488355328
theorem qI{r:Rq}(h:X8 r):yO r:=by
 have h0:=h.kind;have h5:=h.value;have k1:r.name.length<=8:=by by_cases e:QU r.kind=L;(·exact(h.name e).2);·rw[h.noName (by simpa using e)];simp
 have k2:r.key.length<=16:=by by_cases e:QU r.kind=L;(·exact(h.key e).2);·rw[h.noKey (by simpa using e)];simp
 have k3:r.last.length<=16:=by by_cases e:r.kind=3;(·exact(h.last e).2);·rw[h.noLast e];simp
 exact⟨by omega,by omega,by omega,by omega,by omega⟩
theorem Qq{W w:I}{b:Nat}{x y z u s:O}{t:sY}(hg:J W w H)(h:W.heap[b]?=F (tJ #[x,y,z,u,s] t)):(w.cell? ⟨b,0,H⟩=F x∧w.cell? ⟨b,1,H⟩=F y∧w.cell? ⟨b,2,H⟩=F z∧w.cell? ⟨b,3,H⟩=F u∧w.cell? ⟨b,4,H⟩=F s)∧(w.frozen? ⟨b,0,H⟩=tA∧w.frozen? ⟨b,1,H⟩=tA∧w.frozen? ⟨b,2,H⟩=tA∧w.frozen? ⟨b,3,H⟩=tA∧w.frozen? ⟨b,4,H⟩=tA)∧w.heap[b]?=F (tJ #[x,y,z,u,s] t):=by
 have hb:w.heap[b]?=F (tJ #[x,y,z,u,s] t):=by rw[hg.block b (tL.1 h).1 (by simp)];exact h
 refine⟨⟨?_,?_,?_,?_,?_⟩,⟨?_,?_,?_,?_,?_⟩,hb⟩;all_goals simp[sA,sX,hb]
theorem Yq{w:I}{b i:Nat}{cs:Array O}{t:sY}{fz:Nat×Nat}{u:O}(h:w.heap[b]?=F (tJ cs t fz)):(tG w ⟨b,i,H⟩ u).heap[b]?=F (tJ (cs.setIfInBounds i u) t fz):=by
 simp only[tG,tR,if_true,h,sP];rfl
theorem qX{w:I}{b c i:Nat}{o:Obj}{u:O}(h:w.heap[b]?=F o)(hne:b≠c):(tG w ⟨c,i,H⟩ u).heap[b]?=F o:=by
 simp only[tG,tR];rw[if_neg (fun e=>hne e.symm)];exact h
abbrev IY(w:I)(b:Nat)(x y z u s:O):I:=((((tG w ⟨b,0,H⟩ x).setCell ⟨b,1,H⟩ y).setCell ⟨b,2,H⟩ z).setCell ⟨b,3,H⟩ u).setCell ⟨b,4,H⟩ s
theorem u7{w:I}{b:Nat}{x y z u s:O}{t:sY}(h:w.heap[b]?=F (tJ #[x,y,z,u,s] t))(x' y' z' u' s':O):(IY w b x' y' z' u' s').heap[b]?=F (tJ #[x',y',z',u',s'] t):=Yq (Yq (Yq (Yq (Yq h))))
theorem zL{w W:I}{b:Nat}(hg:J w W H)(hb:w.heap.size<=b)(x y z u s:O):J w (IY W b x y z u s) H:=Qc (Qc (Qc (Qc (Qc hg _ hb _ _) _ hb _ _) _ hb _ _) _ hb _ _) _ hb _ _
theorem Hj(W:I)(b:Nat)(x y z u s:O):J W (IY W b x y z u s) (F b):=Qi (Qi (Qi (Qi (Qi (Qb W (F b)) _ _) _ _) _ _) _ _) _ _
abbrev V6(w:I)(b:Nat)(x y z u:O):I:=(((tG w ⟨b,0,H⟩ x).setCell ⟨b,1,H⟩ y).setCell ⟨b,2,H⟩ z).setCell ⟨b,3,H⟩ u
theorem X9{w:I}{b:Nat}{x y z u:O}{t:sY}(h:w.heap[b]?=F (tJ #[x,y,z,u] t))(x' y' z' u':O):(V6 w b x' y' z' u').heap[b]?=F (tJ #[x',y',z',u'] t):=Yq (Yq (Yq (Yq h)))
theorem Z9{w W:I}{b:Nat}(hg:J w W H)(hb:w.heap.size<=b)(x y z u:O):J w (V6 W b x y z u) H:=Qc (Qc (Qc (Qc hg _ hb _ _) _ hb _ _) _ hb _ _) _ hb _ _
theorem Yn(W:I)(b:Nat)(x y z u:O):J W (V6 W b x y z u) (F b):=Qi (Qi (Qi (Qi (Qb W (F b)) _ _) _ _) _ _) _ _
theorem Q9.later{base:Nat}{w w':I}{v:O}{bs:List UInt8}(h:Q9 base w v bs){b:Nat}(hg:J w w' (F b))(hb:b<base):Q9 base w' v bs:=by
 refine h.grown hg (.inr fun e=>?_);have:=(h.lt b e).1;omega
def Ni(i:Nat):Nat:=[0,0,3,7,11,3,0,0,3].getD i 0
def KR(w:I):Prop:=∀i,i<9->w.cell? ⟨0,i,H⟩=F (tK rH ((Ni i:Nat):Int))
theorem KR.grown{w w':I}(h:KR w)(hg:J w w' H):KR w':=fun i hi=>hg.cell (h i hi) (by
 simp)
def QT(k:Int):Nat->Bool|0=>QU k|1=>QU k|2=>tI (k=3)|_=>tI (k=4)
theorem eK(k j:Nat)(hk:k<9)(hj:j<4):(bits BinOp.and rH ((Ni k:Nat):Int) ((2^j:Nat):Int)!=0)=QT (k:Int) j:=(by
 decide+kernel:∀(k:Fin 9)(j:Fin 4),(bits BinOp.and rH ((Ni k.1:Nat):Int) ((2^j.1:Nat):Int)!=0)=QT (k.1:Int) j.1) ⟨k,hk⟩ ⟨j,hj⟩
def Kn(r:Rq):List UInt8:=if Yi r=0then Kb r else[]
def OE:Prop:=∀(w:I)(v:O)(r:Rq),KR w->Xp w v r->yO r->rY tB 29 #[v] w fun e w'=>∃x,e=sQ (pX #[x,tK rA (Yi r)])∧Qh 0 w' x (Kn r)∧J w w' H
def Yv(w:I)(v:O)(r:Rd):Prop:=∃vn vk vl,v=pP #[vn,vk,pQ r.wide,vl]∧Qe w vn r.name∧Qe w vk r.key∧Qe w vl r.last
theorem Yv.grown{w w':I}{v:O}{r:Rd}(h:Yv w v r)(hg:J w w' H):Yv w' v r:=by
 obtain⟨vn,vk,vl,rfl,h1,h2,h3⟩:=h;exact⟨vn,vk,vl,rfl,h1.grown hg,h2.grown hg,h3.grown hg⟩
theorem Yv.agg{w:I}{v:O}{r:Rd}(h:Yv w v r):∃na nc ka kc la lc,v=pP #[tH na r.name.length nc,tH ka r.key.length kc,pQ r.wide,tH la r.last.length lc]:=by
 obtain⟨vn,vk,vl,rfl,h1,h2,h3⟩:=h;obtain⟨na,nc,rfl⟩:=h1.shape;obtain⟨ka,kc,rfl⟩:=h2.shape;obtain⟨la,lc,rfl⟩:=h3.shape;exact⟨na,nc,ka,kc,la,lc,rfl⟩
theorem Yv.parts{w:I}{r:Rd}{x y g z:O}(h:Yv w (pP #[x,y,g,z]) r):Qe w x r.name∧Qe w y r.key∧g=pQ r.wide∧Qe w z r.last:=by
 obtain⟨vn,vk,vl,e,h1,h2,h3⟩:=h;simp only[Value.agg.injEq,Array.mk.injEq,List.cons.injEq,and_true]at e;obtain⟨rfl,rfl,rfl,rfl⟩:=e;exact⟨h1,h2,rfl,h3⟩
structure PZ(r:Rd):Prop where name:r.name.length<=140737488355328key:r.key.length<=140737488355328last:r.last.length<=140737488355328
structure kY where
  bit : Int
  right : Bool
  other : List UInt8
structure D7 where
  empty : Bool
  steps : List kY
  pair : Pr
def Lb:kY:=⟨0,tA,[]⟩
def Vb:D7:=⟨tA,[],([],[])⟩
instance:Inhabited kY:=⟨Lb⟩
instance:Inhabited D7:=⟨Vb⟩
def Uw(l:PL):Nat->Int|0=>999|1=>999|m+2=>if JM (l.getD 0 ([],[])).1 (l.getD (m+1) ([],[])).1<Uw l (m+1)then JM (l.getD 0 ([],[])).1 (l.getD (m+1) ([],[])).1 else Uw l (m+1)
def Qz(l:PL):Int:=Uw l l.length
def Y9(l:PL)(b:Nat)(x:Bool):PL:=l.filter fun q=>ZU q.1 b==x
theorem Cj(l:PL)(b:Nat)(x:Bool):(Y9 l b x).length<=l.length:=sZ _ _
theorem X5{l:PL}(h:ZH l)(b:Nat)(x:Bool):ZH (Y9 l b x):=⟨rF (Cj l b x) h.room,fun p hp=>h.pairs p (r8.1 hp).1,sU _ h.rises⟩
theorem Cn{l:PL}(h:ZH l)(i j:Nat)(hij:i<j)(hj:j<l.length):0<=JM (l.getD i ([],[])).1 (l.getD j ([],[])).1:=by
 have hk:=UK l h.rises i j hij hj;have h1:=(h.pairs l[i] (sC (by omega))).1;have h2:=(h.pairs l[j] (sC hj)).1;rw[show l[i]=l.getD i ([],[])by simp[show i<l.length by omega]]at h1;rw[show l[j]=l.getD j ([],[])by simp[hj]]at h2;have:=Ao (l.getD i ([],[])).1 (l.getD j ([],[])).1 h1.2 h2.2;have hne:=Br hk;by_cases hp:JM (l.getD i ([],[])).1 (l.getD j ([],[])).1<0;·exact absurd (this.1 hp) hne
 ·omega
theorem Fa{l:PL}(h:ZH l):∀m,m<=l.length->0<=Uw l m∧(2<=m->Uw l m<=144)∧Uw l m<=999|0,_=>⟨by simp[Uw],by omega,by simp[Uw]⟩|1,_=>⟨by simp[Uw],by omega,by simp[Uw]⟩|m+2,hm=>by have ih:=Fa h (m+1) (by omega);have hp:=Cn h 0 (m+1) (by omega) (by omega);have hr:=Fe (l.getD 0 ([],[])).1 (l.getD (m+1) ([],[])).1;rw[Uw];by_cases hlt:JM (l.getD 0 ([],[])).1 (l.getD (m+1) ([],[])).1<Uw l (m+1);(·rw[if_pos hlt];omega);·rw[if_neg hlt];omega
theorem Yk{l:PL}(h:ZH l)(h2:2<=l.length):0<=Qz l∧Qz l<=144:=by
 have:=Fa h l.length (sB _);exact⟨this.1,this.2.1 h2⟩
theorem Ea{l:PL}(_h:ZH l):∀m,2<=m->m<=l.length->∃j,0<j∧j<m∧Uw l m=JM (l.getD 0 ([],[])).1 (l.getD j ([],[])).1|0,h,_=>by omega|1,h,_=>by omega|m+2,_,hm=>by rw[Uw];by_cases hlt:JM (l.getD 0 ([],[])).1 (l.getD (m+1) ([],[])).1<Uw l (m+1);(·rw[if_pos hlt];exact⟨m+1,by omega,by omega,rfl⟩);·rw[if_neg hlt];by_cases h0:m=0;(·subst h0;have hr:=Fe (l.getD 0 ([],[])).1 (l.getD (0+1) ([],[])).1;simp only[Uw]at hlt;omega);·obtain⟨j,h1,h2,h3⟩:=Ea _h (m+1) (by omega) (by omega);exact⟨j,h1,by omega,h3⟩
theorem kI{l:PL}(h:ZH l)(h2:2<=l.length):∀x,(Y9 l (Qz l).toNat x).length<l.length:=by
 obtain⟨j,hj1,hj2,hj3⟩:=Ea h l.length h2 (sB _);have hr:=Yk h h2;have hd:ZU (l.getD 0 ([],[])).1 (Qz l).toNat≠ZU (l.getD j ([],[])).1 (Qz l).toNat:=by rcases JS (l.getD 0 ([],[])).1 (l.getD j ([],[])).1with⟨e,_⟩|⟨m,e,_,_,hd⟩;(·rw[<-hj3]at e;unfold Qz at hr;omega);·(have:(Qz l).toNat=m:=by unfold Qz;omega);rw[this];exact hd
 intro x;by_cases hlt:(Y9 l (Qz l).toNat x).length<l.length;·exact hlt
 ·(have he:(Y9 l (Qz l).toNat x).length=l.length:=by have:=Cj l (Qz l).toNat x;omega);have hall:=List.length_filter_eq_length_iff.1 he;have h0:=hall l[0] (sC (by omega));have hj:=hall l[j] (sC hj2);rw[show l[0]=l.getD 0 ([],[])by simp[show 0<l.length by omega]]at h0;rw[show l[j]=l.getD j ([],[])by simp[hj2]]at hj;simp only[beq_iff_eq]at h0 hj;exact absurd (h0.trans hj.symm) hd
def JL(l:PL)(b:Nat):Nat:=(l.takeWhile fun q=>!ZU q.1 b).length
theorem xP(l:PL):∀m j,0<j->j<m->m<=l.length->Uw l m<=JM (l.getD 0 ([],[])).1 (l.getD j ([],[])).1|0,j,_,h,_=>by omega|1,j,h0,h,_=>by omega|m+2,j,h0,h,hm=>by rw[Uw];by_cases hlt:JM (l.getD 0 ([],[])).1 (l.getD (m+1) ([],[])).1<Uw l (m+1);(·rw[if_pos hlt];by_cases e:j=m+1;(·subst e;exact oL _);·have:=xP l (m+1) j h0 (by omega) (by omega);omega);·rw[if_neg hlt];by_cases e:j=m+1;(·subst e;omega);·exact xP l (m+1) j h0 (by omega) (by omega)
theorem Pp{l:PL}(h:ZH l)(h2:2<=l.length)(j:Nat)(hj:j<l.length)(b:Nat)(hb:b<(Qz l).toNat):ZU (l.getD 0 ([],[])).1 b=ZU (l.getD j ([],[])).1 b:=by
 by_cases h0:j=0;·subst h0;rfl
 ·have hm:=xP l l.length j (by omega) hj (sB _);have hr:=Yk h h2;rcases JS (l.getD 0 ([],[])).1 (l.getD j ([],[])).1with⟨e,hs⟩|⟨m,e,hm1,hs,_⟩;(·exact hs b (by omega));·exact hs b (by unfold Qz at hb;omega)
theorem NP{l:PL}(h:ZH l)(h2:2<=l.length)(i j:Nat)(hij:i<j)(hj:j<l.length)(hi:ZU (l.getD i ([],[])).1 (Qz l).toNat=L):ZU (l.getD j ([],[])).1 (Qz l).toNat=L:=by
 have hk:=UK l h.rises i j hij hj;have hp:=Cn h i j hij hj;rcases JS (l.getD i ([],[])).1 (l.getD j ([],[])).1with⟨e,_⟩|⟨m,e,hm,hs,hd⟩;·omega
 ·(have hge:(Qz l).toNat<=m:=by by_cases hlt:m<(Qz l).toNat;(·exact absurd ((Pp h h2 i (by omega) m hlt).symm.trans (Pp h h2 j hj m hlt)) hd);·omega);by_cases he:(Qz l).toNat=m;(·rw[he];have:=Tm _ _ m hs hd;rw[this];exact hk);·rw[<-hs _ (by omega)];exact hi
theorem NW{l:PL}(h:ZH l)(h2:2<=l.length):ZU (l.getD 0 ([],[])).1 (Qz l).toNat=tA∧ZU (l.getD (l.length-1) ([],[])).1 (Qz l).toNat=L:=by
 obtain⟨j,hj1,hj2,hj3⟩:=Ea h l.length h2 (sB _);have hr:=Yk h h2;have hk:=UK l h.rises 0 j hj1 hj2;rcases JS (l.getD 0 ([],[])).1 (l.getD j ([],[])).1with⟨e,_⟩|⟨m,e,hm,hs,hd⟩;·rw[<-hj3]at e;unfold Qz at hr;omega
 ·(have em:(Qz l).toNat=m:=by unfold Qz;omega);have ho:=Tm _ _ m hs hd;(have hjt:ZU (l.getD j ([],[])).1 m=L:=by rw[ho];exact hk);refine⟨?_,?_⟩;(·rw[em];cases hx:ZU (l.getD 0 ([],[])).1 m with|false=>rfl|true=>exact absurd (hx.trans hjt.symm) hd);·by_cases hl:j=l.length-1;(·rw[<-hl,em];exact hjt);·exact NP h h2 j (l.length-1) (by omega) (by omega) (by rw[em];exact hjt)
theorem NA{l:PL}(h:ZH l)(h2:2<=l.length):JM (l.getD 0 ([],[])).1 (l.getD (l.length-1) ([],[])).1=Qz l:=by
 have hr:=Yk h h2;obtain⟨e1,e2⟩:=NW h h2;rw[DQ _ _ (Qz l).toNat (by omega) (fun b hb=>Pp h h2 _ (by omega) b hb) (by rw[e1,e2];simp)];omega
theorem Ld:∀(l:PL)(b j:Nat),j<JL l b->ZU (l.getD j ([],[])).1 b=tA|[],b,j,h=>by simp[JL]at h|p::r,b,j,h=>by cases hk:ZU p.1 b with|true=>simp[JL,hk]at h|false=>cases j with|zero=>simpa using hk|succ j=>have:=Ld r b j (by unfold JL at h⊢;rw[tM (p:=fun q:Pr=>!ZU q.1 b) (by simp[hk])]at h;simpa using h);simpa using this
theorem Be:∀(l:PL)(b:Nat),JL l b<l.length->ZU (l.getD (JL l b) ([],[])).1 b=L|[],b,h=>by simp at h|p::r,b,h=>by cases hk:ZU p.1 b with|true=>simp[JL,hk]|false=>(have e:JL (p::r) b=JL r b+1:=by unfold JL;rw[tM (p:=fun q:Pr=>!ZU q.1 b) (by simp[hk])];simp);rw[e]at h⊢;have:=Be r b (by simpa using h);simpa using this
theorem GJ{l:PL}(h:ZH l)(h2:2<=l.length)(j:Nat)(hj:j<l.length):ZU (l.getD j ([],[])).1 (Qz l).toNat=tI (JL l (Qz l).toNat<=j):=by
 by_cases hlt:j<JL l (Qz l).toNat;·rw[decide_eq_false (by omega)];exact Ld l _ j hlt
 ·rw[decide_eq_true (by omega)];have h0:=Be l (Qz l).toNat (by omega);by_cases e:j=JL l (Qz l).toNat;(·rw[e];exact h0);·exact NP h h2 _ j (by omega) hj h0
theorem UC{l:PL}(h:ZH l)(h2:2<=l.length):0<JL l (Qz l).toNat∧JL l (Qz l).toNat<l.length:=by
 obtain⟨e1,e2⟩:=NW h h2;rw[GJ h h2 0 (by omega)]at e1;rw[GJ h h2 _ (by omega)]at e2;simp at e1 e2;omega
theorem kR{l:PL}(h:ZH l)(h2:2<=l.length):Y9 l (Qz l).toNat tA=l.take (JL l (Qz l).toNat):=by
 have hs:=UC h h2;have hb:=fun j hj=>GJ h h2 j hj;generalize(Qz l).toNat=b at*;generalize JL l b=n at*;have e:l=l.take n++l.drop n:=(tE n l).symm;rw[Y9];conv=>lhs;rw[e]
 rw[sJ,tN.2,sK.2,tV];·intro q hq;obtain⟨j,hj,rfl⟩:=N.1 hq;(have hjn:n+j<l.length:=by simp at hj;omega);rw[sN,show l[n+j]=l.getD (n+j) ([],[])by simp[hjn],hb _ hjn];simp
 ·intro q hq;obtain⟨j,hj,rfl⟩:=N.1 hq;(have hjn:j<n:=by simp at hj;omega);rw[sG,show l[j]'(by omega)=l.getD j ([],[])by simp[show j<l.length by omega],hb _ (by omega)];simp[hjn]
theorem PQ{l:PL}(h:ZH l)(h2:2<=l.length):Y9 l (Qz l).toNat L=l.drop (JL l (Qz l).toNat):=by
 have hs:=UC h h2;have hb:=fun j hj=>GJ h h2 j hj;generalize(Qz l).toNat=b at*;generalize JL l b=n at*;have e:l=l.take n++l.drop n:=(tE n l).symm;rw[Y9];conv=>lhs;rw[e]
 rw[sJ,sK.2,tN.2,pC];·intro q hq;obtain⟨j,hj,rfl⟩:=N.1 hq;(have hjn:n+j<l.length:=by simp at hj;omega);rw[sN,show l[n+j]=l.getD (n+j) ([],[])by simp[hjn],hb _ hjn];simp
 ·intro q hq;obtain⟨j,hj,rfl⟩:=N.1 hq;(have hjn:j<n:=by simp at hj;omega);rw[sG,show l[j]'(by omega)=l.getD j ([],[])by simp[show j<l.length by omega],hb _ (by omega)];simp[hjn]
def U(x:BitVec 64):Int:=(x.toNat:Int)
theorem jA(x:BitVec 64):sD 64 (U x)=x:=by
 unfold U;rw[pN];simp
theorem kK(x:BitVec 64):rG.wrap (x.toNat:Int)=U x:=by
 rw[rW];unfold U;have:=x.isLt;omega
theorem Zo(x y:BitVec 64):bits .xor .u64 (U x) (U y)=U (x^^^y):=by
 show rG.wrap ((sD 64 (U x)^^^sD 64 (U y)).toNat:Int)=_;rw[jA,jA,kK]
theorem Nc(x y:BitVec 64):bits .or .u64 (U x) (U y)=U (x|||y):=by
 show rG.wrap ((sD 64 (U x)|||sD 64 (U y)).toNat:Int)=_;rw[jA,jA,kK]
theorem Ky(x y:BitVec 64):bits .andNot .u64 (U x) (U y)=U (x&&&~~~y):=by
 show rG.wrap ((sD 64 (U x)&&&~~~sD 64 (U y)).toNat:Int)=_;rw[jA,jA,kK]
theorem JT(x:BitVec 64)(k:Nat):rG.wrap (U x*2^k)=U (x<<<k):=by
 rw[rW];unfold U;rw[BitVec.toNat_shiftLeft,Nat.shiftLeft_eq];have e:((x.toNat:Int)*2^k)=((x.toNat*2^k:Nat):Int):=by simp
 rw[e];omega
theorem NK(x:BitVec 64)(k:Nat):U x/2^k=U (x>>>k):=by
 unfold U;rw[BitVec.toNat_ushiftRight,Nat.shiftRight_eq_div_pow];simp
theorem iE(k:Int)(h0:0<=k)(h:k<64):bits .and .u64 k 63=k:=by
 obtain⟨n,rfl⟩:=Int.eq_ofNat_of_zero_le h0;show rG.wrap ((sD 64 (n:Int)&&&sD 64 63).toNat:Int)=_;rw[pN,BitVec.toNat_and];have h1:(BitVec.ofNat 64 n).toNat=n:=by rw[BitVec.toNat_ofNat];omega
 have h2:(sD 64 63).toNat=2^6-1:=by decide
 rw[h1,h2,Nat.and_two_pow_sub_one_eq_mod,rW];omega
def xJ(x:BitVec 64)(k:Nat):BitVec 64:=(x<<<k)|||(x>>>(64-k))
section
theorem LH(x:BitVec 64)(k:Int)(h0:0<=k)(h:k<64)(w:I):rY tB 166 #[tK .u64 (U x),tK rA k] w fun e w'=>e=sQ (tK .u64 (U (xJ x k.toNat)))∧w'=w:=by
 have h63:=iE k h0 h;go_enter Tryz.func166,Tryz.ntmps166;go_wp2;go_ret;refine⟨?_,rfl⟩;rw[show(64-k).toNat=64-k.toNat by omega,JT,NK,Nc];rfl
def Ke(st:List (BitVec 64)):Array O:=(st.map fun x=>tK .u64 (U x)).toArray
structure XZ (n : Nat) (w : I) (b : Nat) (st : List (BitVec 64)) : Prop where
  len : st.length = n
  blk : ∃ t, w.heap[b]? = F (tJ (Ke st) t (0, 0))
section
variable{n:Nat}{w:I}{b:Nat}{st:List (BitVec 64)}
theorem XZ.cell(h:XZ n w b st)(i:Nat)(hi:i<n):w.cell? ⟨b,i,H⟩=F (tK .u64 (U (st.getD i 0))):=by
 obtain⟨t,hb⟩:=h.blk;simp[sA,hb,Ke,sV,rM (show i<st.length by have:=h.len;omega)]
theorem XZ.frozen(h:XZ n w b st)(i:Nat):w.frozen? ⟨b,i,H⟩=tA:=by
 obtain⟨t,hb⟩:=h.blk;simp[sX,hb]
theorem XZ.lt(h:XZ n w b st):b<w.heap.size:=by
 obtain⟨t,hb⟩:=h.blk;exact(tL.1 hb).1
theorem Du(st:List (BitVec 64))(i:Nat)(x:BitVec 64):(Ke st).setIfInBounds i (tK .u64 (U x))=Ke (st.set i x):=by
 simp[Ke]
theorem XZ.set(h:XZ n w b st)(i:Nat)(x:BitVec 64):XZ n (tG w ⟨b,i,H⟩ (tK .u64 (U x))) b (st.set i x):=by
 obtain⟨t,hb⟩:=h.blk;refine⟨by simp[h.len],t,?_⟩;simp only[tG,tR,if_true,hb,sP];simp[Du]
theorem XZ.setOther(h:XZ n w b st)(c:Nat)(hc:b≠c)(i:Nat)(v:O):XZ n (tG w ⟨c,i,H⟩ v) b st:=by
 obtain⟨t,hb⟩:=h.blk;exact⟨h.len,t,by rw[Below.heap_setCell _ _ _ _ hc];exact hb⟩
theorem XZ.drewN(h:XZ n w b st)(k:Nat):XZ n (w.drewN k) b st:=⟨h.len,h.blk⟩
theorem XZ.drew(h:XZ n w b st):XZ n w.drew b st:=⟨h.len,h.blk⟩
theorem XZ.alloc(h:XZ n w b st)(o:Obj):XZ n (w.alloc o) b st:=by
 obtain⟨t,hb⟩:=h.blk;exact⟨h.len,t,by rw[Below.heap_alloc _ _ _ h.lt];exact hb⟩
theorem XZ.grown(h:XZ n w b st){w':I}{r:Option Nat}(hg:J w w' r)(hr:F b≠r):XZ n w' b st:=by
 obtain⟨t,hb⟩:=h.blk;exact⟨h.len,t,by rw[hg.block b h.lt hr];exact hb⟩
theorem XZ.new(w:I)(t:sY)(st:List (BitVec 64))(hl:st.length=n):XZ n (w.alloc (tJ (Ke st) t)) w.heap.size st:=⟨hl,t,rK w _⟩
end
abbrev St:=XZ 25
def Lg(st:List (BitVec 64))(n:Nat):List (BitVec 64):=let a:=st.getD n 0;let b:=st.getD (n+1) 0;let c:=st.getD (n+2) 0;let d:=st.getD (n+3) 0;let e:=st.getD (n+4) 0;((((st.set n (a^^^(c&&&~~~b))).set (n+1) (b^^^(d&&&~~~c))).set (n+2) (c^^^(e&&&~~~d))).set (n+3) (d^^^(a&&&~~~e))).set (n+4) (e^^^(b&&&~~~a))
def VN(st:List (BitVec 64)):Nat->List (BitVec 64)|0=>st|k+1=>Lg (VN st k) (5*k)
theorem IJ(w:I)(b:Nat)(st:List (BitVec 64))(h:St w b st):rY tB 148 #[.pointer (F ⟨b,0,H⟩)] w fun e w'=>e=sQ (pX #[])∧St w' b (VN st 5)∧J w w' (F b):=by
 go_enter Tryz.func148,Tryz.ntmps148;go_wp2;go_loopw[2](fun y wr=>∃k:Nat,k<=5∧y=tK rA ((5*k:Nat):Int)∧St wr b (VN st k)∧J w wr (F b))(fun y _=>25-(intOf y).toNat);case atStart=>exact⟨0,by omega,rfl,h,Qb _ _⟩
 case round=>obtain⟨k,hk,rfl,hst,hg⟩:=hrel;by_cases hlt:k<5;(·generalize hn:5*k=n;have HN:Hid (5*k=n):=hn;clear hn;(have h25:n+4<25:=by have:=HN.out;omega);have hc:=hst.cell;have hf:=hst.frozen;have c0:=hc n (by omega);have c1:=hc (n+1) (by omega);have c2:=hc (n+2) (by omega);have c3:=hc (n+3) (by omega);have c4:=hc (n+4) (by omega);clear hc;generalize hS:VN st k=S at*;have HS:Hid (VN st k=S):=hS;clear hS;generalize hA:S.getD n 0=A at*;generalize hB:S.getD (n+1) 0=B at*;generalize hC:S.getD (n+2) 0=C at*;generalize hD:S.getD (n+3) 0=D at*;generalize hE:S.getD (n+4) 0=E at*;have HA:Hid (S.getD n 0=A):=hA;have HB:Hid (S.getD (n+1) 0=B):=hB;have HC:Hid (S.getD (n+2) 0=C):=hC;have HD:Hid (S.getD (n+3) 0=D):=hD;have HE:Hid (S.getD (n+4) 0=E):=hE;clear hA hB hC hD hE;(have i1:(n:Int)+4<25:=by omega);go_wp2;go_quiet(fail);go_wp2;go_roundw;(case rel=>refine⟨k+1,by omega,by have:=HN.out;congr 1;omega,?_,?_⟩;(·rw[Ky,Ky,Ky,Ky,Ky,Zo,Zo,Zo,Zo,Zo];(have e:VN st (k+1)=((((S.set n (A^^^(C&&&~~~B))).set (n+1) (B^^^(D&&&~~~C))).set (n+2) (C^^^(E&&&~~~D))).set (n+3) (D^^^(A&&&~~~E))).set (n+4) (E^^^(B&&&~~~A)):=by simp only[VN,Lg,HS.out,HN.out,HA.out,HB.out,HC.out,HD.out,HE.out]);rw[e];exact(((((hst.drewN nq).set n _).set (n+1) _).set (n+2) _).set (n+3) _).set (n+4) _);·exact Qi (Qi (Qi (Qi (Qi (Qn hg nq) n _) (n+1) _) (n+2) _) (n+3) _) (n+4) _);case measure=>simp[intOf];omega);·(obtain rfl:k=5:=by omega);go_wp2;go_end0;exact⟨rfl,hst,hg⟩
end
def SQ(st:List (BitVec 64))(x:Nat):BitVec 64:=st.getD x 0^^^st.getD (x+5) 0^^^st.getD (x+10) 0^^^st.getD (x+15) 0^^^st.getD (x+20) 0
def Vm(st:List (BitVec 64)):Nat->List (BitVec 64)|0=>[0,0,0,0,0]|k+1=>(Vm st k).set k (SQ st k)
def aX(c:List (BitVec 64)):List (BitVec 64):=[c.getD 4 0^^^xJ (c.getD 1 0) 1,c.getD 0 0^^^xJ (c.getD 2 0) 1,c.getD 1 0^^^xJ (c.getD 3 0) 1,c.getD 2 0^^^xJ (c.getD 4 0) 1,c.getD 3 0^^^xJ (c.getD 0 0) 1]
def F4(d st:List (BitVec 64))(k:Nat):List (BitVec 64):=let y:=d.getD k 0;((((st.set k (st.getD k 0^^^y)).set (k+5) (st.getD (k+5) 0^^^y)).set (k+10) (st.getD (k+10) 0^^^y)).set (k+15) (st.getD (k+15) 0^^^y)).set (k+20) (st.getD (k+20) 0^^^y)
def jW(d st:List (BitVec 64)):Nat->List (BitVec 64)|0=>st|k+1=>F4 d (jW d st k) k
theorem aR(w:I)(b:Nat)(st:List (BitVec 64))(h:St w b st):rY tB 146 #[.pointer (F ⟨b,0,H⟩)] w fun e w'=>e=sQ (pX #[])∧St w' b (jW (aX (Vm st 5)) st 5)∧J w w' (F b):=by
 have hbn:b≠w.heap.size:=Nat.ne_of_lt h.lt;have h0:=h;go_enter Tryz.func146,Tryz.ntmps146;go_wp2_with fail;go_loopw[6](fun i wr=>∃k:Nat,k<=5∧i=tK rA (k:Int)∧St wr b st∧XZ 5 wr w.heap.size (Vm st k)∧J w wr (F b))(fun i _=>5-(intOf i).toNat);case atStart=>exact⟨0,by omega,rfl,h.alloc _,XZ.new w 254 [0,0,0,0,0] rfl,Qx (Qb _ _) _⟩
 case round=>obtain⟨k,hk,rfl,hst,hcl,hg⟩:=hrel;by_cases hlt:k<5;(·have c0:=hst.cell k (by omega);have c1:=hst.cell (k+5) (by omega);have c2:=hst.cell (k+10) (by omega);have c3:=hst.cell (k+15) (by omega);have c4:=hst.cell (k+20) (by omega);have d0:=hcl.cell k hlt;have hf:=hcl.frozen k;generalize hx0:st.getD k 0=x0 at*;generalize hx1:st.getD (k+5) 0=x1 at*;generalize hx2:st.getD (k+10) 0=x2 at*;generalize hx3:st.getD (k+15) 0=x3 at*;generalize hx4:st.getD (k+20) 0=x4 at*;(have HX:Hid (SQ st k=x0^^^x1^^^x2^^^x3^^^x4):=by show SQ st k=_;simp only[SQ,hx0,hx1,hx2,hx3,hx4]);generalize hcc:Vm st k=cc at*;have HC:Hid (Vm st k=cc):=hcc;generalize hy:cc.getD k 0=y at*;clear hx0 hx1 hx2 hx3 hx4 hcc hy h;(have i1:(k:Int)+20<25:=by omega);(have i2:(k:Int)<5:=by omega);go_wp2_with fail;go_region;(all_goals go_wp2);go_roundw;(case rel=>rw[Zo,Zo,Zo,Zo];have hlt':=hst.lt;have hlt2:=hcl.lt;refine⟨k+1,by omega,by go_num,(hst.setOther _ hbn _ _).drew,?_,Ql (Qc hg _ (sB _) _ _)⟩;simp only[Vm,HC.out,HX.out];exact(hcl.set k _).drew);case measure=>simp[intOf];omega);·(obtain rfl:k=5:=by omega);have e0:=hcl.cell 0 (by omega);have e1:=hcl.cell 1 (by omega);have e2:=hcl.cell 2 (by omega);have e3:=hcl.cell 3 (by omega);have e4:=hcl.cell 4 (by omega);generalize hcc:Vm st 5=cc at*;have HC:Hid (Vm st 5=cc):=hcc;generalize hx0:cc.getD 0 0=x0 at*;generalize hx1:cc.getD 1 0=x1 at*;generalize hx2:cc.getD 2 0=x2 at*;generalize hx3:cc.getD 3 0=x3 at*;generalize hx4:cc.getD 4 0=x4 at*;(have HD:Hid (aX cc=[x4^^^xJ x1 1,x0^^^xJ x2 1,x1^^^xJ x3 1,x2^^^xJ x4 1,x3^^^xJ x0 1]):=by show aX cc=_;simp only[aX,hx0,hx1,hx2,hx3,hx4]);clear hcc hx0 hx1 hx2 hx3 hx4 h;have hwr:=hcl.lt;go_upto_region 6with fail;go_cut[4](fun s4 wx=>s4=.pointer (F ⟨wr.heap.size,0,H⟩)∧St wx b st∧XZ 5 wx wr.heap.size (aX cc)∧J w wx (F b));(case first=>go_region_held3(fun w'=>w'.cell? ⟨w.heap.size,0,H⟩=F (tK .u64 (U x0))∧w'.cell? ⟨w.heap.size,1,H⟩=F (tK .u64 (U x1))∧w'.cell? ⟨w.heap.size,2,H⟩=F (tK .u64 (U x2))∧w'.cell? ⟨w.heap.size,3,H⟩=F (tK .u64 (U x3))∧w'.cell? ⟨w.heap.size,4,H⟩=F (tK .u64 (U x4)))(go_keep)(first|(go_at_call 166;refine(LH _ (1:Int) (by omega) (by omega) _).mono ?_;rintro e w'⟨rfl,rfl⟩));all_goals(go_wp2_with fail;go_meet;case rel=>(rw[HD.out,Zo,Zo,Zo,Zo,Zo];exact⟨rfl,(hst.alloc _).drew,(XZ.new wr 254 [x4^^^xJ x1 1,x0^^^xJ x2 1,x1^^^xJ x3 1,x2^^^xJ x4 1,x3^^^xJ x0 1] rfl).drew,Ql (Qx hg _)⟩)));case rest=>obtain⟨rfl,hst2,hd2,hg2⟩:=hcut;clear e0 e1 e2 e3 e4 hst hcl hg;(have hbw:b≠wr.heap.size:=by have:=h0.lt;omega);generalize hD:aX cc=dd at*;have HDD:Hid (aX cc=dd):=hD;clear hD HD;generalize hdn:wr.heap.size=db at*;clear hdn hwr;go_wp2_with fail;go_loopw[76](fun i wr=>∃k:Nat,k<=5∧i=tK rA (k:Int)∧St wr b (jW dd st k)∧XZ 5 wr db dd∧J w wr (F b))(fun i _=>5-(intOf i).toNat);(case atStart=>exact⟨0,by omega,rfl,hst2,hd2,hg2⟩);case round=>clear hst2 hd2 hg2;obtain⟨k,hk,rfl,hst,hd,hg⟩:=hrel;by_cases hlt:k<5;(·have c0:=hst.cell k (by omega);have c1:=hst.cell (k+5) (by omega);have c2:=hst.cell (k+10) (by omega);have c3:=hst.cell (k+15) (by omega);have c4:=hst.cell (k+20) (by omega);have d0:=hd.cell k hlt;have hf:=hst.frozen;generalize hS:jW dd st k=S at*;have HS:Hid (jW dd st k=S):=hS;generalize hy:dd.getD k 0=y at*;generalize hx0:S.getD k 0=x0 at*;generalize hx1:S.getD (k+5) 0=x1 at*;generalize hx2:S.getD (k+10) 0=x2 at*;generalize hx3:S.getD (k+15) 0=x3 at*;generalize hx4:S.getD (k+20) 0=x4 at*;(have HX:Hid (F4 dd S k=((((S.set k (x0^^^y)).set (k+5) (x1^^^y)).set (k+10) (x2^^^y)).set (k+15) (x3^^^y)).set (k+20) (x4^^^y)):=by show F4 dd S k=_;simp only[F4,hy,hx0,hx1,hx2,hx3,hx4]);clear hS hy hx0 hx1 hx2 hx3 hx4;(have i1:(k:Int)+20<25:=by omega);(have i2:(k:Int)<5:=by omega);go_wp2_with fail;go_region;go_wp2_with fail;go_region;go_wp2_with fail;go_region;go_wp2_with fail;go_region;go_wp2_with fail;go_region;go_wp2_with fail;go_roundw;(case rel=>rw[Zo,Zo,Zo,Zo,Zo];refine⟨k+1,by omega,by go_num,?_,?_,?_⟩;(·simp only[jW,HS.out,HX.out];exact(((((hst.set k _).set (k+5) _).set (k+10) _).set (k+15) _).set (k+20) _).drew.drew.drew.drew.drew);(·exact(((((hd.setOther b hbw.symm k _).setOther b hbw.symm (k+5) _).setOther b hbw.symm (k+10) _).setOther b hbw.symm (k+15) _).setOther b hbw.symm (k+20) _).drew.drew.drew.drew.drew);·exact Ql (Ql (Ql (Ql (Ql (Qi (Qi (Qi (Qi (Qi hg k _) (k+5) _) (k+10) _) (k+15) _) (k+20) _))))));case measure=>simp[intOf];omega);·(obtain rfl:k=5:=by omega);go_wp2;go_end0;refine⟨rfl,?_,hg⟩;rw[HC.out,HDD.out];exact hst
def JA:List Nat:=[10,7,11,17,18,3,5,16,8,21,24,4,15,23,19,13,12,2,20,14,22,9,6,1]
def J8:List Nat:=[1,3,6,10,15,21,28,36,45,55,2,14,27,41,56,8,25,43,62,18,39,61,20,44]
def JC:List (BitVec 64):=[0x0000000000000001,0x0000000000008082,0x800000000000808a,0x8000000080008000,0x000000000000808b,0x0000000080000001,0x8000000080008081,0x8000000000008009,0x000000000000008a,0x0000000000000088,0x0000000080008009,0x000000008000000a,0x000000008000808b,0x800000000000008b,0x8000000000008089,0x8000000000008003,0x8000000000008002,0x8000000000000080,0x000000000000800a,0x800000008000000a,0x8000000080008081,0x8000000000008080,0x0000000080000001,0x8000000080008008]
theorem dD(k:Nat)(h:k<24):JA.getD k 0<25:=(by
 decide:∀k:Fin 24,JA.getD k.1 0<25) ⟨k,h⟩
theorem I4(k:Nat)(h:k<24):J8.getD k 0<64:=(by
 decide:∀k:Fin 24,J8.getD k.1 0<64) ⟨k,h⟩
structure YJ(w:I):Prop where nums:∀i,i<24->w.cell? ⟨2,i,H⟩=F (tK .u64 (U (JC.getD i 0)))walk:∀i,i<24->w.cell? ⟨3,i,H⟩=F (tK rA ((JA.getD i 0:Nat):Int))turns:∀i,i<24->w.cell? ⟨4,i,H⟩=F (tK rA ((J8.getD i 0:Nat):Int))
theorem YJ.grown{w w':I}{b:Nat}(h:YJ w)(hg:J w w' (F b))(hb:5<=b):YJ w':=⟨fun i hi=>hg.cell (h.nums i hi) (by
 simp;omega),fun i hi=>hg.cell (h.walk i hi) (by
 simp;omega),fun i hi=>hg.cell (h.turns i hi) (by
 simp;omega)⟩
def JZ(st:List (BitVec 64)):Nat->List (BitVec 64)×BitVec 64|0=>(st,st.getD 1 0)|k+1=>((JZ st k).1.set (JA.getD k 0) (xJ (JZ st k).2 (J8.getD k 0)),(JZ st k).1.getD (JA.getD k 0) 0)
theorem OR(w:I)(b:Nat)(hb:5<=b)(st:List (BitVec 64))(h:St w b st)(ht:YJ w):rY tB 147 #[.pointer (F ⟨b,0,H⟩)] w fun e w'=>e=sQ (pX #[])∧St w' b (JZ st 24).1∧J w w' (F b):=by
 have c1:=h.cell 1 (by omega);go_enter Tryz.func147,Tryz.ntmps147;go_wp2;go_loopw[2,10](fun m i wr=>∃k:Nat,k<=24∧i=tK rA (k:Int)∧m=tK .u64 (U (JZ st k).2)∧St wr b (JZ st k).1∧J w wr (F b))(fun _ i _=>24-(intOf i).toNat);case atStart=>exact⟨0,by omega,rfl,by simp[JZ],h,Qb _ _⟩
 case round=>obtain⟨k,hk,rfl,rfl,hst,hg⟩:=hrel;clear c1;by_cases hlt:k<24;(·have hT:=ht.grown hg hb;have hw:=dD k hlt;have hr:=I4 k hlt;have t1:=hT.walk k hlt;have t2:=hT.turns k hlt;have c:=hst.cell (JA.getD k 0) hw;have hf:=hst.frozen;generalize hS:(JZ st k).1=S at*;have HS:Hid ((JZ st k).1=S):=hS;generalize hM:(JZ st k).2=M at*;have HM:Hid ((JZ st k).2=M):=hM;generalize hW:JA.getD k 0=W at*;have HW:Hid (JA.getD k 0=W):=hW;generalize hR:J8.getD k 0=R at*;have HR:Hid (J8.getD k 0=R):=hR;clear hS hM hW hR;generalize hX:S.getD W 0=X at*;have HX:Hid (S.getD W 0=X):=hX;clear hX hT ht h;(have i1:(W:Int)<25:=by omega);go_wp2_with fail;go_region_with(go_at_call 166;refine(LH M (R:Int) (by omega) (by omega) _).mono ?_;rintro e w'⟨rfl,rfl⟩);(all_goals go_wp2);go_roundw;(case rel=>refine⟨k+1,by omega,by go_num,?_,?_,Ql (Qi hg _ _)⟩;(·simp only[JZ,HS.out,HW.out,HX.out]);·simp only[JZ,HS.out,HM.out,HW.out,HR.out];exact(hst.set W _).drew);case measure=>simp[intOf];omega);·(obtain rfl:k=24:=by omega);go_wp2;go_end0;exact⟨rfl,hst,hg⟩
def BH(st:List (BitVec 64))(n:BitVec 64):List (BitVec 64):=let r:=VN (JZ (jW (aX (Vm st 5)) st 5) 24).1 5;r.set 0 (r.getD 0 0^^^n)
theorem Ix(w:I)(b:Nat)(hb:5<=b)(st:List (BitVec 64))(n:BitVec 64)(h:St w b st)(ht:YJ w):rY tB 128 #[.pointer (F ⟨b,0,H⟩),tK .u64 (U n)] w fun e w'=>e=sQ (pX #[])∧St w' b (BH st n)∧J w w' (F b):=by
 go_enter Tryz.func128,Tryz.ntmps128;go_wp2_with fail;refine(aR _ b st h).mono ?_;rintro e w1⟨rfl,h1,g1⟩;go_wp2_with fail;refine(OR _ b hb _ h1 (ht.grown g1 hb)).mono ?_;rintro e w2⟨rfl,h2,g2⟩;go_wp2_with fail;refine(IJ _ b _ h2).mono ?_;rintro e w3⟨rfl,h3,g3⟩;have g:=Qa g1 (Qa g2 g3);clear g1 g2 g3 h1 h2 h ht;have HR:Hid (BH st n=(VN (JZ (jW (aX (Vm st 5)) st 5) 24).1 5).set 0 ((VN (JZ (jW (aX (Vm st 5)) st 5) 24).1 5).getD 0 0^^^n)):=rfl;generalize VN (JZ (jW (aX (Vm st 5)) st 5) 24).1 5=S at*;have c0:=h3.cell 0 (by omega);have hf:=h3.frozen 0;generalize hx:S.getD 0 0=x at*;clear hx;go_wp2_with fail;go_region;go_wp2_with fail;go_end0;refine⟨rfl,?_,Ql (Qi g 0 _)⟩;rw[HR.out,Zo];exact(h3.set 0 _).drew
def kH{α:Type}(p:α->Bool):List α->Option Nat|[]=>H|a::l=>if p a=L then F 0 else(kH p l).map (·+1)
def ZQ{α:Type}(p:α->Bool)(l:List α):Int:=match kH p l with|F i=>(i:Int)|none=>-1
theorem Tk{α:Type}(p:α->Bool)(d:α):∀(l:List α)(m:Nat),m<l.length->(l.take m).any p=tA->p (l.getD m d)=L->kH p l=F m|[],_,h,_,_=>by simp at h|a::l,0,_,_,h=>by have h':p a=L:=h;rw[kH,if_pos h']|a::l,m+1,h0,h1,h2=>by rw[sH,rT,rP]at h1;rw[kH,if_neg (by rw[h1.1];decide),Tk p d l m (by simpa using h0) h1.2 (by simpa using h2)];rfl
theorem P8{α:Type}(p:α->Bool):∀(l:List α),l.any p=tA->kH p l=H|[],_=>rfl|a::l,h=>by rw[rT,rP]at h;rw[kH,if_neg (by rw[h.1];decide),P8 p l h.2];rfl
theorem qU{α:Type}(p:α->Bool)(d:α)(l:List α)(m:Nat)(h:m<l.length)(h1:(l.take m).any p=tA)(h2:p (l.getD m d)=L):ZQ p l=(m:Int):=by
 rw[ZQ,Tk p d l m h h1 h2]
theorem K3{α:Type}(p:α->Bool)(l:List α)(h:l.any p=tA):ZQ p l=-1:=by
 rw[ZQ,P8 p l h]
theorem Va{α:Type}(p:α->Bool)(d:α):∀(l:List α),l.any p=L->∃m,m<l.length∧(l.take m).any p=tA∧p (l.getD m d)=L∧ZQ p l=(m:Int)|[],h=>by simp at h|a::l,h=>by by_cases ha:p a=L;(·exact⟨0,by simp,by simp,ha,qU p d (a::l) 0 (by simp) (by simp) ha⟩);·(have hf:p a=tA:=by simpa using ha);rw[rT,hf,Bool.false_or]at h;obtain⟨m,h1,h2,h3,_⟩:=Va p d l h;(have e1:m+1<(a::l).length:=by simp;omega);(have e2:((a::l).take (m+1)).any p=tA:=by rw[sH,rT,hf,h2];rfl);(have e3:p ((a::l).getD (m+1) d)=L:=by simpa using h3);exact⟨m+1,e1,e2,e3,qU p d _ _ e1 e2 e3⟩
theorem kS{α:Type}(p:α->Bool)(l:List α):(ZQ p l==-1)=!(l.any p):=by
 cases h:l.any p with|false=>rw[K3 p l h];rfl|true=>cases l with|nil=>simp at h|cons a l=>obtain⟨m,_,_,_,e⟩:=Va p a (a::l) h;rw[e];(have:((m:Int)==-1)=tA:=by simp);rw[this];rfl
theorem TP{α:Type}(p:α->Bool)(l:List α):tI (0<=ZQ p l)=l.any p:=by
 cases h:l.any p with|false=>rw[K3 p l h];rfl|true=>cases l with|nil=>simp at h|cons a l=>obtain⟨m,_,_,_,e⟩:=Va p a (a::l) h;rw[e];simp
theorem K9(w:I)(v1 v2:O)(b1 b2:List UInt8)(h1:Qe w v1 b1)(h2:Qe w v2 b2):rY tB 56 #[v1,v2] w fun e w'=>e=sQ (pQ (tI (b1=b2)))∧w'=w:=by
 have c1:=conv_bytes w v1 b1 h1;have c2:=conv_bytes w v2 b2 h2;go_enter Tryz.func56,Tryz.ntmps56;go_wp2;go_ret;refine⟨?_,rfl⟩;have e:((qT b1).toList==(qT b2).toList)=tI (b1=b2):=by rw[Gc,Gc];by_cases h:b1=b2<;>simp[h]
 rw[<-e];rfl
theorem vY(p:Zd):QQ [] [p]=QD p:=by
 have h0:Q8 []=0:=(X6 []).2 qM;rw[QQ,if_pos h0,if_neg (by simp),Zy];by_cases h:QD p=0;·have h2:=z9 qM h Wi (by omega);have h3:(Za [] p).length<=1:=Fb [] p;rw[if_neg (by omega)]at h2;rw[if_pos h,if_pos h2,Zy,h]
 ·rw[if_neg h]
def F9:Prop:=∀(w:I)(a:Option pG)(n cap:Nat),rY tB 68 #[tH a n cap] w fun e w'=>e=sQ (tK rA (Qp n))∧J w w' H
theorem YN:F9:=by
 intro w a n cap;by_cases h1:1<=n;·by_cases h2:n<=16;(·rw[Qp,if_pos ⟨h1,h2⟩];(have t1:¬(n:Int)<1:=by omega);(have t2:¬(n:Int)>16:=by omega);go_enter pR,pI;go_wp2;go_ret;exact⟨rfl,Qb _ _⟩);·rw[Qp,if_neg (by omega)];(have t1:¬(n:Int)<1:=by omega);(have t2:(n:Int)>16:=by omega);go_enter pR,pI;go_wp2;go_ret;exact⟨rfl,Qb _ _⟩
 ·rw[Qp,if_neg (by omega)];(have t1:(n:Int)<1:=by omega);go_enter pR,pI;go_wp2;go_ret;exact⟨rfl,Qb _ _⟩
def Zr(l:PL)(k:List UInt8):Nat:=(l.takeWhile fun p=>YD p.1 k).length
def GN(l:PL)(k:List UInt8):Bool:=tI (Zr l k<l.length∧(l.getD (Zr l k) ([],[])).1=k)
def XQ(l:PL)(k:List UInt8):Nat:=if GN l k=L then Zr l k+1 else Zr l k
theorem yD(l:PL)(k:List UInt8):Zr l k<=l.length:=by
 induction l with|nil=>simp[Zr]|cons p r ih=>unfold Zr at ih⊢;rw[pV];cases h:YD p.1 k with|true=>simpa using ih|false=>simp
theorem Oq:∀(l:PL)(k:List UInt8)(i:Nat),i<=l.length->(∀j,j<i->YD (l.getD j ([],[])).1 k=L)->(i<l.length->YD (l.getD i ([],[])).1 k=tA)->Zr l k=i|[],k,i,h,_,_=>by(obtain rfl:i=0:=by simpa using h);rfl|p::r,k,0,_,_,h2=>by have:=h2 (by simp);simp only[tX]at this;simp[Zr,this]|p::r,k,i+1,h,h1,h2=>by have h0:=h1 0 (by omega);simp only[tX]at h0;have:=Oq r k i (by simpa using h) (fun j hj=>by simpa using h1 (j+1) (by omega)) (fun hi=>by simpa using h2 (by simpa using hi));unfold Zr at this⊢;rw[tM (p:=fun p:Pr=>YD p.1 k) h0];simpa using this
theorem Mb:∀(l:PL)(k:List UInt8)(j:Nat),j<Zr l k->YD (l.getD j ([],[])).1 k=L|[],k,j,h=>by simp[Zr]at h|p::r,k,j,h=>by cases hk:YD p.1 k with|false=>simp[Zr,hk]at h|true=>cases j with|zero=>simpa using hk|succ j=>unfold Zr at h;rw[tM (p:=fun p:Pr=>YD p.1 k) hk]at h;have:=Mb r k j (by unfold Zr;simpa using h);simpa using this
theorem MB:∀(l:PL)(k:List UInt8),Zr l k<l.length->YD (l.getD (Zr l k) ([],[])).1 k=tA|[],k,h=>by simp at h|p::r,k,h=>by cases hk:YD p.1 k with|false=>simp[Zr,hk]|true=>(have e:Zr (p::r) k=Zr r k+1:=by unfold Zr;rw[tM (p:=fun p:Pr=>YD p.1 k) hk];simp);rw[e]at h⊢;have:=MB r k (by simpa using h);simpa using this
theorem uG(l:PL)(k:List UInt8)(hr:Ud l)(j:Nat)(hj:j<l.length):YD (l.getD j ([],[])).1 k=tI (j<Zr l k):=by
 by_cases h:j<Zr l k;·rw[decide_eq_true h];exact Mb l k j h
 ·rw[decide_eq_false h];have h0:=MB l k (by omega);by_cases e:j=Zr l k;(·rw[e];exact h0);·cases hk:YD (l.getD j ([],[])).1 k with|false=>rfl|true=>have:=Jg _ _ _ (UK l hr (Zr l k) j (by omega) hj) hk;rw[this]at h0;cases h0
theorem vR{l:PL}{k:List UInt8}(h:GN l k=L):Zr l k<l.length∧(l.getD (Zr l k) ([],[])).1=k:=by
 simpa only[GN,decide_eq_true_eq]using h
theorem yT(l:PL)(k:List UInt8):Zr l k<=XQ l k∧XQ l k<=l.length∧XQ l k<=Zr l k+1:=by
 have:=yD l k;unfold XQ;by_cases h:GN l k=L;·rw[if_pos h];have:=(vR h).1;omega
 ·rw[if_neg h];omega
theorem Tc(l:PL)(k:List UInt8)(hr:Ud l)(j:Nat)(hj:j<l.length)(he:(l.getD j ([],[])).1=k):GN l k=L∧j=Zr l k:=by
 have hp:Zr l k=j:=by refine Oq l k j (by omega) (fun i hi=>?_) (fun _=>?_);(·rw[<-he];exact UK l hr i j hi hj);·rw[he];exact XN k
 refine⟨?_,hp.symm⟩;rw[GN,hp];exact decide_eq_true ⟨hj,he⟩
theorem bQ(l:PL)(k:List UInt8)(hr:Ud l):xL l k=if GN l k=L then F (l.getD (Zr l k) ([],[])).2 else H:=by
 by_cases h:GN l k=L;·rw[if_pos h];obtain⟨h1,h2⟩:=vR h;refine Oj l k _ h1 (fun j hj e=>?_) h2;have:=Mb l k j hj;rw[e,XN]at this;cases this
 ·rw[if_neg h];exact DR l k fun j hj e=>h (Tc l k hr j hj e).1
theorem D8(l:PL)(p:Pr):JI l p=l.take (Zr l p.1)++([p]++l.drop (XQ l p.1)):=by
 rw[Lz l p (Zr l p.1) (yD l p.1) (fun j hj=>Mb l p.1 j hj) (MB l p.1)];by_cases h:Zr l p.1<l.length∧(l.getD (Zr l p.1) ([],[])).1=p.1;·rw[if_pos h,XQ,if_pos (by rw[GN];exact decide_eq_true h),rX,if_pos h.1];rfl
 ·rw[if_neg h,XQ,if_neg (by rw[GN];simpa using h)]
theorem IS(l:PL)(p:Pr):(JI l p).length=Zr l p.1+1+(l.length-XQ l p.1):=by
 rw[D8];have h1:=yD l p.1;simp;omega
theorem IE(l:PL)(p:Pr)(hl:l.length<=60):(60<(JI l p).length)↔(Zr l p.1=XQ l p.1∧l.length=60):=by
 rw[IS];have:=yT l p.1;omega
theorem Cs(l:PL)(f:Pr->Bool)(n:Nat)(hn:n<=l.length)(h1:∀j,j<n->f (l.getD j ([],[]))=tA)(h2:∀j,n<=j->j<l.length->f (l.getD j ([],[]))=L):l.filter f=l.drop n:=by
 have e:l=l.take n++l.drop n:=(tE n l).symm;have ha:(l.take n).filter f=[]:=by rw[sK];intro q hq;obtain⟨j,hj,rfl⟩:=N.1 hq;(have hjn:j<n:=by simp at hj;omega);have:=h1 j hjn;rw[sG];rw[show l[j]'(by omega)=l.getD j ([],[])by simp[show j<l.length by omega],this];simp
 have hb:(l.drop n).filter f=l.drop n:=by rw[tN];intro q hq;obtain⟨j,hj,rfl⟩:=N.1 hq;(have hjn:n+j<l.length:=by simp at hj;omega);rw[sN,show l[n+j]=l.getD (n+j) ([],[])by simp[hjn]];exact h2 _ (by omega) hjn
 conv=>lhs;rw[e]
 rw[sJ,ha,hb,pC]
theorem CG(l:PL)(f:Pr->Bool)(n:Nat)(hn:n<=l.length)(h1:∀j,j<n->f (l.getD j ([],[]))=L)(h2:∀j,n<=j->j<l.length->f (l.getD j ([],[]))=tA):l.filter f=l.take n:=by
 have e:l=l.take n++l.drop n:=(tE n l).symm;have hb:(l.drop n).filter f=[]:=by rw[sK];intro q hq;obtain⟨j,hj,rfl⟩:=N.1 hq;(have hjn:n+j<l.length:=by simp at hj;omega);rw[sN,show l[n+j]=l.getD (n+j) ([],[])by simp[hjn],h2 _ (by omega) hjn];simp
 have ha:(l.take n).filter f=l.take n:=by rw[tN];intro q hq;obtain⟨j,hj,rfl⟩:=N.1 hq;(have hjn:j<n:=by simp at hj;omega);rw[sG,show l[j]'(by omega)=l.getD j ([],[])by simp[show j<l.length by omega]];exact h1 j hjn
 conv=>lhs;rw[e]
 rw[sJ,ha,hb,tV]
theorem Ov(l:PL)(k:List UInt8)(hr:Ud l):zV l k=l.take (Zr l k)++l.drop (XQ l k):=by
 by_cases h:GN l k=L;·obtain⟨h1,h2⟩:=vR h;(have e:l=l.take (Zr l k)++(l.getD (Zr l k) ([],[])::l.drop (Zr l k+1)):=by(conv=>lhs;rw[<-tE (Zr l k) l,sF h1]);simp[h1]);have hne:∀j,j<l.length->j≠Zr l k->(l.getD j ([],[])).1≠k:=fun j hj hn e=>hn (Tc l k hr j hj e).2;(have ha:(l.take (Zr l k)).filter (fun q=>!(q.1==k))=l.take (Zr l k):=by rw[tN];intro q hq;obtain⟨j,hj,rfl⟩:=N.1 hq;(have hjn:j<Zr l k:=by simp at hj;omega);rw[sG,show l[j]'(by omega)=l.getD j ([],[])by simp[show j<l.length by omega]];simpa using hne j (by omega) (by omega));(have hb:(l.drop (Zr l k+1)).filter (fun q=>!(q.1==k))=l.drop (Zr l k+1):=by rw[tN];intro q hq;obtain⟨j,hj,rfl⟩:=N.1 hq;(have hjn:Zr l k+1+j<l.length:=by simp at hj;omega);rw[sN,show l[Zr l k+1+j]=l.getD (Zr l k+1+j) ([],[])by simp[hjn]];simpa using hne _ hjn (by omega));rw[XQ,if_pos h,zV];(conv=>lhs;rw[e]);rw[sJ,sS (by simpa using h2),ha,hb]
 ·rw[XQ,if_neg h,tE,zV,tN];intro q hq;obtain⟨j,hj,rfl⟩:=N.1 hq;have:=fun e=>h (Tc l k hr j hj e).1;rw[show l.getD j ([],[])=l[j]by simp[hj]]at this;simpa using this
theorem Fm(l:PL)(k:List UInt8)(hr:Ud l)(j:Nat)(hj:j<l.length):YD k (l.getD j ([],[])).1=tI (XQ l k<=j):=by
 have hp:=uG l k hr j hj;have hn:=yT l k;by_cases h1:j<Zr l k;·rw[decide_eq_true h1]at hp;rw[Hb _ _ hp,decide_eq_false (by omega)]
 ·rw[decide_eq_false h1]at hp;by_cases e:(l.getD j ([],[])).1=k;(·obtain⟨h2,h3⟩:=Tc l k hr j hj e;rw[e,XN,XQ,if_pos h2,decide_eq_false (by omega)]);·rw[K8 _ _ hp e];by_cases h:GN l k=L;(·rw[XQ,if_pos h,decide_eq_true (by by_cases hjp:j=Zr l k;(·exact absurd (by rw[hjp];exact(vR h).2) e);·omega)]);·rw[XQ,if_neg h,decide_eq_true (by omega)]
theorem BJ(l:PL)(f t:List UInt8)(hr:Ud l):Vl l f t=(l.take (max (Zr l f) (XQ l t))).drop (Zr l f):=by
 have h1:=yD l f;have h2:=yT l t;have e:Vl l f t=(l.filter fun q=>!YD t q.1).filter fun q=>!YD q.1 f:=by rw[Vl,List.filter_filter]
 rw[e,CG l _ (XQ l t) h2.2.1 (fun j hj=>by rw[Fm l t hr j (by omega),decide_eq_false (by omega)];rfl) (fun j hj hjl=>by rw[Fm l t hr j hjl,decide_eq_true hj];rfl)];have hd:∀(n:Nat),n<=l.length->(l.take n).filter (fun q=>!YD q.1 f)=(l.take n).drop (Zr l f):=by intro n hn;by_cases hc:Zr l f<=n;(·refine Cs _ _ _ (by simp;omega) (fun j hj=>?_) (fun j hj hjl=>?_);(·(have:(l.take n).getD j ([],[])=l.getD j ([],[]):=by simp[show j<n by omega]);rw[this,uG l f hr j (by omega),decide_eq_true hj];rfl);·(have hjn:j<n:=by simp at hjl;omega);(have:(l.take n).getD j ([],[])=l.getD j ([],[]):=by simp[hjn]);rw[this,uG l f hr j (by omega),decide_eq_false (by omega)];rfl);·rw[tW (by simp;omega),sK];intro q hq;obtain⟨j,hj,rfl⟩:=N.1 hq;(have hjn:j<n:=by simp at hj;omega);rw[sG,show l[j]'(by omega)=l.getD j ([],[])by simp[show j<l.length by omega],uG l f hr j (by omega),decide_eq_true (by omega)];simp
 rw[hd _ h2.2.1];by_cases hc:Zr l f<=XQ l t;·rw[Nat.max_eq_right hc]
 ·rw[Nat.max_eq_left (by omega),tW (by simp;omega),tW (by simp;omega)]
theorem NU:∀(t:FL)(p:Tn)(k:Nat),k<=t.length->(∀j,j<k->YD (t.getD j ([],[])).1 p.1=L)->(k<t.length->YD (t.getD k ([],[])).1 p.1=tA)->YK t p=if k<t.length∧(t.getD k ([],[])).1=p.1then t.set k p else t.take k++([p]++t.drop k)|[],p,k,hk,_,_=>by(obtain rfl:k=0:=by simpa using hk);simp[YK]|q::r,p,0,_,_,h2=>by have h:=h2 (by simp);simp only[tX]at h;rw[YK,if_neg (by rw[h];simp)];by_cases e:q.1=p.1;(·rw[if_pos e,if_pos ⟨by simp,by simpa using e⟩];simp);·rw[if_neg e,if_neg (fun h=>e (by simpa using h.2))];simp|q::r,p,k+1,hk,h1,h2=>by have h:=h1 0 (by omega);simp only[tX]at h;rw[YK,if_pos h,NU r p k (by simpa using hk) (fun j hj=>by simpa using h1 (j+1) (by omega)) (fun hk=>by simpa using h2 (by simpa using hk))];by_cases e:k<r.length∧(r.getD k ([],[])).1=p.1;(·rw[if_pos e,if_pos ⟨by simpa using e.1,by simpa using e.2⟩];simp);·rw[if_neg e,if_neg (fun h=>e ⟨by simpa using h.1,by simpa using h.2⟩)];simp
def QA(l:FL)(k:List UInt8):Nat:=(l.takeWhile fun p=>YD p.1 k).length
def J7(l:FL)(k:List UInt8):Bool:=tI (QA l k<l.length∧(l.getD (QA l k) ([],[])).1=k)
def QO(l:FL)(k:List UInt8):Nat:=if J7 l k=L then QA l k+1 else QA l k
theorem uW(l:FL)(k:List UInt8):QA l k<=l.length:=by
 induction l with|nil=>simp[QA]|cons p r ih=>unfold QA at ih⊢;rw[pV];cases h:YD p.1 k with|true=>simpa using ih|false=>simp
theorem Ds:∀(l:FL)(k:List UInt8)(i:Nat),i<=l.length->(∀j,j<i->YD (l.getD j ([],[])).1 k=L)->(i<l.length->YD (l.getD i ([],[])).1 k=tA)->QA l k=i|[],k,i,h,_,_=>by(obtain rfl:i=0:=by simpa using h);rfl|p::r,k,0,_,_,h2=>by have:=h2 (by simp);simp only[tX]at this;simp[QA,this]|p::r,k,i+1,h,h1,h2=>by have h0:=h1 0 (by omega);simp only[tX]at h0;have:=Ds r k i (by simpa using h) (fun j hj=>by simpa using h1 (j+1) (by omega)) (fun hi=>by simpa using h2 (by simpa using hi));unfold QA at this⊢;rw[tM (p:=fun p:Tn=>YD p.1 k) h0];simpa using this
theorem uU:∀(l:FL)(k:List UInt8)(j:Nat),j<QA l k->YD (l.getD j ([],[])).1 k=L|[],k,j,h=>by simp[QA]at h|p::r,k,j,h=>by cases hk:YD p.1 k with|false=>simp[QA,hk]at h|true=>cases j with|zero=>simpa using hk|succ j=>unfold QA at h;rw[tM (p:=fun p:Tn=>YD p.1 k) hk]at h;have:=uU r k j (by unfold QA;simpa using h);simpa using this
theorem PC:∀(l:FL)(k:List UInt8),QA l k<l.length->YD (l.getD (QA l k) ([],[])).1 k=tA|[],k,h=>by simp at h|p::r,k,h=>by cases hk:YD p.1 k with|false=>simp[QA,hk]|true=>(have e:QA (p::r) k=QA r k+1:=by unfold QA;rw[tM (p:=fun p:Tn=>YD p.1 k) hk];simp);rw[e]at h⊢;have:=PC r k (by simpa using h);simpa using this
theorem Wc(l:FL)(k:List UInt8)(hr:Xr l)(j:Nat)(hj:j<l.length):YD (l.getD j ([],[])).1 k=tI (j<QA l k):=by
 by_cases h:j<QA l k;·rw[decide_eq_true h];exact uU l k j h
 ·rw[decide_eq_false h];have h0:=PC l k (by omega);by_cases e:j=QA l k;(·rw[e];exact h0);·cases hk:YD (l.getD j ([],[])).1 k with|false=>rfl|true=>have:=Jg _ _ _ (qZ l hr (QA l k) j (by omega) hj) hk;rw[this]at h0;cases h0
theorem yZ{l:FL}{k:List UInt8}(h:J7 l k=L):QA l k<l.length∧(l.getD (QA l k) ([],[])).1=k:=by
 simpa only[J7,decide_eq_true_eq]using h
theorem Ps(l:FL)(k:List UInt8):QA l k<=QO l k∧QO l k<=l.length∧QO l k<=QA l k+1:=by
 have:=uW l k;unfold QO;by_cases h:J7 l k=L;·rw[if_pos h];have:=(yZ h).1;omega
 ·rw[if_neg h];omega
theorem P0(l:FL)(k:List UInt8)(hr:Xr l)(j:Nat)(hj:j<l.length)(he:(l.getD j ([],[])).1=k):J7 l k=L∧j=QA l k:=by
 have hp:QA l k=j:=by refine Ds l k j (by omega) (fun i hi=>?_) (fun _=>?_);(·rw[<-he];exact qZ l hr i j hi hj);·rw[he];exact XN k
 refine⟨?_,hp.symm⟩;rw[J7,hp];exact decide_eq_true ⟨hj,he⟩
theorem We(l:FL)(k:List UInt8)(hr:Xr l):Y0 l k=if J7 l k=L then F (l.getD (QA l k) ([],[])).2 else H:=by
 by_cases h:J7 l k=L;·rw[if_pos h];obtain⟨h1,h2⟩:=yZ h;refine CY l k _ h1 (fun j hj e=>?_) h2;have:=uU l k j hj;rw[e,XN]at this;cases this
 ·rw[if_neg h];exact kJ l k fun j hj e=>h (P0 l k hr j hj e).1
theorem RJ(l:FL)(p:Tn):YK l p=l.take (QA l p.1)++([p]++l.drop (QO l p.1)):=by
 rw[NU l p (QA l p.1) (uW l p.1) (fun j hj=>uU l p.1 j hj) (PC l p.1)];by_cases h:QA l p.1<l.length∧(l.getD (QA l p.1) ([],[])).1=p.1;·rw[if_pos h,QO,if_pos (by rw[J7];exact decide_eq_true h),rX,if_pos h.1];rfl
 ·rw[if_neg h,QO,if_neg (by rw[J7];simpa using h)]
theorem Sy(l:FL)(p:Tn):(YK l p).length=QA l p.1+1+(l.length-QO l p.1):=by
 rw[RJ];have h1:=uW l p.1;simp;omega
theorem TY(l:FL)(p:Tn)(hl:l.length<=8):(8<(YK l p).length)↔(QA l p.1=QO l p.1∧l.length=8):=by
 rw[Sy];have:=Ps l p.1;omega
theorem Ah(l:FL)(k:List UInt8)(hr:Xr l):GA l k=l.take (QA l k)++l.drop (QO l k):=by
 by_cases h:J7 l k=L;·obtain⟨h1,h2⟩:=yZ h;(have e:l=l.take (QA l k)++(l.getD (QA l k) ([],[])::l.drop (QA l k+1)):=by(conv=>lhs;rw[<-tE (QA l k) l,sF h1]);simp[h1]);have hne:∀j,j<l.length->j≠QA l k->(l.getD j ([],[])).1≠k:=fun j hj hn e=>hn (P0 l k hr j hj e).2;(have ha:(l.take (QA l k)).filter (fun q=>!(q.1==k))=l.take (QA l k):=by rw[tN];intro q hq;obtain⟨j,hj,rfl⟩:=N.1 hq;(have hjn:j<QA l k:=by simp at hj;omega);rw[sG,show l[j]'(by omega)=l.getD j ([],[])by simp[show j<l.length by omega]];simpa using hne j (by omega) (by omega));(have hb:(l.drop (QA l k+1)).filter (fun q=>!(q.1==k))=l.drop (QA l k+1):=by rw[tN];intro q hq;obtain⟨j,hj,rfl⟩:=N.1 hq;(have hjn:QA l k+1+j<l.length:=by simp at hj;omega);rw[sN,show l[QA l k+1+j]=l.getD (QA l k+1+j) ([],[])by simp[hjn]];simpa using hne _ hjn (by omega));rw[QO,if_pos h,GA];(conv=>lhs;rw[e]);rw[sJ,sS (by simpa using h2),ha,hb]
 ·rw[QO,if_neg h,tE,GA,tN];intro q hq;obtain⟨j,hj,rfl⟩:=N.1 hq;have:=fun e=>h (P0 l k hr j hj e).1;rw[show l.getD j ([],[])=l[j]by simp[hj]]at this;simpa using this
theorem fZ(l:FL)(k:List UInt8)(hr:Xr l):YE l k=if J7 l k=L then(l.getD (QA l k) ([],[])).2 else[]:=by
 unfold YE;rw[We l k hr];by_cases h:J7 l k=L;·rw[if_pos h,if_pos h];rfl
 ·rw[if_neg h,if_neg h];rfl
theorem DU(l:FL)(k:List UInt8)(hr:Xr l):((l.take (QO l k)).drop (QA l k)=[]∧YE l k=[]∧QO l k=QA l k)∨(∃t,(l.take (QO l k)).drop (QA l k)=[t]∧YE l k=t.2∧QO l k=QA l k+1):=by
 rw[fZ l k hr];by_cases h:J7 l k=L;·right;obtain⟨h1,h2⟩:=yZ h;refine⟨l.getD (QA l k) ([],[]),?_,by rw[if_pos h],by rw[QO,if_pos h]⟩;rw[QO,if_pos h,List.take_succ_eq_append_getElem h1,pB (by simp;omega),tW (by simp;omega),pC];simp[h1]
 ·left;refine⟨?_,by rw[if_neg h],by rw[QO,if_neg h]⟩;rw[QO,if_neg h,tW (by simp;omega)]
def cI:Prop:=∀(w:I)(a:Option pG)(n cap:Nat),rY tB 33 #[tH a n cap] w fun e w'=>e=sQ (tK rA (Qt n))∧J w w' H
def LN:Prop:=∀(w:I)(v:O)(r:Rq),KR w->Xp w v r->yO r->rY tB 44 #[v] w fun e w'=>e=sQ (tK rA (Yi r))∧J w w' H
end Go.Proofs.YtjnapechlkbfmaaGreatDoor
