/-
  Texts of this proof, joined, with few blanks: Base, LineF, SlM, PartM, Keys, PlaceM, Trees, TreeF, FitsF, ForestF, RdF, WrM0, TapeF, TapeG, KTree, KPure, ForestK, ForestE, WireF, WireG, LineG, RqMem, RqBox, RqEn, RdM0, ProofM, Sides, ForkF, Bits, Lanes, Cols, Move, Round, IdxF, EqB, ApplyOne, CheckC, CheckP, PosF, FPosF, FCName, RqCk.
-/
import Derived.WalkKit
import Derived.WalkSpells
import Derived.WalkLawsBesides
import Derived.BigRegion
import Derived.Deep.QuietTactic
import Derived.BigQuiet
import Derived.Deep.RegionHeld3
import Derived.Deep.DeepCutAuto
import Derived.Lib.Strings
import Derived.Test.YtieoehicoocpjaaGreatDoorChecked
set_option maxRecDepth 100000
set_option maxHeartbeats 8000000
open Array renaming getElem?_eq_some_iff->tL,getElem?_modify->tQ,ext->oI
open BitVec renaming ofInt->sB,ofInt_natCast->pL
open Bool renaming true->O,false->V,or_eq_false_iff->rO,and_eq_true->pX,or_eq_true->oC
open Classical renaming byContradiction->sN
open Decidable renaming decide->tI
open Go renaming World->I,Value->N,TypeId->sW,heap_alloc_new->rJ,Calls->rW,Addr->pD,maxLen->oK,info_parts->oL
open Go.Ending renaming returned->sP
open Go.IntKind renaming i64->sY,u64->rD,u8->rG,wrap_u64->rU
open Go.Obj renaming cells->tJ
open Go.Op renaming bytesLess->sH
open Go.Proofs.Tryz renaming prog->tA,underlying27->sL,ntmps50->pE,func50->pP
open Go.Value renaming slice->tH,int->tK,agg->pN,bool->pO,tuple->pV,ownBlock->pZ
open Go.Value.slice renaming injEq->rB
open Go.World renaming grownBy->J,setCell->tG,cell?->tZ,frozen?->sV,grownBy_alloc->rP
open Int renaming toNat_natCast->rI,le_refl->oJ
open List renaming mem_iff_getElem->L,length_append->T,append_assoc->tB,eq_nil_of_length_eq_zero->tD,take_append_drop->tE,takeWhile_cons_of_pos->tM,filter_eq_self->tN,mem_cons->tS,append_nil->tV,drop_eq_nil_of_le->tW,getD_cons_zero->tX,mem_cons_of_mem->tY,drop_eq_getElem_cons->sD,getElem_take->sE,getElem_mem->sF,take_succ_cons->sG,filter_append->sI,filter_eq_nil_iff->sJ,getElem_drop->sM,pairwise_singleton->sQ,getElem?_map->sS,length_filter_le->sX,pairwise_cons->rF,flatMap_cons->rH,getElem?_eq_getElem->rK,take_left'->rM,drop_left'->rN,any_cons->rS,mem_cons_self->rT,set_eq_take_append_cons_drop->rV,length_cons->rX,mem_filter->rY,take_append_of_le_length->r7,drop_append_of_le_length->r8,nil_append->pA,getElem?_eq_some_iff->pB,pairwise_iff_getElem->pC,filter_cons_of_neg->pF,take_of_length_le->pG,find?_cons_of_pos->pI,find?_cons_of_neg->pJ,drop_succ_cons->pR,takeWhile_cons->pT,getElem?_take->pU,length_drop->pY,map_cons->oE,take_nil->oF
open List.Pairwise renaming cons->tU,filter->sR,nil->sZ
open Nat renaming lt_of_lt_of_le->tR,le_refl->sA,testBit_lt_two_pow->sU,pow_le_pow_right->rA,le_trans->rC,testBit_div_two_pow->pH,div_div_eq_div_mul->pM,eq_of_testBit_eq->pQ,min_eq_left->oD,sub_self->oG,mul_one->oH
open Option renaming some->F,none->H,map_some->sO
open Option.some renaming injEq->tP,inj->pK
open Prod.mk renaming injEq->sC
open UInt8 renaming ofNat->tC,lt_iff_toNat_lt->sK,toNat_ofNat'->pS,toNat_inj->pW
namespace Go.Proofs.YtieoehicoocpjaaGreatDoor
open Go.RowKit
section
theorem Qb(w:I)(r:Option Nat):J w w r:=⟨rfl,rfl,rfl,sA _,fun _ _ _=>rfl⟩
theorem Qa{w w1 w2:I}{r:Option Nat}(h:J w w1 r)(k:J w1 w2 r):J w w2 r:=⟨k.os.trans h.os,k.tape.trans h.tape,k.output.trans h.output,rC h.size k.size,fun i hi hn=>(k.block i (tR hi h.size) hn).trans (h.block i hi hn)⟩
theorem Qk{w w1:I}{r:Option Nat}(h:J w w1 r):J w w1.drew r:=⟨h.os,h.tape,h.output,h.size,h.block⟩
theorem Qr{w w1:I}{r:Option Nat}(h:J w w1 r)(n:Nat):J w (w1.drewN n) r:=⟨h.os,h.tape,h.output,h.size,h.block⟩
theorem Qg{w w1:I}{b:Nat}(h:J w w1 (F b))(i:Nat)(v:N):J w (tG w1 ⟨b,i,H⟩ v) (F b):=Qa h ⟨rfl,rfl,rfl,by
 simp[tG],fun k _ hn=>Below.heap_setCell _ _ _ _ (by
 intro e;exact hn (by rw[e]))⟩
theorem QC{w w1:I}{r:Option Nat}(h:J w w1 r)(o:Obj):J w (w1.alloc o) r:=Qa h (rP _ _ _)
theorem Jx{w w1 w2:I}{r:Option Nat}{c:Nat}(h:J w w1 r)(hc:w.heap.size<=c)(k:J w1 w2 (F c)):J w w2 r:=⟨k.os.trans h.os,k.tape.trans h.tape,k.output.trans h.output,rC h.size k.size,fun i hi hn=>(k.block i (tR hi h.size) (by
 simp;omega)).trans (h.block i hi hn)⟩
theorem Qd{w w1:I}{r:Option Nat}(h:J w w1 r)(c:Nat)(hc:w.heap.size<=c)(i:Nat)(v:N):J w (tG w1 ⟨c,i,H⟩ v) r:=Jx h hc (Qg (Qb _ _) i v)
theorem Z7(b o n:Nat):(⟨b,o,H⟩:pD).add n=⟨b,o+n,H⟩:=by
 unfold Addr.add;split;·simp_all
 ·rfl
theorem OW(w:I):(sizeOf (tA.elem 27)).run tA w=.ok 1 w:=by
 kernel_rfl
theorem aI(W:I)(pb o len cap:Nat)(l:Int)(n:Nat)(hn:l=(n:Int))(h1:n<=len)(hc:n<cap):(Instr.slice 27 (tH (F ⟨pb,o,H⟩) len cap) (F (tK sY l)) H H).run tA W=.ok (tH (F ⟨pb,o+n,H⟩) (len-n) (cap-n)) W:=by
 subst hn;rw[run_slice_l _ _ _ _ _ (by kernel_rfl) _ _ (by omega) (by omega),OW];simp only[Result.andThen,sliced,rI,sO,oH,Z7];rw[if_neg (by omega)]
theorem A9(W:I)(pb o len cap:Nat)(l:Int)(n:Nat)(hn:l=(n:Int))(hc:n<=cap)(h0:0<cap):(Instr.slice 27 (tH (F ⟨pb,o,H⟩) len cap) H (F (tK sY l)) H).run tA W=.ok (tH (F ⟨pb,o,H⟩) n cap) W:=by
 subst hn;rw[run_slice_h _ _ _ _ _ (by kernel_rfl) _ _ (by omega) (by omega),OW];simp only[Result.andThen,sliced,rI,sO,oH,Z7];rw[if_neg (by omega)];simp
def KJ(w:I)(pb o:Nat)(bs:List UInt8):Prop:=∀i,i<bs.length->w.cell? ⟨pb,o+i,H⟩=F (tK rG ((bs.getD i 0).toNat:Int))
theorem KJ.drew{w:I}{pb o:Nat}{bs:List UInt8}(h:KJ w pb o bs):KJ w.drew pb o bs:=h
theorem KJ.grown{w w':I}{pb o:Nat}{bs:List UInt8}{r:Option Nat}(h:KJ w pb o bs)(hg:J w w' r)(hr:F pb≠r):KJ w' pb o bs:=fun i hi=>hg.cell (h i hi) hr
def ZU(bs:List UInt8):Array N:=(bs.map fun c=>tK rG (c.toNat:Int)).toArray
def ZJ(w:I)(b:Nat)(bs:List UInt8):Prop:=∃t,w.heap[b]?=F (tJ (ZU bs) t (0,0))
section
variable{w:I}{b:Nat}{bs:List UInt8}
theorem ZJ.cell(h:ZJ w b bs)(i:Nat)(hi:i<bs.length):w.cell? ⟨b,i,H⟩=F (tK rG ((bs.getD i 0).toNat:Int)):=by
 obtain⟨t,hb⟩:=h;simp[tZ,hb,ZU,sS,rK hi]
theorem ZJ.frozen(h:ZJ w b bs)(i:Nat):w.frozen? ⟨b,i,H⟩=V:=by
 obtain⟨t,hb⟩:=h;simp[sV,hb]
theorem ZJ.lt(h:ZJ w b bs):b<w.heap.size:=by
 obtain⟨t,hb⟩:=h;exact(tL.1 hb).1
theorem Ct(bs:List UInt8)(i:Nat)(x:UInt8):(ZU bs).setIfInBounds i (tK rG (x.toNat:Int))=ZU (bs.set i x):=by
 simp[ZU]
theorem ZJ.set(h:ZJ w b bs)(i:Nat)(x:UInt8):ZJ (tG w ⟨b,i,H⟩ (tK rG (x.toNat:Int))) b (bs.set i x):=by
 obtain⟨t,hb⟩:=h;refine⟨t,?_⟩;simp only[tG,tQ,if_true,hb,sO];simp[Ct]
theorem ZJ.drewN(h:ZJ w b bs)(k:Nat):ZJ (w.drewN k) b bs:=h
theorem ZJ.drew(h:ZJ w b bs):ZJ w.drew b bs:=h
theorem ZJ.alloc(h:ZJ w b bs)(o:Obj):ZJ (w.alloc o) b bs:=by
 have hl:=h.lt;obtain⟨t,hb⟩:=h;exact⟨t,by rw[Below.heap_alloc _ _ _ hl];exact hb⟩
theorem ZJ.grown(h:ZJ w b bs){w':I}{r:Option Nat}(hg:J w w' r)(hr:F b≠r):ZJ w' b bs:=by
 have hl:=h.lt;obtain⟨t,hb⟩:=h;exact⟨t,by rw[hg.block b hl hr];exact hb⟩
theorem ZJ.new(w:I)(t:sW)(bs:List UInt8):ZJ (w.alloc (tJ (ZU bs) t)) w.heap.size bs:=⟨t,rJ w _⟩
theorem ZJ.at(h:ZJ w b bs)(o:Nat)(cs:List UInt8)(hc:∀i,i<cs.length->o+i<bs.length∧bs.getD (o+i) 0=cs.getD i 0):KJ w b o cs:=by
 intro i hi;rw[h.cell (o+i) (hc i hi).1,(hc i hi).2]
end
def Qe(w:I)(v:N)(bs:List UInt8):Prop:=∃a cap,v=tH a bs.length cap∧bs.length<=cap∧((bs=[]∧(a=H->cap=0))∨∃b o,a=F ⟨b,o,H⟩∧KJ w b o bs)
theorem Qe.grown{w w':I}{v:N}{bs:List UInt8}(h:Qe w v bs)(hg:J w w' H):Qe w' v bs:=by
 obtain⟨a,cap,rfl,hc,h⟩:=h;refine⟨a,cap,rfl,hc,?_⟩;rcases h with h|⟨b,o,rfl,h⟩;·exact .inl h
 ·exact .inr ⟨b,o,rfl,h.grown hg (by simp)⟩
theorem Qe.alloc{w:I}{v:N}{bs:List UInt8}(h:Qe w v bs)(o:Obj):Qe (w.alloc o) v bs:=h.grown (rP _ _ _)
theorem Qe.drew{w:I}{v:N}{bs:List UInt8}(h:Qe w v bs):Qe w.drew v bs:=h
theorem Qe.drewN{w:I}{v:N}{bs:List UInt8}(h:Qe w v bs)(n:Nat):Qe (w.drewN n) v bs:=h
theorem ZJ.slice{w:I}{b:Nat}{bs:List UInt8}(h:ZJ w b bs)(cap:Nat)(hc:bs.length<=cap):Qe w (tH (F ⟨b,0,H⟩) bs.length cap) bs:=⟨_,cap,rfl,hc,.inr ⟨b,0,rfl,h.at 0 bs fun i hi=>by
 simpa using hi⟩⟩
theorem QH(w:I):Qe w (tH H 0 0) []:=⟨H,0,rfl,sA _,.inl ⟨rfl,fun _=>rfl⟩⟩
def Uf(n:Nat):List UInt8:=List.replicate n 0
theorem Ex(n:Nat):(Uf n).length=n:=by
 simp[Uf]
theorem An(n:Nat):madeCells (tK rG 0).cells (n*1)=ZU (Uf n):=by
 apply oI;·simp[size_madeCells,ZU,Uf]
 ·intro i h1 h2;simp[madeCells,ZU,Uf,Value.cells,Nat.mod_one]
theorem dY:(tA.info? 5).map (fun i=>(i.zero,i.size,i.bytes))=F (F (tK rG 0),1,1):=by
 kernel_rfl
theorem dU:(tA.info? 5).map (·.size)=F 1:=by
 kernel_rfl
theorem Ae(W:I)(c:Int)(n:Nat)(hc:c=(n:Int))(hn:n<=1000000):(Instr.makeSlice 27 (tK sY c) (tK sY c)).run tA W=.ok (tH (F ⟨W.heap.size,0,H⟩) n n) (W.alloc (tJ (ZU (Uf n)) 5)):=by
 subst hc;obtain⟨i0,hi,hz0,hz1,hz2⟩:=oL dY;have h:=run_make (P:=tA) W 27 5 i0 (tK rG 0) sL hi hz0 sY sY (n:Int) (n:Int) (by omega) (oJ _) (by rw[hz2];omega) (by omega);rw[h,hz1,rI,An]
theorem jA(bs:List UInt8):∀v∈(bs.map fun c=>tK rG (c.toNat:Int)),v.oneCell'=O:=by
 intro v hv;obtain⟨c,_,rfl⟩:=List.mem_map.1 hv;rfl
theorem Nk(w:I)(X Y:Array N)(t:sW):(w.alloc (tJ X t)).setRow w.heap.size Y=w.alloc (tJ Y t):=by
 simp only[World.setRow,World.alloc];congr 1;apply oI;·simp
 ·intro i h1 h2;simp only[Array.getElem_modify,Array.getElem_push];(have hi:i<w.heap.size+1:=by simpa using h2);split<;>split<;>first|rfl|omega|(exfalso;omega)|simp_all
theorem AO(w:I)(a:Option pD)(bs:List UInt8)(cap n m ty:Nat)(hn:bs.length<=n)(hs:Qe w (tH a bs.length cap) bs):(Builtin.copy_ #[27,27] ty #[tH (F ⟨w.heap.size,0,H⟩) n m,tH a bs.length cap]).run tA (w.alloc (tJ (ZU (Uf n)) 5))=.ok (tK sY (bs.length:Int)) (w.alloc (tJ (ZU (bs++Uf (n-bs.length))) 5)):=by
 obtain⟨a',cap',e,hc,h⟩:=hs.alloc (tJ (ZU (Uf n)) 5);simp only[rB,true_and]at e;obtain⟨rfl,rfl⟩:=e;by_cases h0:bs=[];·subst h0;have:=run_copy_none (P:=tA) (w.alloc (tJ (ZU (Uf n)) 5)) 27 27 ty 5 (F ⟨w.heap.size,0,H⟩) a n m 0 cap sL dU (by simp);simpa[goInt]using this
 ·rcases h with h|⟨b,o,rfl,h⟩;(·exact absurd h.1 h0);·have:=run_copy_row (P:=tA) (w.alloc (tJ (ZU (Uf n)) 5)) 27 27 ty 5 w.heap.size 0 n m ⟨b,o,H⟩ bs.length cap (ZU (Uf n)) 5 (bs.map fun c=>tK rG (c.toNat:Int)) sL dU (rJ w _) (by simp only[List.length_map];exact(oD hn).symm) (by intro j v hj;rw[sS]at hj;cases hb:bs[j]?with|none=>rw[hb]at hj;simp at hj|some c=>rw[hb]at hj;simp at hj;subst hj;rw[Z7];have hlt:j<bs.length:=(pB.1 hb).1;rw[h j hlt];simp[hb]) (by simp[ZU,Uf];exact hn) (jA bs);rw[this,Nk];simp[goInt,ZU,Uf]
def Vx(bs:List UInt8):List N:=bs.map fun c=>tK rG (c.toNat:Int)
theorem Ov(bs:List UInt8):(Vx bs).length=bs.length:=by
 simp[Vx]
theorem MC(a b:List UInt8):Vx (a++b)=Vx a++Vx b:=by
 simp[Vx]
theorem Ck(bs:List UInt8)(j:Nat)(u:N)(h:(Vx bs)[j]?=F u):j<bs.length∧u=tK rG ((bs.getD j 0).toNat:Int):=by
 rw[Vx,sS]at h;cases hb:bs[j]?with|none=>rw[hb]at h;simp at h|some c=>rw[hb]at h;simp at h;exact⟨(pB.1 hb).1,by simp[hb,<-h]⟩
def Za(base:Nat)(w:I)(v:N)(bs:List UInt8):Prop:=w.ownsRow base 5 1 v bs.length (Vx bs)
theorem QU(base:Nat)(w:I):Za base w (tH H 0 0) []:=World.ownsRow_nil _ _ _ _
theorem Za.grown{base:Nat}{w w':I}{v:N}{bs:List UInt8}(h:Za base w v bs){row:Option Nat}(hg:J w w' row)(hne:v.ownBlock=H∨v.ownBlock≠row):Za base w' v bs:=World.ownsRow.kept h hg hne
theorem Za.grownNone{base:Nat}{w w':I}{v:N}{bs:List UInt8}(h:Za base w v bs)(hg:J w w' H):Za base w' v bs:=by
 refine h.grown hg ?_;cases hv:v.ownBlock with|none=>exact .inl rfl|some k=>exact .inr (by simp)
theorem Za.alloc{base:Nat}{w:I}{v:N}{bs:List UInt8}(h:Za base w v bs)(o:Obj):Za base (w.alloc o) v bs:=World.ownsRow.alloc h o
theorem Za.slice{base:Nat}{w:I}{v:N}{bs:List UInt8}(h:Za base w v bs):Qe w v bs:=by
 obtain⟨h1,h2⟩:=h;rcases h2 with⟨rfl,h0⟩|⟨g,cap,cur,rfl,hb,hg,hn,hm,hs,ht⟩;·obtain rfl:=tD h0;exact QH w
 ·refine⟨_,cap,rfl,hn,.inr ⟨g,0,rfl,?_⟩⟩;intro i hi;(have hc:cur.toList[i]?=F (tK rG ((bs.getD i 0).toNat:Int)):=by(have e:(cur.toList.take (bs.length*1))[i]?=(Vx bs)[i]?:=by rw[ht]);rw[pU,if_pos (by omega)]at e;rw[e,Vx,sS,rK hi];simp[hi]);simp[tZ,hg];simpa using hc
theorem Za.lt{base:Nat}{w:I}{v:N}{bs:List UInt8}(h:Za base w v bs):∀k,v.ownBlock=F k->base<=k∧k<w.heap.size:=World.ownsRow.lt h
theorem Za.shape{base:Nat}{w:I}{v:N}{bs:List UInt8}(h:Za base w v bs):∃a cap,v=tH a bs.length cap:=by
 obtain⟨a,cap,e,_⟩:=h.slice;exact⟨a,cap,e⟩
theorem Fw(base:Nat)(w:I)(bs:List UInt8)(hb:base<=w.heap.size)(hm:bs.length<=oK):Za base (w.alloc (tJ (ZU bs) 5)) (tH (F ⟨w.heap.size,0,H⟩) bs.length bs.length) bs:=⟨by
 simp[Vx],.inr ⟨w.heap.size,bs.length,ZU bs,rfl,hb,rJ w _,sA _,hm,by
 simp[ZU],by
 simp[ZU,Vx,pG]⟩⟩
theorem Xk{w W w1:I}{v:N}{bs:List UInt8}(h:J w W H)(ho:Za w.heap.size W v bs)(hg:J W w1 v.ownBlock):J w w1 H:=⟨hg.os.trans h.os,hg.tape.trans h.tape,hg.output.trans h.output,rC h.size hg.size,fun i hi hn=>(hg.block i (tR hi h.size) (fun e=>by
 have:=(ho.lt i e.symm).1;omega)).trans (h.block i hi hn)⟩
theorem Ns(w:I)(base ty:Nat)(v:N)(bs:List UInt8)(hown:Za base w v bs)(a:Option pD)(m cap:Nat)(cs:List UInt8)(hs:Qe w (tH a m cap) cs)(hbytes:bs.length+m<=140737488355328)(hbase:base<=w.heap.size):∃v' w',(Builtin.append_ #[27,27] ty #[v,tH a m cap]).run tA w=.ok v' w'∧Za base w' v' (bs++cs)∧J w w' v.ownBlock:=by
 obtain⟨i0,hi,hz0,hz1,hz2⟩:=oL dY;obtain⟨a',cap',e,hc,h⟩:=hs;simp only[rB]at e;obtain⟨rfl,rfl,rfl⟩:=e;have h63:bs.length+cs.length<=oK:=by unfold oK;omega
 have key:∀ad:pD,(∀j u,(Vx cs)[j]?=F u->w.cell? (ad.add j)=F u)->∃v' w',(Builtin.append_ #[27,27] ty #[v,tH (F ad) cs.length cap]).run tA w=.ok v' w'∧Za base w' v' (bs++cs)∧J w w' v.ownBlock:=by intro ad hnews;obtain⟨v',w',hr,ho,hg,_⟩:=run_append_own (P:=tA) w base 27 ty 5 i0 (tK rG 0) 1 1 sL hi hz0 hz1 hz2 rfl (by decide) v bs.length (Vx bs) hown ad cs.length cap (Vx cs) (by simp[Vx]) hnews (jA cs) h63 (by omega) hbase;refine⟨v',w',hr,?_,hg⟩;unfold Za;rw[MC,T];exact ho
 rcases h with⟨rfl,hz⟩|⟨b,o,rfl,h⟩;·cases a with|none=>obtain rfl:=hz rfl;refine⟨v,w,run_append_owned_none (P:=tA) (w:=w) base 27 ty 5 i0 1 sL hi v bs.length (Vx bs) hown,?_,Qb _ _⟩;rw[tV];exact hown|some ad=>exact key ad (by simp[Vx])
 ·refine key ⟨b,o,H⟩ fun j u hj=>?_;obtain⟨hlt,rfl⟩:=Ck cs j u hj;rw[Z7];exact h j hlt
theorem QJ{w:I}{ops:Array Oper}{rest:List Oper}{o:Oper}{a:Act}{Q:Exit->Act->I->Prop}(hgd:o.guard=H)(s x:Operand)(ho:o.op=.call {callee:=.builtin .append,args:=#[s,x],argTypes:=#[27,27]})(base:Nat)(v:N)(bs:List UInt8)(hs:a.eval s=v)(hown:Za base w v bs)(xa:Option pD)(m cap:Nat)(cs:List UInt8)(hx:a.eval x=tH xa m cap)(hsl:Qe w (tH xa m cap) cs)(hbytes:bs.length+m<=140737488355328)(hbase:base<=w.heap.size)(h:∀v' w',Za base w' v' (bs++cs)->J w w' v.ownBlock->wpList tA ops Q rest (a.put o.dst v') w'):wpList tA ops Q (o::rest) a w:=by
 refine wpList_plain hgd fun K hK=>?_;obtain⟨v',w',hrun,ho',hg⟩:=Ns w base o.type v bs hown xa m cap cs hsl hbytes hbase;unfold Oper.wp;simp[execOp,ho,resolve,invoke,builtin,hs,hx,hrun,Result.andThen];exact hK _ _ (h v' w' ho' hg)
theorem Qe.take{w:I}{a:Option pD}{m cap:Nat}{bs:List UInt8}(h:Qe w (tH a m cap) bs)(k:Nat)(hk:k<=m):Qe w (tH a k cap) (bs.take k):=by
 obtain⟨a',cap',e,hc,h⟩:=h;simp only[rB]at e;obtain⟨rfl,rfl,rfl⟩:=e;have hl:(bs.take k).length=k:=by simp;omega
 refine⟨a,cap,by rw[hl],by omega,?_⟩;rcases h with⟨rfl,hz⟩|⟨b,o,rfl,h⟩;·exact .inl ⟨by simp,hz⟩
 ·refine .inr ⟨b,o,rfl,fun i hi=>?_⟩;rw[h i (by omega)];rw[hl]at hi;simp[hi]
theorem LU(bs:List UInt8)(s:ByteArray):((bs.map fun c=>((c.toNat:Nat):Int)).foldl (fun r n=>r.push (tC n.toNat)) s)=⟨s.data++bs.toArray⟩:=by
 induction bs generalizing s with|nil=>simp|cons c bs ih=>simp only[oE,List.foldl_cons];rw[ih];congr 1;simp[ByteArray.push]
def jU(bs:List UInt8):ByteArray:=⟨bs.toArray⟩
theorem Pt(bs:List UInt8):(jU bs).toList=bs:=by
 rw[Lib.toList_data];rfl
theorem FY(W:I)(v:N)(bs:List UInt8)(hs:Qe W v bs):(convert 27 9 v).run tA W=.ok (.string (jU bs)) W:=by
 obtain⟨a,cap,rfl,hc,h⟩:=hs;rw[run_convert_bytes_string W 27 9 5 a bs.length cap sL Tryz.underlying5 Tryz.underlying9];have key:∀ad:pD,(∀j u,(Vx bs)[j]?=F u->W.cell? (ad.add j)=F u)->(Conv.bytesToString (tH (F ad) bs.length cap)).run tA W=.ok (.string (jU bs)) W:=by intro ad hcells;have hl:=run_loadCells_list (P:=tA) W ad (Vx bs) hcells;rw[Ov]at hl;have:=run_bytesToString (P:=tA) W ad bs.length cap (bs.map fun c=>((c.toNat:Nat):Int)) (by rw[hl];simp[Vx]);rw[this,LU];simp[jU]
 rcases h with⟨rfl,hz⟩|⟨b,o,rfl,h⟩;·cases a with|none=>simp[Conv.bytesToString,jU];rfl|some ad=>exact key ad (by simp[Vx])
 ·refine key ⟨b,o,H⟩ fun j u hj=>?_;obtain⟨hlt,rfl⟩:=Ck bs j u hj;rw[Z7];exact h j hlt
theorem ZJ.slice32{w:I}{b:Nat}{bs:List UInt8}(h:ZJ w b bs)(hl:bs.length=32):Qe w (tH (F ⟨b,0,H⟩) 32 32) bs:=by
 have:=h.slice 32 (by omega);rw[hl]at this;exact this
theorem UG(w:I)(x:UInt8)(t:sW):Qe (w.alloc (tJ #[tK rG (x.toNat:Int)] t)) (tH (F ⟨w.heap.size,0,H⟩) 1 1) [x]:=(ZJ.new w t [x]).slice 1 (by
 simp)
theorem EM(w:I)(x y:UInt8)(t:sW):Qe (w.alloc (tJ #[tK rG (x.toNat:Int),tK rG (y.toNat:Int)] t)) (tH (F ⟨w.heap.size,0,H⟩) 2 2) [x,y]:=(ZJ.new w t [x,y]).slice 2 (by
 simp)
theorem Kr{base base':Nat}{w:I}{v:N}{bs:List UInt8}(h:Za base w v bs)(hb:base'<=base):Za base' w v bs:=by
 refine⟨h.1,?_⟩;rcases h.2with h2|⟨g,cap,cur,h1,h2,h3⟩;·exact .inl h2
 ·exact .inr ⟨g,cap,cur,h1,rC hb h2,h3⟩
end
structure Ac where
  kind : Int
  sess : Int
  keep : Int
  data : List UInt8
def UH:Ac:=⟨0,0,0,[]⟩
def YZ(a:Ac):Int:=if 1<=a.kind∧a.kind<=4then(if(a.kind=1∧¬(0<=a.sess∧a.sess<=7))∨(a.kind=3∧¬(0<=a.keep∧a.keep<=200000))then 2 else if 4000<a.data.length then 1 else if(a.kind≠1∧a.sess≠0)∨(a.kind≠3∧a.keep≠0)∨(a.kind≠1∧0<a.data.length)then 4 else 0)else 5
structure YP(a:Ac):Prop where kind:1<=a.kind∧a.kind<=4sess:a.kind=1->0<=a.sess∧a.sess<=7keep:a.kind=3->0<=a.keep∧a.keep<=200000data:a.data.length<=4000noSess:a.kind≠1->a.sess=0noKeep:a.kind≠3->a.keep=0noData:a.kind≠1->a.data=[]
theorem kJ(a:Ac):YZ a=0↔YP a:=by
 unfold YZ;by_cases h0:1<=a.kind∧a.kind<=4;·rw[if_pos h0];by_cases h1:(a.kind=1∧¬(0<=a.sess∧a.sess<=7))∨(a.kind=3∧¬(0<=a.keep∧a.keep<=200000));(·rw[if_pos h1];refine⟨fun e=>(by cases e),fun h=>?_⟩;rcases h1 with⟨h1,h2⟩|⟨h1,h2⟩;(·exact absurd (h.sess h1) h2);·exact absurd (h.keep h1) h2);·rw[if_neg h1];by_cases h2:4000<a.data.length;(·rw[if_pos h2];exact⟨fun e=>(by cases e),fun h=>by have:=h.data;omega⟩);·rw[if_neg h2];by_cases h3:(a.kind≠1∧a.sess≠0)∨(a.kind≠3∧a.keep≠0)∨(a.kind≠1∧0<a.data.length);(·rw[if_pos h3];refine⟨fun e=>(by cases e),fun h=>?_⟩;rcases h3 with⟨h3,h4⟩|⟨h3,h4⟩|⟨h3,h4⟩;(·exact absurd (h.noSess h3) h4);(·exact absurd (h.noKeep h3) h4);·rw[h.noData h3]at h4;simp at h4);·rw[if_neg h3];refine⟨fun _=>⟨h0,fun h=>?_,fun h=>?_,by omega,fun h=>?_,fun h=>?_,fun h=>?_⟩,fun _=>rfl⟩;(·exact sN fun e=>h1 (.inl ⟨h,e⟩));(·exact sN fun e=>h1 (.inr ⟨h,e⟩));(·exact sN fun e=>h3 (.inl ⟨h,e⟩));(·exact sN fun e=>h3 (.inr (.inl ⟨h,e⟩)));·refine tD ?_;have:¬0<a.data.length:=fun e=>h3 (.inr (.inr ⟨h,e⟩));omega
 ·rw[if_neg h0];exact⟨fun e=>(by cases e),fun h=>absurd h.kind h0⟩
def gM(n:Nat):UInt8:=tC (48+n)
def eU(n:Nat):List UInt8:=if n<10then[gM n]else eU (n/10)++[gM (n%10)]termination_by n decreasing_by
 omega
def gI(n:Nat):UInt8:=if n<10then tC (48+n)else tC (87+n)
def gY(bs:List UInt8):List UInt8:=bs.flatMap fun c=>[gI (c.toNat/16),gI (c.toNat%16)]
def gZ:List UInt8:=[97,115,107]
def fZ:List UInt8:=[115,121,110,99]
def fG:List UInt8:=[99,114,97,115,104]
def eJ:List UInt8:=[115,116,97,114,116]
def gS(a:Ac):List UInt8:=if a.kind=1then gZ++32::(eU a.sess.toNat++32::gY a.data)else if a.kind=2then fZ else if a.kind=3then fG++32::eU a.keep.toNat else if a.kind=4then eJ else[]
theorem Zv(w:I)(o:Obj):∃W:I,Hid (W=w.alloc o)∧J w W H∧Hid (W.heap[w.heap.size]?=F o):=⟨w.alloc o,rfl,rP _ _ _,rJ w o⟩
theorem Qe.shape{w:I}{v:N}{bs:List UInt8}(h:Qe w v bs):∃a cap,v=tH a bs.length cap:=by
 obtain⟨a,cap,rfl,_⟩:=h;exact⟨a,cap,rfl⟩
theorem QR{W w:I}{b:Nat}{x y:N}{t:sW}(hg:J W w H)(h:W.heap[b]?=F (tJ #[x,y] t)):w.cell? ⟨b,0,H⟩=F x∧w.cell? ⟨b,1,H⟩=F y∧w.frozen? ⟨b,0,H⟩=V∧w.frozen? ⟨b,1,H⟩=V:=by
 have hb:w.heap[b]?=F (tJ #[x,y] t):=by rw[hg.block b (tL.1 h).1 (by simp)];exact h
 refine⟨by simp[tZ,hb],by simp[tZ,hb],by simp[sV,hb],by simp[sV,hb]⟩
theorem zG{W w:I}{b:Nat}{x y:N}{t:sW}(hg:J W w H)(h:W.heap[b]?=F (tJ #[x,y] t)){G:Prop}(k:w.heap[b]?=F (tJ #[x,y] t)->w.cell? ⟨b,0,H⟩=F x->w.cell? ⟨b,1,H⟩=F y->w.frozen? ⟨b,0,H⟩=V->w.frozen? ⟨b,1,H⟩=V->G):G:=by
 obtain⟨h1,h2,h3,h4⟩:=QR hg h;exact k (by rw[hg.block b (tL.1 h).1 (by simp)];exact h) h1 h2 h3 h4
theorem Qc{W w:I}{b:Nat}{o:Obj}(hg:J W w H)(h:W.heap[b]?=F o):w.heap[b]?=F o:=by
 rw[hg.block b (tL.1 h).1 (by simp)];exact h
def Qi(base:Nat)(w:I)(v:N)(bs:List UInt8):Prop:=Qe w v bs∧(bs=[]∨∃b,v.ownBlock=F b∧b<w.heap.size∧(b<base∨∃cur fz,w.heap[b]?=F (tJ cur 5 fz)))
theorem Qi.slice{base:Nat}{w:I}{v:N}{bs:List UInt8}(h:Qi base w v bs):Qe w v bs:=h.1
theorem Za.part{base base':Nat}{w:I}{v:N}{bs:List UInt8}(h:Za base' w v bs):Qi base w v bs:=by
 refine⟨h.slice,?_⟩;rcases h.2with⟨rfl,h0⟩|⟨g,cap,cur,rfl,hb,hg,_⟩;·exact .inl (tD h0)
 ·exact .inr ⟨g,rfl,(tL.1 hg).1,.inr ⟨cur,_,hg⟩⟩
theorem Vt{w:I}{b o:Nat}{v:N}(h:w.cell? ⟨b,o,H⟩=F v):b<w.heap.size:=by
 by_cases hb:b<w.heap.size;·exact hb
 ·simp[tZ,Array.getElem?_eq_none (Nat.le_of_not_lt hb)]at h
theorem Qe.part{w w':I}{v:N}{bs:List UInt8}(h:Qe w v bs)(hg:J w w' H)(base:Nat)(hb:w.heap.size<=base):Qi base w' v bs:=by
 refine⟨h.grown hg,?_⟩;obtain⟨a,cap,rfl,hc,h⟩:=h;rcases h with⟨rfl,_⟩|⟨b,o,rfl,h⟩;·exact .inl rfl
 ·by_cases h0:bs=[];(·exact .inl h0);·have hl:0<bs.length:=List.length_pos_iff.2 h0;have:=Vt (h 0 hl);exact .inr ⟨b,rfl,tR this hg.size,.inl (by omega)⟩
theorem Qi.mono{base base':Nat}{w:I}{v:N}{bs:List UInt8}(h:Qi base w v bs)(hb:base<=base'):Qi base' w v bs:=by
 refine⟨h.1,?_⟩;rcases h.2with h|⟨b,h1,h2,h3⟩;·exact .inl h
 ·refine .inr ⟨b,h1,h2,?_⟩;rcases h3 with h3|h3;(·exact .inl (by omega));·exact .inr h3
theorem ZH{base:Nat}{w:I}{v:N}{bs:List UInt8}(h:Qi base w v bs):v.oneCell'=O:=by
 obtain⟨⟨a,cap,rfl,_⟩,_⟩:=h;rfl
theorem Qi.keptT{base:Nat}{w w':I}{v:N}{bs:List UInt8}(h:Qi base w v bs){row:Option Nat}(hg:J w w' row)(hrow:row=H∨∃g cur t fz,row=F g∧base<=g∧w.heap[g]?=F (tJ cur t fz)∧t≠5):Qi base w' v bs:=by
 obtain⟨hs,ho⟩:=h;rcases ho with rfl|⟨b,hb,hlt,hc⟩;·obtain⟨a,cap,rfl,hc,h⟩:=hs;refine⟨⟨a,cap,rfl,hc,?_⟩,.inl rfl⟩;rcases h with h|⟨b,o,rfl,h⟩;(·exact .inl h);·exact .inr ⟨b,o,rfl,fun i hi=>by simp at hi⟩
 ·(have hne:F b≠row:=by intro e;rcases hrow with rfl|⟨g,cur,t,fz,rfl,hbg,hgc,ht⟩;(·cases e);·cases e;rcases hc with hc|⟨cur2,fz2,hc⟩;(·omega);·rw[hc]at hgc;simp only[tP,Obj.cells.injEq]at hgc;exact ht hgc.2.1.symm);have hblk:=hg.block b hlt hne;refine⟨?_,.inr ⟨b,hb,tR hlt hg.size,?_⟩⟩;(·obtain⟨a,cap,rfl,hcp,h⟩:=hs;refine⟨a,cap,rfl,hcp,?_⟩;rcases h with h|⟨b',o,rfl,h⟩;(·exact .inl h);·refine .inr ⟨b',o,rfl,fun i hi=>?_⟩;simp[pZ]at hb;subst hb;exact hg.cell (h i hi) (by simpa using hne));·rcases hc with hc|⟨cur,fz,hc⟩;(·exact .inl hc);·exact .inr ⟨cur,fz,by rw[hblk];exact hc⟩
def ZN(k:List UInt8)(i:Nat):Bool:=if i/9<k.length then(if i%9=0then O else(k.getD (i/9) 0).toNat.testBit (8-i%9))else V
theorem K6(k:List UInt8)(p:Nat):ZN k (9*p)=tI (p<k.length):=by
 unfold ZN;rw[show 9*p/9=p by omega,show 9*p%9=0 by omega];by_cases h:p<k.length<;>simp[h]
theorem K7(k:List UInt8)(p r:Nat)(hp:p<k.length)(hr:1<=r)(hr8:r<=8):ZN k (9*p+r)=(k.getD p 0).toNat.testBit (8-r):=by
 unfold ZN;rw[show(9*p+r)/9=p by omega,show(9*p+r)%9=r by omega,if_pos hp,if_neg (by omega)]
theorem ED(k:List UInt8)(i:Nat)(h:k.length<=i/9):ZN k i=V:=by
 unfold ZN;rw[if_neg (by omega)]
theorem D5(x y:UInt8)(h:∀j,j<8->x.toNat.testBit j=y.toNat.testBit j):x=y:=by
 apply pW.1;apply pQ;intro j;by_cases hj:j<8;·exact h j hj
 ·rw[sU (tR x.toNat_lt (rA (by decide) (by omega:8<=j))),sU (tR y.toNat_lt (rA (by decide) (by omega:8<=j)))]
theorem Hz(a b:List UInt8)(ha:a.length<=16)(hb:b.length<=16)(h:∀i,i<145->ZN a i=ZN b i):a=b:=by
 have hl:a.length=b.length:=by have h1:=h (9*a.length) (by omega);have h2:=h (9*b.length) (by omega);rw[K6,K6]at h1 h2;simp at h1 h2;omega
 apply List.ext_getElem hl;intro p h1 h2;have e:a.getD p 0=b.getD p 0:=by apply D5;intro j hj;have:=h (9*p+(8-j)) (by omega);rw[K7 a p _ h1 (by omega) (by omega),K7 b p _ h2 (by omega) (by omega),show 8-(8-j)=j by omega]at this;exact this
 simpa[h1,h2]using e
def xG(a b:List UInt8):Nat->Nat->Int|0,_=>-1|n+1,i=>if ZN a i=ZN b i then xG a b n (i+1)else(i:Int)
def JG(a b:List UInt8):Int:=xG a b 145 0
theorem Rr(a b:List UInt8)(n i:Nat):(xG a b n i=-1∧∀j,i<=j->j<i+n->ZN a j=ZN b j)∨∃m:Nat,xG a b n i=(m:Int)∧i<=m∧m<i+n∧(∀j,i<=j->j<m->ZN a j=ZN b j)∧ZN a m≠ZN b m:=by
 induction n generalizing i with|zero=>exact .inl ⟨rfl,fun j _ h=>by omega⟩|succ n ih=>unfold xG;by_cases he:ZN a i=ZN b i;(·rw[if_pos he];rcases ih (i+1)with⟨h1,h2⟩|⟨m,h1,h2,h3,h4,h5⟩;(·refine .inl ⟨h1,fun j hj hj2=>?_⟩;by_cases hji:j=i;(·subst hji;exact he);·exact h2 j (by omega) (by omega));·refine .inr ⟨m,h1,by omega,by omega,fun j hj hj2=>?_,h5⟩;by_cases hji:j=i;(·subst hji;exact he);·exact h4 j (by omega) hj2);·rw[if_neg he];exact .inr ⟨i,rfl,sA _,by omega,fun j h1 h2=>by omega,he⟩
theorem JP(a b:List UInt8):(JG a b=-1∧∀j,j<145->ZN a j=ZN b j)∨∃m:Nat,JG a b=(m:Int)∧m<145∧(∀j,j<m->ZN a j=ZN b j)∧ZN a m≠ZN b m:=by
 rcases Rr a b 145 0with⟨h1,h2⟩|⟨m,h1,_,h3,h4,h5⟩;·exact .inl ⟨h1,fun j hj=>h2 j (by omega) (by omega)⟩
 ·exact .inr ⟨m,h1,by omega,fun j hj=>h4 j (by omega) hj,h5⟩
theorem M7(a b:List UInt8)(m:Nat)(hm:m<145)(h:∀j,j<m->ZN a j=ZN b j)(hd:ZN a m≠ZN b m):JG a b=(m:Int):=by
 rcases JP a b with⟨_,h2⟩|⟨m',h1,h2,h3,h4⟩;·exact absurd (h2 m hm) hd
 ·by_cases hlt:m'<m;(·exact absurd (h m' hlt) h4);·by_cases hgt:m<m';(·exact absurd (h3 m hgt) hd);·rw[h1];omega
theorem Te(a b:List UInt8)(h:∀j,j<145->ZN a j=ZN b j):JG a b=-1:=by
 rcases JP a b with⟨h1,_⟩|⟨m',_,h2,_,h4⟩;·exact h1
 ·exact absurd (h m' h2) h4
theorem Py(a b:List UInt8):-1<=JG a b∧JG a b<=144:=by
 rcases JP a b with⟨h,_⟩|⟨m,h,hm,_⟩<;>omega
theorem Bs(a b:List UInt8)(ha:a.length<=16)(hb:b.length<=16):JG a b<0↔a=b:=by
 constructor;·intro h;rcases JP a b with⟨_,h2⟩|⟨m,h1,_⟩;(·exact Hz a b ha hb h2);·omega
 ·rintro rfl;rw[Te a a fun _ _=>rfl];decide
theorem vY(x y:UInt8)(a b:List UInt8):sH (x::a) (y::b)=(tI (x<y)||(x==y&&sH a b)):=by
 simp[sH]
theorem ET:∀(p:Nat)(a b:List UInt8),(∀i,i<p->i<a.length∧i<b.length∧a.getD i 0=b.getD i 0)->sH a b=sH (a.drop p) (b.drop p)|0,a,b,_=>by simp|p+1,[],b,h=>by have:=(h 0 (by omega)).1;simp at this|p+1,x::a,[],h=>by have:=(h 0 (by omega)).2.1;simp at this|p+1,x::a,y::b,h=>by have h0:=(h 0 (by omega)).2.2;simp at h0;subst h0;rw[vY,pR,pR,<-ET p a b fun i hi=>by have:=h (i+1) (by omega);simp at this;simpa using this];simp
theorem Dx(a:List UInt8):sH a []=V:=by
 cases a<;>rfl
theorem Pq(a:List UInt8)(p:Nat)(h:p<a.length):a.drop p=a.getD p 0::a.drop (p+1):=by
 rw[sD h];simp[h]
theorem Ei(x y j:Nat)(hx:x.testBit j=V)(hy:y.testBit j=O)(h:∀i,j<i->x.testBit i=y.testBit i):x<y:=by
 have hq:x/2^(j+1)=y/2^(j+1):=by apply pQ;intro i;rw[pH,pH];exact h _ (by omega)
 rw[Nat.testBit_eq_decide_div_mod_eq]at hx hy;simp at hx hy;rw[Nat.pow_succ,<-pM,<-pM]at hq;exact Nat.lt_of_div_lt_div (c:=2^j) (by omega)
theorem Wz(x y:UInt8)(j:Nat)(hd:x.toNat.testBit j≠y.toNat.testBit j)(h:∀i,j<i->x.toNat.testBit i=y.toNat.testBit i):(tI (x<y)||(x==y&&V))=y.toNat.testBit j:=by
 cases hy:y.toNat.testBit j with|true=>(have hx:x.toNat.testBit j=V:=by cases hx:x.toNat.testBit j with|true=>exact absurd (hx.trans hy.symm) hd|false=>rfl);have:=Ei _ _ j hx hy h;simp[sK,this]|false=>(have hx:x.toNat.testBit j=O:=by cases hx:x.toNat.testBit j with|true=>rfl|false=>exact absurd (hx.trans hy.symm) hd);have:=Ei _ _ j hy hx (fun i hi=>(h i hi).symm);simp[sK];omega
theorem FO(a b:List UInt8)(m:Nat)(h:∀j,j<m->ZN a j=ZN b j)(hd:ZN a m≠ZN b m):ZN b m=sH a b:=by
 have hone:m/9<a.length∨m/9<b.length:=by by_cases h1:m/9<a.length;(·exact .inl h1);·by_cases h2:m/9<b.length;(·exact .inr h2);·rw[ED a m (by omega),ED b m (by omega)]at hd;exact absurd rfl hd
 have hpre:∀i,i<m/9->i<a.length∧i<b.length∧a.getD i 0=b.getD i 0:=by intro i hi;have hh:=h (9*i) (by omega);rw[K6,K6]at hh;(have hl:i<a.length∧i<b.length:=by simp at hh;omega);refine⟨hl.1,hl.2,D5 _ _ fun j hj=>?_⟩;have:=h (9*i+(8-j)) (by omega);rw[K7 a i _ hl.1 (by omega) (by omega),K7 b i _ hl.2 (by omega) (by omega),show 8-(8-j)=j by omega]at this;exact this
 rw[ET (m/9) a b hpre];by_cases hr:m%9=0;·(have em:m=9*(m/9):=by omega);have ha:=K6 a (m/9);have hb:=K6 b (m/9);rw[<-em]at ha hb;by_cases hlb:m/9<b.length;(·have hla:¬m/9<a.length:=fun hla=>hd (by rw[ha,hb];simp[hla,hlb]);rw[hb,tW (by omega),Pq b _ hlb];simp[hlb,sH]);·rw[hb,tW (show b.length<=m/9by omega),Dx];simp[hlb]
 ·have hh:=h (9*(m/9)) (by omega);rw[K6,K6]at hh;(have hl:m/9<a.length∧m/9<b.length:=by simp at hh;omega);(have em:m=9*(m/9)+m%9:=by omega);have ha:=K7 a (m/9) (m%9) hl.1 (by omega) (by omega);have hb:=K7 b (m/9) (m%9) hl.2 (by omega) (by omega);rw[<-em]at ha hb;rw[Pq a _ hl.1,Pq b _ hl.2,vY,hb];rw[ha,hb]at hd;(have hne:(a.getD (m/9) 0==b.getD (m/9) 0)=V:=by rw[beq_eq_false_iff_ne];intro e;rw[e]at hd;exact hd rfl);rw[hne,Bool.false_and];have:=Wz (a.getD (m/9) 0) (b.getD (m/9) 0) (8-m%9) hd (fun i hi=>by by_cases hi8:i<8;(·have:=h (9*(m/9)+(8-i)) (by omega);rw[K7 a _ _ hl.1 (by omega) (by omega),K7 b _ _ hl.2 (by omega) (by omega),show 8-(8-i)=i by omega]at this;exact this);·rw[sU (tR (a.getD (m/9) 0).toNat_lt (rA (by decide) (by omega:8<=i))),sU (tR (b.getD (m/9) 0).toNat_lt (rA (by decide) (by omega:8<=i)))]);rw[Bool.and_false]at this;exact this.symm
def Qo(n:Nat):Int:=if 1<=n∧n<=16then 0 else 1
def Br(k:List UInt8)(i:Int):Bool×Int:=if 1<=k.length∧k.length<=16then(if 0<=i∧i<=144then(ZN k i.toNat,0)else(V,2))else(V,1)
def Fz(a b:List UInt8):Int×Int:=if 1<=a.length∧a.length<=16then(if 1<=b.length∧b.length<=16then(JG a b,0)else(0,1))else(0,1)
theorem bL(k:List UInt8)(i:Nat)(hk:1<=k.length∧k.length<=16)(hi:i<145):Br k (i:Int)=(ZN k i,0):=by
 rw[Br,if_pos hk,if_pos (by omega)];rfl
theorem Ob(a b:List UInt8)(ha:1<=a.length∧a.length<=16)(hb:1<=b.length∧b.length<=16):Fz a b=(JG a b,0):=by
 rw[Fz,if_pos ha,if_pos hb]
structure Zf where
  name : List UInt8
  key : List UInt8
  value : List UInt8
  gone : Bool
def YS(p:Zf):Prop:=p.name.length<=140737488355328∧p.key.length<=140737488355328∧p.value.length<=140737488355328
def Qp:Zf:=⟨[],[],[],V⟩
theorem Qh{W w:I}{b:Nat}{x y z u:N}{t:sW}(hg:J W w H)(h:W.heap[b]?=F (tJ #[x,y,z,u] t)):(w.cell? ⟨b,0,H⟩=F x∧w.cell? ⟨b,1,H⟩=F y∧w.cell? ⟨b,2,H⟩=F z∧w.cell? ⟨b,3,H⟩=F u)∧w.frozen? ⟨b,0,H⟩=V∧w.frozen? ⟨b,1,H⟩=V∧w.frozen? ⟨b,2,H⟩=V∧w.frozen? ⟨b,3,H⟩=V∧w.heap[b]?=F (tJ #[x,y,z,u] t):=by
 have hb:w.heap[b]?=F (tJ #[x,y,z,u] t):=by rw[hg.block b (tL.1 h).1 (by simp)];exact h
 refine⟨⟨?_,?_,?_,?_⟩,?_,?_,?_,?_,hb⟩;all_goals simp[tZ,sV,hb]
theorem Jr{w:I}{b:Nat}{x y z u:N}{t:sW}(h:w.heap[b]?=F (tJ #[x,y,z,u] t))(x' y' z' u':N):((((tG w ⟨b,0,H⟩ x').setCell ⟨b,1,H⟩ y').setCell ⟨b,2,H⟩ z').setCell ⟨b,3,H⟩ u').heap[b]?=F (tJ #[x',y',z',u'] t)∧(tG w ⟨b,0,H⟩ x').cell? ⟨b,0,H⟩=F x'∧((tG w ⟨b,0,H⟩ x').setCell ⟨b,1,H⟩ y').cell? ⟨b,1,H⟩=F y'∧(((tG w ⟨b,0,H⟩ x').setCell ⟨b,1,H⟩ y').setCell ⟨b,2,H⟩ z').cell? ⟨b,2,H⟩=F z'∧((((tG w ⟨b,0,H⟩ x').setCell ⟨b,1,H⟩ y').setCell ⟨b,2,H⟩ z').setCell ⟨b,3,H⟩ u').cell? ⟨b,3,H⟩=F u':=by
 have h0:(tG w ⟨b,0,H⟩ x').heap[b]?=F (tJ #[x',y,z,u] t):=by simp only[tG,tQ,if_true,h,sO];first|rfl|simp
 have h1:((tG w ⟨b,0,H⟩ x').setCell ⟨b,1,H⟩ y').heap[b]?=F (tJ #[x',y',z,u] t):=by rw[tG,tQ,if_pos rfl,h0];first|rfl|simp
 have h2:(((tG w ⟨b,0,H⟩ x').setCell ⟨b,1,H⟩ y').setCell ⟨b,2,H⟩ z').heap[b]?=F (tJ #[x',y',z',u] t):=by rw[tG,tQ,if_pos rfl,h1];first|rfl|simp
 have h3:((((tG w ⟨b,0,H⟩ x').setCell ⟨b,1,H⟩ y').setCell ⟨b,2,H⟩ z').setCell ⟨b,3,H⟩ u').heap[b]?=F (tJ #[x',y',z',u'] t):=by rw[tG,tQ,if_pos rfl,h2];first|rfl|simp
 exact⟨h3,by simp[tZ,h0],by simp[tZ,h1],by simp[tZ,h2],by simp[tZ,h3]⟩
theorem Za.setBlk{base:Nat}{w:I}{v:N}{bs:List UInt8}(h:Za base w v bs){b:Nat}{cur:Array N}{t:sW}{fz:Nat×Nat}(hb:w.heap[b]?=F (tJ cur t fz))(ht:t≠5)(i:Nat)(u:N):Za base (tG w ⟨b,i,H⟩ u) v bs:=by
 refine h.grown (row:=F b) (Qg (Qb _ _) i u) ?_;rcases h.2with⟨rfl,_⟩|⟨g,cap,cur2,rfl,_,hg,_⟩;·exact .inl rfl
 ·right;intro e;simp[pZ]at e;subst e;rw[hg]at hb;simp at hb;exact ht hb.2.1.symm
theorem Jn{w w1:I}(h:J w w1 H)(b:Nat)(hb:w.heap.size<=b)(x y z u:N):J w ((((tG w1 ⟨b,0,H⟩ x).setCell ⟨b,1,H⟩ y).setCell ⟨b,2,H⟩ z).setCell ⟨b,3,H⟩ u) H:=Qd (Qd (Qd (Qd h _ hb _ _) _ hb _ _) _ hb _ _) _ hb _ _
abbrev Pr:=List UInt8×List UInt8
abbrev PL:=List Pr
abbrev YH(a b:List UInt8):Bool:=sH a b
theorem Fr(a:List UInt8):YH a []=V:=Dx a
theorem uZ(x y:UInt8)(a b:List UInt8):YH (x::a) (y::b)=(tI (x<y)||(x==y&&YH a b)):=vY x y a b
theorem X5:∀a:List UInt8,YH a a=V|[]=>rfl|x::a=>by rw[uZ,X5 a];simp
theorem Ka:∀a b c:List UInt8,YH a b=O->YH b c=O->YH a c=O|_,[],_,h,_=>by rw[Fr]at h;cases h|_,_::_,[],_,h=>by rw[Fr]at h;cases h|[],_::_,_::_,_,_=>rfl|x::a,y::b,z::c,h1,h2=>by rw[uZ]at h1 h2⊢;simp only[oC,decide_eq_true_eq,pX,beq_iff_eq,sK]at h1 h2⊢;rcases h1 with h1|⟨rfl,h1⟩;(·rcases h2 with h2|⟨rfl,h2⟩;(·left;omega);·left;exact h1);·rcases h2 with h2|⟨rfl,h2⟩;(·left;exact h2);·right;exact⟨rfl,Ka a b c h1 h2⟩
theorem UA:∀a b:List UInt8,YH a b=V->a≠b->YH b a=O|[],[],_,h=>absurd rfl h|[],_::_,h,_=>by cases h|_::_,[],_,_=>rfl|x::a,y::b,h1,h2=>by rw[uZ]at h1⊢;simp only[rO,decide_eq_false_iff_not,Bool.and_eq_false_iff,beq_eq_false_iff_ne,sK]at h1;simp only[oC,decide_eq_true_eq,pX,beq_iff_eq,sK];by_cases e:y=x;(·subst e;right;refine⟨rfl,UA a b ?_ (fun e=>h2 (by rw[e]))⟩;rcases h1.2with h|h;(·exact absurd rfl h);·exact h);·left;have:x.toNat≠y.toNat:=fun h=>e (pW.1 h.symm);omega
theorem Lo(a b:List UInt8)(h:YH a b=O):YH b a=V:=by
 cases hb:YH b a with|false=>rfl|true=>have:=Ka a b a h hb;rw[X5]at this;cases this
theorem eA{a b:List UInt8}(h:YH a b=O):a≠b:=by
 rintro rfl;rw[X5]at h;cases h
def QY(p:Pr):Int:=if 32<p.2.length then 1 else Qo p.1.length
def XG(l:PL)(i:Nat):Int:=if QY (l.getD i ([],[]))=0then(if 0<i∧YH (l.getD (i-1) ([],[])).1 (l.getD i ([],[])).1=V then 3 else 0)else QY (l.getD i ([],[]))
def J7(l:PL):Nat->Nat->Int|0,_=>0|n+1,i=>if XG l i=0then J7 l n (i+1)else XG l i
def Qy(l:PL):Int:=if 60<l.length then 1 else J7 l l.length 0
theorem qT(l:PL)(n i:Nat)(hi:i<=n)(h:∀j,j<i->XG l j=0):J7 l n 0=J7 l (n-i) i:=by
 induction i with|zero=>rfl|succ i ih=>rw[ih (by omega) (fun j hj=>h j (by omega)),show n-i=(n-(i+1))+1by omega,J7,if_pos (h i (by omega))]
theorem yY(l:PL)(i:Nat)(hi:i<l.length)(hl:l.length<=60)(h:∀j,j<i->XG l j=0)(hf:XG l i≠0):Qy l=XG l i:=by
 rw[Qy,if_neg (by omega),qT l _ i (by omega) h,show l.length-i=(l.length-(i+1))+1by omega,J7,if_neg hf]
theorem qS(l:PL)(hl:l.length<=60)(h:∀j,j<l.length->XG l j=0):Qy l=0:=by
 rw[Qy,if_neg (by omega),qT l _ l.length (sA _) h,oG,J7]
theorem qP(l:PL)(hl:60<l.length):Qy l=1:=by
 rw[Qy,if_pos hl]
theorem zU(l:PL):∀(n i:Nat),J7 l n i=0->∀j,i<=j->j<i+n->XG l j=0|0,i,_,j,h1,h2=>by omega|n+1,i,h,j,h1,h2=>by rw[J7]at h;by_cases e:XG l i=0;(·rw[if_pos e]at h;by_cases hj:j=i;(·subst hj;exact e);·exact zU l n (i+1) h j (by omega) (by omega));·rw[if_neg e]at h;exact absurd h e
def Up(l:PL):Prop:=l.Pairwise fun p q=>YH p.1 q.1=O
structure Zz(l:PL):Prop where room:l.length<=60pairs:∀p∈l,(1<=p.1.length∧p.1.length<=16)∧p.2.length<=32rises:Up l
theorem Jz(p:Pr):QY p=0↔(1<=p.1.length∧p.1.length<=16)∧p.2.length<=32:=by
 unfold QY Qo;by_cases h:32<p.2.length;·rw[if_pos h];constructor;(·intro h;cases h);·intro h;omega
 ·rw[if_neg h];by_cases h2:1<=p.1.length∧p.1.length<=16;(·rw[if_pos h2];exact⟨fun _=>⟨h2,by omega⟩,fun _=>rfl⟩);·rw[if_neg h2];constructor;(·intro h;cases h);·intro h;exact absurd h.1 h2
theorem PG(l:PL)(i:Nat):XG l i=0↔QY (l.getD i ([],[]))=0∧(0<i->YH (l.getD (i-1) ([],[])).1 (l.getD i ([],[])).1=O):=by
 unfold XG;by_cases h:QY (l.getD i ([],[]))=0;·rw[if_pos h];by_cases h2:0<i∧YH (l.getD (i-1) ([],[])).1 (l.getD i ([],[])).1=V;(·rw[if_pos h2];constructor;(·intro h;cases h);·intro h3;have:=h3.2 h2.1;rw[h2.2]at this;cases this);·rw[if_neg h2];refine⟨fun _=>⟨h,fun hi=>?_⟩,fun _=>rfl⟩;cases hk:YH (l.getD (i-1) ([],[])).1 (l.getD i ([],[])).1with|true=>rfl|false=>exact absurd ⟨hi,hk⟩ h2
 ·rw[if_neg h];constructor;(·intro h2;exact absurd h2 h);·intro h2;exact absurd h2.1 h
theorem zO:∀l:PL,(∀i,0<i->i<l.length->YH (l.getD (i-1) ([],[])).1 (l.getD i ([],[])).1=O)->Up l|[],_=>sZ|[_],_=>sQ _ _|p::q::r,h=>by(have ih:Up (q::r):=zO (q::r) fun i h0 hi=>by have:=h (i+1) (by omega) (by simp at hi⊢;omega);rw[show i+1-1=(i-1)+1by omega]at this;simpa using this);(have h01:YH p.1 q.1=O:=by have:=h 1 (by omega) (by simp);simpa using this);refine tU (fun x hx=>?_) ih;rcases tS.1 hx with rfl|hx;(·exact h01);·exact Ka _ _ _ h01 ((rF.1 ih).1 x hx)
theorem UF(l:PL)(h:Up l)(i j:Nat)(hij:i<j)(hj:j<l.length):YH (l.getD i ([],[])).1 (l.getD j ([],[])).1=O:=by
 have:=pC.1 h i j (by omega) hj hij;simpa[hj,show i<l.length by omega]using this
theorem YQ(l:PL):Qy l=0↔Zz l:=by
 constructor;·intro h;(have hl:l.length<=60:=by by_cases hl:60<l.length;(·rw[qP l hl]at h;cases h);·omega);rw[Qy,if_neg (by omega)]at h;have ha:=fun j(hj:j<l.length)=>(PG l j).1 (zU l l.length 0 h j (by omega) (by omega));refine⟨hl,fun p hp=>?_,zO l fun i h0 hi=>(ha i hi).2 h0⟩;obtain⟨i,hi,rfl⟩:=L.1 hp;have:=(Jz _).1 (ha i hi).1;simpa[hi]using this
 ·intro h;refine qS l h.room fun j hj=>(PG l j).2 ⟨(Jz _).2 ?_,fun h0=>UF l h.rises _ _ (by omega) hj⟩;have:=h.pairs l[j] (sF hj);simpa[hj]using this
theorem Om:Zz []:=⟨by
 simp,by
 simp,sZ⟩
def qZ(l:PL)(k:List UInt8):Option (List UInt8):=(l.find? fun p=>p.1==k).map (·.2)
theorem T9(p:Pr)(l:PL)(k:List UInt8):qZ (p::l) k=if p.1=k then F p.2 else qZ l k:=by
 unfold qZ;by_cases h:p.1=k;·rw[pI (by simpa using h),if_pos h];rfl
 ·rw[pJ (by simpa using h),if_neg h]
theorem Iz:∀(l:PL)(k:List UInt8)(i:Nat),i<l.length->(∀j,j<i->(l.getD j ([],[])).1≠k)->(l.getD i ([],[])).1=k->qZ l k=F (l.getD i ([],[])).2|[],_,_,h,_,_=>by simp at h|p::l,k,0,_,_,h2=>by rw[T9,if_pos (by simpa using h2)];simp|p::l,k,i+1,h,h1,h2=>by rw[T9,if_neg (by simpa using h1 0 (by omega))];have:=Iz l k i (by simpa using h) (fun j hj=>by simpa using h1 (j+1) (by omega)) (by simpa using h2);simpa using this
theorem M8:∀(l:PL)(k:List UInt8),(∀j,j<l.length->(l.getD j ([],[])).1≠k)->qZ l k=H|[],_,_=>rfl|p::l,k,h=>by rw[T9,if_neg (by simpa using h 0 (by simp))];exact M8 l k fun j hj=>by simpa using h (j+1) (by simpa using hj)
def J8:PL->Pr->PL|[],p=>[p]|q::r,p=>if YH q.1 p.1=O then q::J8 r p else if q.1=p.1then p::r else p::q::r
def jM(l:PL)(k:List UInt8):PL:=l.filter fun q=>!(q.1==k)
def U8(l:PL)(a b:List UInt8):PL:=l.filter fun q=>!YH q.1 a&&!YH b q.1
theorem Nz(l:PL)(p x:Pr):x∈J8 l p->x=p∨x∈l:=by
 induction l with|nil=>intro h;simp[J8]at h;exact .inl h|cons q r ih=>intro h;rw[J8]at h;by_cases h1:YH q.1 p.1=O;(·rw[if_pos h1]at h;rcases tS.1 h with rfl|h;(·exact .inr (by simp));·rcases ih h with h|h;(·exact .inl h);·exact .inr (tY _ h));·rw[if_neg h1]at h;by_cases h2:q.1=p.1;(·rw[if_pos h2]at h;rcases tS.1 h with h|h;(·exact .inl h);·exact .inr (tY _ h));·rw[if_neg h2]at h;rcases tS.1 h with h|h;(·exact .inl h);·exact .inr h
theorem vN(l:PL)(p:Pr)(h:Up l):Up (J8 l p):=by
 induction l with|nil=>exact sQ _ _|cons q r ih=>have hr:=rF.1 h;rw[J8];by_cases h1:YH q.1 p.1=O;(·rw[if_pos h1];refine tU (fun x hx=>?_) (ih hr.2);rcases Nz r p x hx with rfl|hx;(·exact h1);·exact hr.1 x hx);·rw[if_neg h1];by_cases h2:q.1=p.1;(·rw[if_pos h2];exact tU (fun x hx=>by rw[<-h2];exact hr.1 x hx) hr.2);·rw[if_neg h2];have hpq:=UA _ _ (by simpa using h1) h2;refine tU (fun x hx=>?_) h;rcases tS.1 hx with rfl|hx;(·exact hpq);·exact Ka _ _ _ hpq (hr.1 x hx)
theorem EI(l:PL)(k:List UInt8)(h:Up l):Up (jM l k):=sR _ h
theorem Ci(l:PL)(a b:List UInt8)(h:Up l):Up (U8 l a b):=sR _ h
def Xc(l:PL)(k:List UInt8):Int:=if Qy l=0then Qo k.length else Qy l
theorem yJ{l:PL}{k:List UInt8}(h:Xc l k=0):Zz l:=by
 unfold Xc at h;by_cases h0:Qy l=0;·exact(YQ l).1 h0
 ·rw[if_neg h0]at h;exact absurd h h0
theorem Zu(n:Nat):Qo n=0↔1<=n∧n<=16:=by
 unfold Qo;by_cases h:1<=n∧n<=16;·rw[if_pos h];exact⟨fun _=>h,fun _=>rfl⟩
 ·rw[if_neg h];constructor;(·intro h2;cases h2);·intro h2;exact absurd h2 h
theorem IL{l:PL}{k:List UInt8}(h:Xc l k=0):1<=k.length∧k.length<=16:=by
 have ht:=(YQ l).2 (yJ h);unfold Xc at h;rw[if_pos ht]at h;exact(Zu _).1 h
theorem yK{l:PL}{k:List UInt8}(h:Zz l)(hk:1<=k.length∧k.length<=16):Xc l k=0:=by
 unfold Xc;rw[if_pos ((YQ l).2 h)];exact(Zu _).2 hk
def F4(l:PL)(k:List UInt8):Bool:=Xc l k==0&&(qZ l k).isSome
def Tr(l:PL)(k:List UInt8):List UInt8:=if Xc l k=0then(qZ l k).getD []else[]
def zA(l:PL)(k:List UInt8):PL:=if Xc l k=0then jM l k else[]
theorem Sc(l:PL)(k:List UInt8):(jM l k).length<=l.length:=sX _ _
def Yx(l:PL)(f t:List UInt8):Int:=if Xc l f=0then Qo t.length else Xc l f
theorem C3{l:PL}{f t:List UInt8}(h:Yx l f t=0):Xc l f=0:=by
 unfold Yx at h;by_cases h0:Xc l f=0;·exact h0
 ·rw[if_neg h0]at h;exact absurd h h0
def KO(l:PL)(f t:List UInt8):PL:=if Yx l f t=0then U8 l f t else[]
theorem Hi(l:PL)(f t:List UInt8):(U8 l f t).length<=l.length:=sX _ _
def VN(l:PL)(p:Pr):Int:=if Qy l=0then QY p else Qy l
def Kd(l:PL)(p:Pr):Int:=if VN l p=0then(if 60<(J8 l p).length then 11 else 0)else VN l p
def Vh(l:PL)(p:Pr):PL:=if Kd l p=0then J8 l p else[]
theorem bX(l:PL)(p:Pr):(J8 l p).length<=l.length+1:=by
 induction l with|nil=>simp[J8]|cons q r ih=>rw[J8];by_cases h1:YH q.1 p.1=O;(·rw[if_pos h1];simp;omega);·rw[if_neg h1];by_cases h2:q.1=p.1;(·rw[if_pos h2];simp);·rw[if_neg h2];simp
structure kI (l : PL) : Prop where
  many : l.length * 48 <= 140737488355328
  each : ∀ i, i < l.length -> (l.getD i ([], [])).1.length <= 140737488355328 ∧ (l.getD i ([], [])).2.length <= 140737488355328
theorem kI.len{l:PL}(h:kI l):l.length<=140737488355328:=by
 have:=h.many;omega
theorem Zz.fits{l:PL}(h:Zz l):kI l:=by
 refine⟨by have:=h.room;omega,fun i hi=>?_⟩;have:=h.pairs l[i] (sF hi);rw[show l[i]=l.getD i ([],[])by simp[hi]]at this;omega
abbrev Tn:=List UInt8×PL
abbrev FL:=List Tn
def Yy(l:FL):Prop:=l.Pairwise fun p q=>YH p.1 q.1=O
def zP(l:FL)(k:List UInt8):Option PL:=(l.find? fun p=>p.1==k).map (·.2)
theorem jP(p:Tn)(l:FL)(k:List UInt8):zP (p::l) k=if p.1=k then F p.2 else zP l k:=by
 unfold zP;by_cases h:p.1=k;·rw[pI (by simpa using h),if_pos h];rfl
 ·rw[pJ (by simpa using h),if_neg h]
theorem Ca:∀(l:FL)(k:List UInt8)(i:Nat),i<l.length->(∀j,j<i->(l.getD j ([],[])).1≠k)->(l.getD i ([],[])).1=k->zP l k=F (l.getD i ([],[])).2|[],_,_,h,_,_=>by simp at h|p::l,k,0,_,_,h2=>by rw[jP,if_pos (by simpa using h2)];simp|p::l,k,i+1,h,h1,h2=>by rw[jP,if_neg (by simpa using h1 0 (by omega))];have:=Ca l k i (by simpa using h) (fun j hj=>by simpa using h1 (j+1) (by omega)) (by simpa using h2);simpa using this
theorem Ts:∀(l:FL)(k:List UInt8),(∀j,j<l.length->(l.getD j ([],[])).1≠k)->zP l k=H|[],_,_=>rfl|p::l,k,h=>by rw[jP,if_neg (by simpa using h 0 (by simp))];exact Ts l k fun j hj=>by simpa using h (j+1) (by simpa using hj)
def Jo:FL->Tn->FL|[],p=>[p]|q::r,p=>if YH q.1 p.1=O then q::Jo r p else if q.1=p.1then p::r else p::q::r
def jW(l:FL)(k:List UInt8):FL:=l.filter fun q=>!(q.1==k)
theorem Ec(l:FL)(p x:Tn):x∈Jo l p->x=p∨x∈l:=by
 induction l with|nil=>intro h;simp[Jo]at h;exact .inl h|cons q r ih=>intro h;rw[Jo]at h;by_cases h1:YH q.1 p.1=O;(·rw[if_pos h1]at h;rcases tS.1 h with rfl|h;(·exact .inr (by simp));·rcases ih h with h|h;(·exact .inl h);·exact .inr (tY _ h));·rw[if_neg h1]at h;by_cases h2:q.1=p.1;(·rw[if_pos h2]at h;rcases tS.1 h with h|h;(·exact .inl h);·exact .inr (tY _ h));·rw[if_neg h2]at h;rcases tS.1 h with h|h;(·exact .inl h);·exact .inr h
theorem MA(l:FL)(p:Tn)(h:Yy l):Yy (Jo l p):=by
 induction l with|nil=>exact sQ _ _|cons q r ih=>have hr:=rF.1 h;rw[Jo];by_cases h1:YH q.1 p.1=O;(·rw[if_pos h1];refine tU (fun x hx=>?_) (ih hr.2);rcases Ec r p x hx with rfl|hx;(·exact h1);·exact hr.1 x hx);·rw[if_neg h1];by_cases h2:q.1=p.1;(·rw[if_pos h2];exact tU (fun x hx=>by rw[<-h2];exact hr.1 x hx) hr.2);·rw[if_neg h2];have hpq:=UA _ _ (by simpa using h1) h2;refine tU (fun x hx=>?_) h;rcases tS.1 hx with rfl|hx;(·exact hpq);·exact Ka _ _ _ hpq (hr.1 x hx)
theorem Cb(l:FL)(k:List UInt8)(h:Yy l):Yy (jW l k):=sR _ h
theorem Hc(l:FL)(p:Tn):(Jo l p).length<=l.length+1:=by
 induction l with|nil=>simp[Jo]|cons q r ih=>rw[Jo];by_cases h1:YH q.1 p.1=O;(·rw[if_pos h1];simp;omega);·rw[if_neg h1];by_cases h2:q.1=p.1;(·rw[if_pos h2];simp);·rw[if_neg h2];simp
theorem EU(l:FL)(k:List UInt8):(jW l k).length<=l.length:=sX _ _
def Qt(n:Nat):Int:=if 1<=n∧n<=8then 0 else 1
theorem Zn(n:Nat):Qt n=0↔1<=n∧n<=8:=by
 unfold Qt;by_cases h:1<=n∧n<=8;·rw[if_pos h];exact⟨fun _=>h,fun _=>rfl⟩
 ·rw[if_neg h];constructor;(·intro h2;cases h2);·intro h2;exact absurd h2 h
def XC(t:Tn):Int:=if Qt t.1.length=0then(if t.2.length=0then 4 else Qy t.2)else Qt t.1.length
theorem vB(t:Tn):XC t=0↔(1<=t.1.length∧t.1.length<=8)∧t.2≠[]∧Zz t.2:=by
 unfold XC;by_cases h:Qt t.1.length=0;·rw[if_pos h];by_cases h2:t.2.length=0;(·rw[if_pos h2];constructor;(·intro h3;cases h3);·intro h3;exact absurd (tD h2) h3.2.1);·rw[if_neg h2,YQ];exact⟨fun h3=>⟨(Zn _).1 h,fun e=>h2 (by rw[e];rfl),h3⟩,fun h3=>h3.2.2⟩
 ·rw[if_neg h];constructor;(·intro h2;exact absurd h2 h);·intro h2;exact absurd ((Zn _).2 h2.1) h
def Kh(l:FL)(i:Nat):Int:=if XC (l.getD i ([],[]))=0then(if 0<i∧YH (l.getD (i-1) ([],[])).1 (l.getD i ([],[])).1=V then 3 else 0)else XC (l.getD i ([],[]))
def Vq(l:FL):Nat->Nat->Int|0,_=>0|n+1,i=>if Kh l i=0then Vq l n (i+1)else Kh l i
def Q8(l:FL):Int:=if 8<l.length then 1 else Vq l l.length 0
theorem yU(l:FL)(n i:Nat)(hi:i<=n)(h:∀j,j<i->Kh l j=0):Vq l n 0=Vq l (n-i) i:=by
 induction i with|zero=>rfl|succ i ih=>rw[ih (by omega) (fun j hj=>h j (by omega)),show n-i=(n-(i+1))+1by omega,Vq,if_pos (h i (by omega))]
theorem Rb(l:FL)(i:Nat)(hi:i<l.length)(hl:l.length<=8)(h:∀j,j<i->Kh l j=0)(hf:Kh l i≠0):Q8 l=Kh l i:=by
 rw[Q8,if_neg (by omega),yU l _ i (by omega) h,show l.length-i=(l.length-(i+1))+1by omega,Vq,if_neg hf]
theorem kV(l:FL)(hl:l.length<=8)(h:∀j,j<l.length->Kh l j=0):Q8 l=0:=by
 rw[Q8,if_neg (by omega),yU l _ l.length (sA _) h,oG,Vq]
theorem uX(l:FL)(hl:8<l.length):Q8 l=1:=by
 rw[Q8,if_pos hl]
theorem uU(l:FL):∀(n i:Nat),Vq l n i=0->∀j,i<=j->j<i+n->Kh l j=0|0,i,_,j,h1,h2=>by omega|n+1,i,h,j,h1,h2=>by rw[Vq]at h;by_cases e:Kh l i=0;(·rw[if_pos e]at h;by_cases hj:j=i;(·subst hj;exact e);·exact uU l n (i+1) h j (by omega) (by omega));·rw[if_neg e]at h;exact absurd h e
theorem RZ(l:FL)(i:Nat):Kh l i=0↔XC (l.getD i ([],[]))=0∧(0<i->YH (l.getD (i-1) ([],[])).1 (l.getD i ([],[])).1=O):=by
 unfold Kh;by_cases h:XC (l.getD i ([],[]))=0;·rw[if_pos h];by_cases h2:0<i∧YH (l.getD (i-1) ([],[])).1 (l.getD i ([],[])).1=V;(·rw[if_pos h2];constructor;(·intro h;cases h);·intro h3;have:=h3.2 h2.1;rw[h2.2]at this;cases this);·rw[if_neg h2];refine⟨fun _=>⟨h,fun hi=>?_⟩,fun _=>rfl⟩;cases hk:YH (l.getD (i-1) ([],[])).1 (l.getD i ([],[])).1with|true=>rfl|false=>exact absurd ⟨hi,hk⟩ h2
 ·rw[if_neg h];constructor;(·intro h2;exact absurd h2 h);·intro h2;exact absurd h2.1 h
theorem GJ:∀l:FL,(∀i,0<i->i<l.length->YH (l.getD (i-1) ([],[])).1 (l.getD i ([],[])).1=O)->Yy l|[],_=>sZ|[_],_=>sQ _ _|p::q::r,h=>by(have ih:Yy (q::r):=GJ (q::r) fun i h0 hi=>by have:=h (i+1) (by omega) (by simp at hi⊢;omega);rw[show i+1-1=(i-1)+1by omega]at this;simpa using this);(have h01:YH p.1 q.1=O:=by have:=h 1 (by omega) (by simp);simpa using this);refine tU (fun x hx=>?_) ih;rcases tS.1 hx with rfl|hx;(·exact h01);·exact Ka _ _ _ h01 ((rF.1 ih).1 x hx)
theorem G9(l:FL)(h:Yy l)(i j:Nat)(hij:i<j)(hj:j<l.length):YH (l.getD i ([],[])).1 (l.getD j ([],[])).1=O:=by
 have:=pC.1 h i j (by omega) hj hij;simpa[hj,show i<l.length by omega]using this
structure ZQ(l:FL):Prop where room:l.length<=8tens:∀t∈l,(1<=t.1.length∧t.1.length<=8)∧t.2≠[]∧Zz t.2rises:Yy l
theorem XJ(l:FL):Q8 l=0↔ZQ l:=by
 constructor;·intro h;(have hl:l.length<=8:=by by_cases hl:8<l.length;(·rw[uX l hl]at h;cases h);·omega);rw[Q8,if_neg (by omega)]at h;have ha:=fun j(hj:j<l.length)=>(RZ l j).1 (uU l l.length 0 h j (by omega) (by omega));refine⟨hl,fun p hp=>?_,GJ l fun i h0 hi=>(ha i hi).2 h0⟩;obtain⟨i,hi,rfl⟩:=L.1 hp;have:=(vB _).1 (ha i hi).1;simpa[hi]using this
 ·intro h;refine kV l h.room fun j hj=>(RZ l j).2 ⟨(vB _).2 ?_,fun h0=>G9 l h.rises _ _ (by omega) hj⟩;have:=h.tens l[j] (sF hj);simpa[hj]using this
theorem Uy:ZQ []:=⟨by
 simp,by
 simp,sZ⟩
def YU(l:FL)(n:List UInt8):PL:=(zP l n).getD []
theorem eH(n:List UInt8):YU [] n=[]:=rfl
theorem KD{l:FL}(h:ZQ l)(n:List UInt8):Zz (YU l n):=by
 unfold YU zP;cases hf:l.find? (fun p=>p.1==n)with|none=>exact Om|some t=>exact(h.tens t (List.mem_of_find?_eq_some hf)).2.2
def QA(w:Zf):Int:=if Qt w.name.length=0then(if w.gone=O then(if Qo w.key.length=0then(if 0<w.value.length then 4 else 0)else Qo w.key.length)else QY (w.key,w.value))else Qt w.name.length
def Ys(l:FL)(w:Zf):PL:=if w.gone=O then jM (YU l w.name) w.key else J8 (YU l w.name) (w.key,w.value)
def GN(l:FL)(w:Zf):Int:=if w.gone=O then Xc (YU l w.name) w.key else Kd (YU l w.name) (w.key,w.value)
def Zs(l:FL)(w:Zf):FL:=if(Ys l w).length=0then jW l w.name else Jo l (w.name,Ys l w)
def Yw(l:FL)(w:Zf):Int:=if GN l w=0then(if 8<(Zs l w).length then 11 else 0)else GN l w
def Xe:FL->List Zf->Int|_,[]=>0|l,w::ws=>if QA w=0then(if Yw l w=0then Xe (Zs l w) ws else Yw l w)else QA w
def Jp:FL->List Zf->FL|l,[]=>l|l,w::ws=>Jp (Zs l w) ws
def QT(l:FL)(ws:List Zf):Int:=if Q8 l=0then(if 10<ws.length then 1 else Xe l ws)else Q8 l
def Z6(l:FL)(ws:List Zf):FL:=if QT l ws=0then Jp l ws else[]
theorem XI(w:Zf):QA w=0↔(1<=w.name.length∧w.name.length<=8)∧(1<=w.key.length∧w.key.length<=16)∧(if w.gone=O then w.value=[]else w.value.length<=32):=by
 unfold QA;by_cases hn:Qt w.name.length=0;·rw[if_pos hn];have hn':=(Zn _).1 hn;by_cases hg:w.gone=O;(·rw[if_pos hg,if_pos hg];by_cases hk:Qo w.key.length=0;(·rw[if_pos hk];have hk':=(Zu _).1 hk;by_cases hv:0<w.value.length;(·rw[if_pos hv];constructor;(·intro h;cases h);·intro h;rw[h.2.2]at hv;simp at hv);·rw[if_neg hv];exact⟨fun _=>⟨hn',hk',tD (by omega)⟩,fun _=>rfl⟩);·rw[if_neg hk];constructor;(·intro h;exact absurd h hk);·intro h;exact absurd ((Zu _).2 h.2.1) hk);·rw[if_neg hg,if_neg hg,Jz];exact⟨fun h=>⟨hn',h.1,h.2⟩,fun h=>⟨h.2.1,h.2.2⟩⟩
 ·rw[if_neg hn];constructor;(·intro h;exact absurd h hn);·intro h;exact absurd ((Zn _).2 h.1) hn
theorem WC{l:FL}(h:ZQ l){w:Zf}(hw:QA w=0)(he:GN l w=0):Zz (Ys l w):=by
 obtain⟨_,hk,hv⟩:=(XI w).1 hw;have hT:=KD h w.name;unfold Ys;unfold GN at he;by_cases hg:w.gone=O;·rw[if_pos hg];exact⟨rC (Sc _ _) hT.room,fun p hp=>hT.pairs p (rY.1 hp).1,EI _ _ hT.rises⟩
 ·rw[if_neg hg]at he hv⊢;(have h60:¬60<(J8 (YU l w.name) (w.key,w.value)).length:=by intro h60;unfold Kd at he;by_cases h0:VN (YU l w.name) (w.key,w.value)=0;(·rw[if_pos h0,if_pos h60]at he;cases he);·rw[if_neg h0]at he;exact h0 he);refine⟨by omega,fun q hq=>?_,vN _ _ hT.rises⟩;rcases Nz _ _ q hq with rfl|hq;(·exact⟨hk,hv⟩);·exact hT.pairs q hq
theorem Rs{l:FL}(h:Yy l)(w:Zf):Yy (Zs l w):=by
 unfold Zs;by_cases hn:(Ys l w).length=0;·rw[if_pos hn];exact Cb _ _ h
 ·rw[if_neg hn];exact MA _ _ h
theorem xU{l:FL}(h:ZQ l){w:Zf}(hw:QA w=0)(he:Yw l w=0):ZQ (Zs l w):=by
 have hE:GN l w=0:=by by_cases h0:GN l w=0;(·exact h0);·unfold Yw at he;rw[if_neg h0]at he;exact absurd he h0
 have hl:(Zs l w).length<=8:=by unfold Yw at he;rw[if_pos hE]at he;by_cases h8:8<(Zs l w).length;(·rw[if_pos h8]at he;cases he);·omega
 obtain⟨hn,_,_⟩:=(XI w).1 hw;refine⟨hl,fun t ht=>?_,Rs h.rises w⟩;unfold Zs at ht;by_cases h0:(Ys l w).length=0;·rw[if_pos h0]at ht;exact h.tens t (rY.1 ht).1
 ·rw[if_neg h0]at ht;rcases Ec _ _ t ht with rfl|ht;(·exact⟨hn,fun e=>h0 (by rw[show Ys l w=[]from e];rfl),WC h hw hE⟩);·exact h.tens t ht
structure Rd where
  name : List UInt8
  key : List UInt8
  wide : Bool
  last : List UInt8
def Zg:Rd:=⟨[],[],V,[]⟩
def Xq(r:Rd):Int:=if Qt r.name.length=0then(if Qo r.key.length=0then(if r.wide=O then Qo r.last.length else(if 0<r.last.length then 4 else 0))else Qo r.key.length)else Qt r.name.length
theorem RY(r:Rd):Xq r=0↔(1<=r.name.length∧r.name.length<=8)∧(1<=r.key.length∧r.key.length<=16)∧(if r.wide=O then 1<=r.last.length∧r.last.length<=16 else r.last=[]):=by
 unfold Xq;by_cases hn:Qt r.name.length=0;·rw[if_pos hn];have hn':=(Zn _).1 hn;by_cases hk:Qo r.key.length=0;(·rw[if_pos hk];have hk':=(Zu _).1 hk;by_cases hw:r.wide=O;(·rw[if_pos hw,if_pos hw,Zu];exact⟨fun h=>⟨hn',hk',h⟩,fun h=>h.2.2⟩);·rw[if_neg hw,if_neg hw];by_cases hl:0<r.last.length;(·rw[if_pos hl];exact⟨fun h=>by omega,fun h=>by rw[h.2.2]at hl;simp at hl⟩);·rw[if_neg hl];exact⟨fun _=>⟨hn',hk',tD (by omega)⟩,fun _=>rfl⟩);·rw[if_neg hk];exact⟨fun h=>absurd h hk,fun h=>absurd ((Zu _).2 h.2.1) hk⟩
 ·rw[if_neg hn];exact⟨fun h=>absurd h hn,fun h=>absurd ((Zn _).2 h.1) hn⟩
def Xb(w:I)(v:N)(p:Zf):Prop:=∃vn vk vv,v=pN #[vn,vk,pO p.gone,vv]∧Qe w vn p.name∧Qe w vk p.key∧Qe w vv p.value
theorem Xb.grown{w w':I}{v:N}{p:Zf}(h:Xb w v p)(hg:J w w' H):Xb w' v p:=by
 obtain⟨vn,vk,vv,rfl,h1,h2,h3⟩:=h;exact⟨vn,vk,vv,rfl,h1.grown hg,h2.grown hg,h3.grown hg⟩
theorem Xb.aggW{w:I}{v:N}{p:Zf}(h:Xb w v p):∃na nc ka kc va vc,v=pN #[tH na p.name.length nc,tH ka p.key.length kc,pO p.gone,tH va p.value.length vc]:=by
 obtain⟨vn,vk,vv,rfl,h1,h2,h3⟩:=h;obtain⟨na,nc,rfl⟩:=h1.shape;obtain⟨ka,kc,rfl⟩:=h2.shape;obtain⟨va,vc,rfl⟩:=h3.shape;exact⟨na,nc,ka,kc,va,vc,rfl⟩
def uJ(w:I)(b o:Nat)(p:Zf):Prop:=∃vn vk vv,w.cell? ⟨b,o,H⟩=F vn∧w.cell? ⟨b,o+1,H⟩=F vk∧w.cell? ⟨b,o+2,H⟩=F (pO p.gone)∧w.cell? ⟨b,o+3,H⟩=F vv∧Qe w vn p.name∧Qe w vk p.key∧Qe w vv p.value
theorem uJ.grown{w w':I}{b o:Nat}{p:Zf}(h:uJ w b o p)(hg:J w w' H):uJ w' b o p:=by
 obtain⟨vn,vk,vv,c1,c2,c3,c4,h1,h2,h3⟩:=h;exact⟨vn,vk,vv,hg.cell c1 (by simp),hg.cell c2 (by simp),hg.cell c3 (by simp),hg.cell c4 (by simp),h1.grown hg,h2.grown hg,h3.grown hg⟩
def QQ(w:I)(v:N)(l:List Zf):Prop:=∃a cap,v=tH a l.length cap∧l.length<=cap∧((l=[]∧(a=H->cap=0))∨∃b o,a=F ⟨b,o,H⟩∧∀i,i<l.length->uJ w b (o+i*4) (l.getD i Qp))
theorem QQ.shape{w:I}{v:N}{l:List Zf}(h:QQ w v l):∃a cap,v=tH a l.length cap:=by
 obtain⟨a,cap,rfl,_⟩:=h;exact⟨a,cap,rfl⟩
theorem QQ.grown{w w':I}{v:N}{l:List Zf}(h:QQ w v l)(hg:J w w' H):QQ w' v l:=by
 obtain⟨a,cap,rfl,hc,h⟩:=h;refine⟨a,cap,rfl,hc,?_⟩;rcases h with h|⟨b,o,rfl,h⟩;·exact .inl h
 ·exact .inr ⟨b,o,rfl,fun i hi=>(h i hi).grown hg⟩
theorem QQ.at{w:I}{a:Option pD}{n cap:Nat}{l:List Zf}(h:QQ w (tH a n cap) l)(i:Nat)(hi:i<l.length):∃b o,a=F ⟨b,o,H⟩∧uJ w b (o+i*4) (l.getD i Qp):=by
 obtain⟨a',cap',e,hc,h⟩:=h;simp only[rB]at e;obtain⟨rfl,rfl,rfl⟩:=e;rcases h with⟨rfl,_⟩|⟨b,o,rfl,h⟩;·simp at hi
 ·exact⟨b,o,rfl,h i hi⟩
structure kL (l : List Zf) : Prop where
  many : l.length * 80 <= 140737488355328
  each : ∀ i, i < l.length -> YS (l.getD i Qp)
theorem kL.len{l:List Zf}(h:kL l):l.length<=140737488355328:=by
 have:=h.many;omega
structure XA where
  turn : Int
  writes : List Zf
def Zl:XA:=⟨0,[]⟩
def CZ:Nat->List Zf->Int|_,[]=>0|i,w::ws=>if(if 10<=i then(1:Int)else QA w)=0then CZ (i+1) ws else(if 10<=i then(1:Int)else QA w)
def QZ(c:XA):Int:=if 1<=c.turn∧c.turn<=1048576then(if c.writes.length=0then 1 else CZ 0 c.writes)else 2
theorem SA:∀(ws:List Zf)(i:Nat),CZ i ws=0↔(ws=[]∨i+ws.length<=10)∧∀w∈ws,QA w=0|[],i=>by simp[CZ]|w::ws,i=>by have ih:=SA ws (i+1);rw[CZ];by_cases h10:10<=i;(·rw[if_pos h10,if_neg (by omega)];constructor;(·intro h;omega);·rintro⟨h|h,_⟩;(·cases h);·simp at h;omega);·rw[if_neg h10];by_cases hw:QA w=0;(·rw[if_pos hw,ih];constructor;(·rintro⟨h1,h2⟩;refine⟨.inr ?_,?_⟩;(·rcases h1 with rfl|h1;(·simp;omega);·simp;omega);·intro x hx;rcases tS.1 hx with rfl|hx;(·exact hw);·exact h2 x hx);·rintro⟨h1,h2⟩;refine⟨.inr ?_,fun x hx=>h2 x (tY _ hx)⟩;rcases h1 with h1|h1;(·cases h1);·simp at h1;omega);·rw[if_neg hw];constructor;(·intro h;exact absurd h hw);·rintro⟨_,h2⟩;exact absurd (h2 w (rT ..)) hw
theorem KR(c:XA):QZ c=0↔(1<=c.turn∧c.turn<=1048576)∧(1<=c.writes.length∧c.writes.length<=10)∧∀w∈c.writes,QA w=0:=by
 unfold QZ;by_cases h1:1<=c.turn∧c.turn<=1048576;·rw[if_pos h1];by_cases h2:c.writes.length=0;(·rw[if_pos h2];constructor;(·intro h;omega);·rintro⟨_,h,_⟩;omega);·rw[if_neg h2,SA];constructor;(·rintro⟨h3|h3,h4⟩;(·rw[h3]at h2;simp at h2);·exact⟨h1,⟨by omega,by omega⟩,h4⟩);·rintro⟨_,h3,h4⟩;exact⟨.inr (by omega),h4⟩
 ·rw[if_neg h1];constructor;(·intro h;omega);·rintro⟨h,_⟩;exact absurd h h1
theorem aC(ws:List Zf)(i:Nat)(h:i<ws.length):CZ i (ws.drop i)=if(if 10<=i then(1:Int)else QA (ws.getD i Qp))=0then CZ (i+1) (ws.drop (i+1))else(if 10<=i then(1:Int)else QA (ws.getD i Qp)):=by
 rw[sD h,CZ,show ws[i]=ws.getD i Qp by simp[h]]
theorem bO(ws:List Zf):CZ ws.length (ws.drop ws.length)=0:=by
 rw[List.drop_length,CZ]
def XM(p:List UInt8):List UInt8:=tC p.length::p
theorem GW(p:List UInt8):(XM p).length=p.length+1:=rfl
def Gg(w:Zf):List UInt8:=if w.gone=O then[255]else XM w.value
def Yb(w:Zf):List UInt8:=XM w.name++XM w.key++Gg w
def UY(t n:Nat):List UInt8:=[tC (t/65536),tC (t/256%256),tC (t%256),tC n]
def Zj(c:XA):List UInt8:=UY c.turn.toNat c.writes.length++c.writes.flatMap Yb
def Zt:List UInt8->Option (List UInt8×List UInt8)|[]=>H|x::r=>if x.toNat<=r.length then F (r.take x.toNat,r.drop x.toNat)else H
def uA(n k r:List UInt8):Option (Zf×List UInt8):=if r.head?=F 255then F (⟨n,k,[],O⟩,r.tail)else match Zt r with|F (v,r2)=>F (⟨n,k,v,V⟩,r2)|none=>H
def Mc(n r:List UInt8):Option (Zf×List UInt8):=match Zt r with|F (k,r2)=>uA n k r2|none=>H
def Jd(r:List UInt8):Option (Zf×List UInt8):=match Zt r with|F (n,r2)=>Mc n r2|none=>H
def ZP:Nat->List UInt8->Option (List Zf×List UInt8)|0,r=>F ([],r)|n+1,r=>match Jd r with|F (w,r1)=>(match ZP n r1 with|F (ws,r2)=>F (w::ws,r2)|none=>H)|none=>H
theorem M9{p:List UInt8}(h:p.length<256):(tC p.length).toNat=p.length:=by
 simp;omega
theorem Vi(p r:List UInt8)(h:p.length<256):Zt (XM p++r)=F (p,r):=by
 show Zt (tC p.length::(p++r))=_;rw[Zt,M9 h,if_pos (by simp),rM,rN]<;>rfl
theorem V9{r p r2:List UInt8}(h:Zt r=F (p,r2)):r=XM p++r2:=by
 cases r with|nil=>cases h|cons x r=>rw[Zt]at h;by_cases hx:x.toNat<=r.length;(·rw[if_pos hx]at h;simp only[tP,sC]at h;obtain⟨rfl,rfl⟩:=h;(have hl:(r.take x.toNat).length=x.toNat:=by simp;omega);show x::r=tC (r.take x.toNat).length::(r.take x.toNat++r.drop x.toNat);rw[hl,tE];simp);·rw[if_neg hx]at h;cases h
theorem Bj{r p r2:List UInt8}(h:Zt r=F (p,r2))(x:List UInt8):Zt (r++x)=F (p,r2++x):=by
 cases r with|nil=>cases h|cons y r=>rw[Zt]at h;by_cases hy:y.toNat<=r.length;(·rw[if_pos hy]at h;simp only[tP,sC]at h;obtain⟨rfl,rfl⟩:=h;show Zt (y::(r++x))=_;rw[Zt,if_pos (by simp;omega),r7 hy,r8 hy]);·rw[if_neg hy]at h;cases h
theorem Bw{w:Zf}(hw:QA w=0)(r:List UInt8):Jd (Yb w++r)=F (w,r):=by
 obtain⟨h1,h2,h3⟩:=(XI w).1 hw;unfold Jd Yb;rw[tB,tB,Vi _ _ (by omega)];show Mc w.name (XM w.key++(Gg w++r))=_;unfold Mc;rw[Vi _ _ (by omega)];show uA w.name w.key (Gg w++r)=_;unfold uA Gg;by_cases hg:w.gone=O;·rw[if_pos hg]at h3⊢;rw[if_pos (by rfl)];obtain⟨n,k,v,g⟩:=w;simp only at hg h3;subst hg h3;rfl
 ·rw[if_neg hg]at h3⊢;rw[if_neg,Vi _ _ (by omega)];(·obtain⟨n,k,v,g⟩:=w;simp only[Bool.not_eq_true]at hg;subst hg;rfl);·show¬(F (tC w.value.length)=F 255);intro e;have:=congrArg UInt8.toNat (pK e);rw[M9 (by omega)]at this;have h255:(255:UInt8).toNat=255:=rfl;omega
theorem P5:∀(ws:List Zf)(_:∀w∈ws,QA w=0)(r:List UInt8),ZP ws.length (ws.flatMap Yb++r)=F (ws,r)|[],_,r=>rfl|w::ws,h,r=>by show ZP (ws.length+1) ((w::ws).flatMap Yb++r)=_;rw[ZP,rH,tB,Bw (h w (rT ..))];show(match ZP ws.length (ws.flatMap Yb++r)with|F (ws',r2)=>F (w::ws',r2)|none=>H)=_;rw[P5 ws (fun x hx=>h x (tY _ hx)) r]
theorem MU{r r2:List UInt8}{w:Zf}(h:Jd r=F (w,r2)):r=Yb w++r2:=by
 unfold Jd at h;cases h1:Zt r with|none=>rw[h1]at h;cases h|some q=>obtain⟨n,ra⟩:=q;rw[h1]at h;have h:Mc n ra=F (w,r2):=h;unfold Mc at h;cases h2:Zt ra with|none=>rw[h2]at h;cases h|some q=>obtain⟨k,rb⟩:=q;rw[h2]at h;have h:uA n k rb=F (w,r2):=h;rw[V9 h1,V9 h2];unfold uA at h;by_cases hg:rb.head?=F 255;(·rw[if_pos hg]at h;simp only[tP,sC]at h;obtain⟨rfl,rfl⟩:=h;cases rb with|nil=>cases hg|cons x rb=>obtain rfl:x=255:=pK hg;show XM n++(XM k++255::rb)=XM n++XM k++[255]++rb;simp[tB]);·rw[if_neg hg]at h;cases h3:Zt rb with|none=>rw[h3]at h;cases h|some q=>obtain⟨v,rc⟩:=q;rw[h3]at h;simp only[tP,sC]at h;obtain⟨rfl,rfl⟩:=h;rw[V9 h3];show XM n++(XM k++(XM v++rc))=XM n++XM k++XM v++rc;simp[tB]
theorem vF:∀(n:Nat){r r2:List UInt8}{ws:List Zf},ZP n r=F (ws,r2)->r=ws.flatMap Yb++r2∧ws.length=n|0,r,r2,ws,h=>by rw[ZP]at h;simp only[tP,sC]at h;obtain⟨rfl,rfl⟩:=h;exact⟨rfl,rfl⟩|n+1,r,r2,ws,h=>by rw[ZP]at h;cases h1:Jd r with|none=>rw[h1]at h;cases h|some q=>obtain⟨w,ra⟩:=q;rw[h1]at h;have h:(match ZP n ra with|F (ws,r2)=>F (w::ws,r2)|none=>H)=F (ws,r2):=h;cases h2:ZP n ra with|none=>rw[h2]at h;cases h|some q=>obtain⟨ws',rb⟩:=q;rw[h2]at h;simp only[tP,sC]at h;obtain⟨rfl,rfl⟩:=h;obtain⟨e1,e2⟩:=vF n h2;exact⟨by rw[MU h1,e1,rH,tB],by simp[e2]⟩
theorem zN : ∀ (n : Nat) (r : List UInt8), ZP (n + 1) r = match ZP n r with | F (ws, r1) => (match Jd r1 with | F (w, r2) => F (ws ++ [w], r2) | none => H) | none => H
  | 0, r => by
    rw [ZP]
    cases h : Jd r with
    | none => simp [ZP, h]
    | some q => obtain ⟨w, ra⟩ := q; simp [ZP, h]
  | n + 1, r => by
    rw [ZP]
    cases h : Jd r with
    | none =>
      show H = _
      rw [ZP, h]
    | some q =>
      obtain ⟨w, ra⟩ := q
      show (match ZP (n + 1) ra with | F (ws, r2) => F (w :: ws, r2) | none => H) = _
      rw [zN n ra, show ZP (n + 1) r = (match ZP n ra with | F (ws, r2) => F (w :: ws, r2) | none => H) by rw [ZP, h]]
      cases h2 : ZP n ra with
      | none => rfl
      | some q =>
        obtain ⟨ws, rb⟩ := q
        show (match (match Jd rb with | F (w, r2) => F (ws ++ [w], r2) | none => H) with | F (ws, r2) => F (w :: ws, r2) | none => H) = (match Jd rb with | F (w', r2) => F (w :: ws ++ [w'], r2) | none => H)
        cases Jd rb with
        | none => rfl
        | some q => rfl
def VW(b:List UInt8):Nat:=65536*(b.getD 0 0).toNat+256*(b.getD 1 0).toNat+(b.getD 2 0).toNat
def GH(b:List UInt8):Option (List Zf×List UInt8):=ZP (b.getD 3 0).toNat (b.drop 4)
def YD(b:List UInt8):Int:=if 4000<b.length then 1 else if b.length<4then 14 else match GH b with|none=>14|F (ws,r)=>if r.length=0then QZ ⟨(VW b:Int),ws⟩else 4
def JB(b:List UInt8):XA:=if YD b=0then(match GH b with|F (ws,_)=>⟨(VW b:Int),ws⟩|none=>Zl)else Zl
theorem Pj(t n:Nat):(UY t n).length=4:=rfl
theorem Wj(t n:Nat)(x:List UInt8)(ht:t<=1048576):VW (UY t n++x)=t:=by
 show 65536*(tC (t/65536)).toNat+256*(tC (t/256%256)).toNat+(tC (t%256)).toNat=t;simp only[pS];omega
theorem Lu(t n:Nat)(x:List UInt8)(hn:n<=10):((UY t n++x).getD 3 0).toNat=n:=by
 show(tC n).toNat=n;simp;omega
theorem Lb(t n:Nat)(x:List UInt8):(UY t n++x).drop 4=x:=rfl
theorem Al{w:Zf}(hw:QA w=0):(Yb w).length=3+w.name.length+w.key.length+w.value.length∧(Yb w).length<=59:=by
 obtain⟨h1,h2,h3⟩:=(XI w).1 hw;unfold Yb Gg;by_cases hg:w.gone=O;·rw[if_pos hg]at h3⊢;rw[h3];simp only[T,GW,rX,List.length_nil];omega
 ·rw[if_neg hg]at h3⊢;simp only[T,GW];omega
def A8(ws:List Zf):Nat:=(ws.map fun w=>3+w.name.length+w.key.length+w.value.length).sum
theorem zX:∀(ws:List Zf)(_:∀w∈ws,QA w=0),(ws.flatMap Yb).length=A8 ws∧(ws.flatMap Yb).length<=59*ws.length|[],_=>by simp[A8]|w::ws,h=>by obtain⟨i1,i2⟩:=zX ws (fun x hx=>h x (tY _ hx));obtain⟨j1,j2⟩:=Al (h w (rT ..));rw[rH,T];unfold A8 at i1⊢;rw[oE,List.sum_cons,rX];omega
theorem UW{c:XA}(h:QZ c=0):(Zj c).length=4+A8 c.writes∧(Zj c).length<=594:=by
 obtain⟨_,h2,h3⟩:=(KR c).1 h;obtain⟨i1,i2⟩:=zX c.writes h3;unfold Zj;rw[T,Pj];omega
theorem MX{c:XA}(h:QZ c=0)(x:List UInt8):GH (Zj c++x)=F (c.writes,x)∧VW (Zj c++x)=c.turn.toNat:=by
 obtain⟨h1,h2,h3⟩:=(KR c).1 h;unfold GH Zj;rw[tB,Lu _ _ _ h2.2,Lb,Wj _ _ _ (by omega)];exact⟨P5 _ h3 _,rfl⟩
theorem MB{c:XA}(h:QZ c=0):YD (Zj c)=0∧JB (Zj c)=c:=by
 obtain⟨h1,h2,h3⟩:=(KR c).1 h;obtain⟨s1,s2⟩:=UW h;obtain⟨b1,b2⟩:=MX h [];rw[tV]at b1 b2;have hc:(⟨(VW (Zj c):Int),c.writes⟩:XA)=c:=by rw[b2,Int.toNat_of_nonneg (by omega)]
 have hd:YD (Zj c)=0:=by rw[YD,if_neg (by omega),if_neg (by omega),b1];show(if([]:List UInt8).length=0then QZ ⟨(VW (Zj c):Int),c.writes⟩else 4)=0;rw[if_pos (show([]:List UInt8).length=0from rfl),hc,h]
 refine⟨hd,?_⟩;rw[JB,if_pos hd,b1];exact hc
theorem Nq{b:List UInt8}(h:YD b=0):QZ (JB b)=0∧Zj (JB b)=b:=by
 have hC:JB b=(match GH b with|F (ws,_)=>⟨(VW b:Int),ws⟩|none=>Zl):=by rw[JB,if_pos h]
 rw[YD]at h;by_cases h1:4000<b.length;·rw[if_pos h1]at h;omega
 rw[if_neg h1]at h;by_cases h2:b.length<4;·rw[if_pos h2]at h;omega
 rw[if_neg h2]at h;cases hb:GH b with|none=>rw[hb]at h;simp at h|some q=>obtain⟨ws,r⟩:=q;rw[hb]at h hC;have h:(if r.length=0then QZ ⟨(VW b:Int),ws⟩else 4)=0:=h;have hC:JB b=⟨(VW b:Int),ws⟩:=hC;by_cases hr:r.length=0;(·rw[if_pos hr]at h;obtain rfl:r=[]:=tD hr;rw[hC];refine⟨h,?_⟩;obtain⟨k1,k2,k3⟩:=(KR _).1 h;unfold GH at hb;obtain⟨e1,e2⟩:=vF _ hb;rw[tV]at e1;show UY ((VW b:Int)).toNat ws.length++ws.flatMap Yb=b;rw[<-e1,e2,rI];match b,h2 with|x0::x1::x2::x3::t,_=>show UY (65536*x0.toNat+256*x1.toNat+x2.toNat) x3.toNat++t=_;have a0:=x0.toNat_lt;have a1:=x1.toNat_lt;have a2:=x2.toNat_lt;have a3:=x3.toNat_lt;unfold UY;rw[show(65536*x0.toNat+256*x1.toNat+x2.toNat)/65536=x0.toNat by omega,show(65536*x0.toNat+256*x1.toNat+x2.toNat)/256%256=x1.toNat by omega,show(65536*x0.toNat+256*x1.toNat+x2.toNat)%256=x2.toNat by omega];simp);·rw[if_neg hr]at h;omega
def Fh(b:List UInt8):List UInt8:=tC (b.length/256)::tC (b.length%256)::b
theorem zH(b:List UInt8):(Fh b).length=b.length+2:=rfl
def ZA(D:List UInt8->List UInt8)(c:XA):List UInt8:=Fh (Zj c)++D (Fh (Zj c))
def Zi(r:List UInt8):Nat:=256*(r.getD 0 0).toNat+(r.getD 1 0).toNat
def XF(D:List UInt8->List UInt8)(r:List UInt8):Option (XA×List UInt8):=if r.length<6then H else if r.length<Zi r+6∨4000<Zi r+2then H else if D (r.take (Zi r+2))=(r.drop (Zi r+2)).take 4then(if YD ((r.drop 2).take (Zi r))=0then F (JB ((r.drop 2).take (Zi r)),r.drop (Zi r+6))else H)else H
theorem Ba{D:List UInt8->List UInt8}{r r2:List UInt8}{c:XA}(h:XF D r=F (c,r2)):∃m,6<=m∧m<=r.length∧r2=r.drop m∧QZ c=0:=by
 unfold XF at h;by_cases h1:r.length<6;·rw[if_pos h1]at h;cases h
 rw[if_neg h1]at h;by_cases h2:r.length<Zi r+6∨4000<Zi r+2;·rw[if_pos h2]at h;cases h
 rw[if_neg h2]at h;by_cases h3:D (r.take (Zi r+2))=(r.drop (Zi r+2)).take 4;·rw[if_pos h3]at h;by_cases h4:YD ((r.drop 2).take (Zi r))=0;(·rw[if_pos h4]at h;simp only[tP,sC]at h;obtain⟨rfl,rfl⟩:=h;exact⟨Zi r+6,by omega,by omega,rfl,(Nq h4).1⟩);·rw[if_neg h4]at h;cases h
 ·rw[if_neg h3]at h;cases h
theorem Ep{b:List UInt8}(h:b.length<65536)(x:List UInt8):Zi (Fh b++x)=b.length:=by
 show 256*(tC (b.length/256)).toNat+(tC (b.length%256)).toNat=b.length;simp only[pS];omega
theorem Pb{D:List UInt8->List UInt8}(hD:∀x,(D x).length=4)(c:XA):(ZA D c).length=(Zj c).length+6:=by
 unfold ZA;rw[T,hD,zH]
theorem C4{D:List UInt8->List UInt8}(hD:∀x,(D x).length=4){c:XA}(h:QZ c=0)(r:List UInt8):XF D (ZA D c++r)=F (c,r):=by
 obtain⟨s1,s2⟩:=UW h;obtain⟨d1,d2⟩:=MB h;have hl:=Pb hD c;have hz:Zi (ZA D c++r)=(Zj c).length:=by unfold ZA;rw[tB];exact Ep (by omega) _
 have ht:(ZA D c++r).take ((Zj c).length+2)=Fh (Zj c):=by unfold ZA;rw[tB];exact rM (zH _)
 have hd:(ZA D c++r).drop ((Zj c).length+2)=D (Fh (Zj c))++r:=by unfold ZA;rw[tB];exact rN (zH _)
 have hm:((ZA D c++r).drop 2).take (Zj c).length=Zj c:=by unfold ZA;rw[tB];exact rM rfl
 have he:(ZA D c++r).drop ((Zj c).length+6)=r:=rN hl;have hlen:(ZA D c++r).length=(Zj c).length+6+r.length:=by rw[T,hl]
 unfold XF;rw[if_neg (by omega),hz,if_neg (by omega),ht,hd,hm,he,if_pos (rM (hD _)).symm,if_pos d1,d2]
theorem A6{D:List UInt8->List UInt8}(hD:∀x,(D x).length=4){c:XA}(h:QZ c=0)(k:Nat)(hk:k<(ZA D c).length):XF D ((ZA D c).take k)=H:=by
 obtain⟨s1,s2⟩:=UW h;have hl:=Pb hD c;have hkl:((ZA D c).take k).length=k:=by simp;omega
 unfold XF;by_cases h6:k<6;·rw[if_pos (by omega)]
 ·(have hz:Zi ((ZA D c).take k)=(Zj c).length:=by(have hz:Zi (ZA D c++[])=(Zj c).length:=by unfold ZA;rw[tB];exact Ep (by omega) _);rw[tV]at hz;rw[<-hz];unfold Zi;simp only[List.getD_eq_getElem?_getD,pU];rw[if_pos (by omega),if_pos (by omega)]);rw[if_neg (by omega),hz,if_pos (by omega)]
def KA(D:List UInt8->List UInt8)(turn:Nat)(r:List UInt8):List XA×List UInt8:=match h:XF D r with|F (c,r2)=>if c.turn=(turn:Int)then(c::(KA D (turn+1) r2).1,(KA D (turn+1) r2).2)else([],r)|none=>([],r)termination_by r.length decreasing_by
 all_goals obtain⟨m,h1,h2,h3,_⟩:=Ba h;rw[h3,pY];omega
theorem If{D:List UInt8->List UInt8}{turn:Nat}{r r2:List UInt8}{c:XA}(h:XF D r=F (c,r2))(ht:c.turn=(turn:Int)):KA D turn r=(c::(KA D (turn+1) r2).1,(KA D (turn+1) r2).2):=by
 rw[KA];split;·next c' r' h'=>rw[h]at h';simp only[tP,sC]at h';obtain⟨rfl,rfl⟩:=h';rw[if_pos ht]
 ·next h'=>rw[h]at h';cases h'
theorem Hr{D:List UInt8->List UInt8}{turn:Nat}{r r2:List UInt8}{c:XA}(h:XF D r=F (c,r2))(ht:c.turn≠(turn:Int)):KA D turn r=([],r):=by
 rw[KA];split;·next c' r' h'=>rw[h]at h';simp only[tP,sC]at h';obtain⟨rfl,rfl⟩:=h';rw[if_neg ht]
 ·rfl
theorem Tq{D:List UInt8->List UInt8}{turn:Nat}{r:List UInt8}(h:XF D r=H):KA D turn r=([],r):=by
 rw[KA];split;·next c' r' h'=>rw[h]at h';cases h'
 ·rfl
theorem Wl(D:List UInt8->List UInt8):XF D []=H:=by
 unfold XF;rw[if_pos (by simp)]
def qE:Nat->List XA->Prop|_,[]=>True|t,c::cs=>c.turn=(t:Int)∧QZ c=0∧qE (t+1) cs
theorem qE.take:∀{t:Nat}{cs:List XA}(_:qE t cs)(j:Nat),qE t (cs.take j)|_,[],_,j=>by rw[oF];trivial|_,c::cs,_,0=>trivial|t,c::cs,h,j+1=>⟨h.1,h.2.1,qE.take h.2.2 j⟩
def QV(D:List UInt8->List UInt8)(cs:List XA):List UInt8:=cs.flatMap (ZA D)
theorem KM(D:List UInt8->List UInt8)(c:XA)(cs:List XA):QV D (c::cs)=ZA D c++QV D cs:=rH
theorem Vs(D:List UInt8->List UInt8)(a b:List XA):QV D (a++b)=QV D a++QV D b:=List.flatMap_append
theorem vX(D:List UInt8->List UInt8)(c:XA):QV D [c]=ZA D c:=by
 simp[QV]
def MY(D:List UInt8->List UInt8)(r:List UInt8):Nat:=r.length-(KA D 1 r).2.length
theorem Ch{D:List UInt8->List UInt8}(hD:∀x,(D x).length=4):∀{t:Nat}{cs:List XA}(_:qE t cs)(k:Nat),∃j,j<=cs.length∧KA D t ((QV D cs).take k)=(cs.take j,((QV D cs).take k).drop (QV D (cs.take j)).length)∧(QV D (cs.take j)).length<=k∧(QV D (cs.take j)).length<=(QV D cs).length∧(j<cs.length->k<(QV D (cs.take (j+1))).length)|t,[],_,k=>⟨0,by simp,by show KA D t (([]:List UInt8).take k)=_;rw[oF,Tq (Wl D)];simp[QV],by simp[QV],by simp[QV],fun h=>by simp at h⟩|t,c::cs,h,k=>by by_cases hk:k<(ZA D c).length;(·refine⟨0,by simp,?_,by simp[QV],by simp[QV],fun _=>?_⟩;(·rw[KM,r7 (by omega),Tq (A6 hD h.2.1 k hk)];simp[QV]);·show k<(QV D [c]).length;rw[vX];exact hk);·obtain⟨j,h1,h2,h3,h4,h5⟩:=Ch hD h.2.2 (k-(ZA D c).length);(have ht:(QV D (c::cs)).take k=ZA D c++(QV D cs).take (k-(ZA D c).length):=by rw[KM,List.take_append,pG (by omega)]);refine⟨j+1,by simp;omega,?_,?_,?_,fun hj=>?_⟩;(·rw[ht,If (C4 hD h.2.1 _) h.1,h2,sG,KM];rw[T,<-List.drop_drop,rN rfl]);(·rw[sG,KM,T];omega);(·rw[sG,KM,KM,T,T];omega);·have:=h5 (by simpa using hj);rw[sG,KM,T];omega
theorem UQ(D:List UInt8->List UInt8)(cs:List XA)(i j:Nat)(h:i<=j):(QV D (cs.take i)).length<=(QV D (cs.take j)).length:=by
 have:cs.take i=(cs.take j).take i:=by rw[List.take_take,oD h]
 rw[this];conv=>rhs;rw[<-tE i (cs.take j),Vs]
 rw[T];omega
theorem T6{D:List UInt8->List UInt8}{cs:List XA}{k j i:Nat}(hi:i<=cs.length)(hj:j<cs.length->k<(QV D (cs.take (j+1))).length)(hk:(QV D (cs.take i)).length<=k):i<=j:=by
 by_cases h:i<=j;·exact h
 ·have:=UQ D cs (j+1) i (by omega);have:=hj (by omega);omega
theorem Ej(t:PL)(p:Pr)(h:∀q∈t,(1<=q.1.length∧q.1.length<=16)∧q.2.length<=32)(hp:(1<=p.1.length∧p.1.length<=16)∧p.2.length<=32):∀q∈J8 t p,(1<=q.1.length∧q.1.length<=16)∧q.2.length<=32:=by
 intro q hq;rcases Nz t p q hq with rfl|hq;·exact hp
 ·exact h q hq
theorem SR:∀(t:PL)(p:Pr)(k:Nat),k<=t.length->(∀j,j<k->YH (t.getD j ([],[])).1 p.1=O)->(k<t.length->YH (t.getD k ([],[])).1 p.1=V)->J8 t p=if k<t.length∧(t.getD k ([],[])).1=p.1then t.set k p else t.take k++([p]++t.drop k)|[],p,k,hk,_,_=>by(obtain rfl:k=0:=by simpa using hk);simp[J8]|q::r,p,0,_,_,h2=>by have h:=h2 (by simp);simp only[tX]at h;rw[J8,if_neg (by rw[h];simp)];by_cases e:q.1=p.1;(·rw[if_pos e,if_pos ⟨by simp,by simpa using e⟩];simp);·rw[if_neg e,if_neg (fun h=>e (by simpa using h.2))];simp|q::r,p,k+1,hk,h1,h2=>by have h:=h1 0 (by omega);simp only[tX]at h;rw[J8,if_pos h,SR r p k (by simpa using hk) (fun j hj=>by simpa using h1 (j+1) (by omega)) (fun hk=>by simpa using h2 (by simpa using hk))];by_cases e:k<r.length∧(r.getD k ([],[])).1=p.1;(·rw[if_pos e,if_pos ⟨by simpa using e.1,by simpa using e.2⟩];simp);·rw[if_neg e,if_neg (fun h=>e ⟨by simpa using h.1,by simpa using h.2⟩)];simp
theorem aO(t:PL)(p:Pr)(h:Zz t)(hp:(1<=p.1.length∧p.1.length<=16)∧p.2.length<=32)(hl:t.length<60):Kd t p=0∧Vh t p=J8 t p∧Zz (J8 t p):=by
 have h0:VN t p=0:=by rw[VN,if_pos ((YQ t).2 h)];exact(Jz p).2 hp
 have hlen:=bX t p;have h1:Kd t p=0:=by rw[Kd,if_pos h0,if_neg (by omega)]
 exact⟨h1,by rw[Vh,if_pos h1],⟨by omega,Ej t p h.pairs hp,vN t p h.rises⟩⟩
def I1(m:Nat)(l:FL):Prop:=∀n,(YU l n).length<=m
theorem LZ:I1 0 []:=fun n=>by
 rw[eH];simp
theorem cW{l:FL}{m:Nat}(h:ZQ l){w:Zf}(hw:QA w=0)(hs:I1 m l)(hm:m<60):GN l w=0:=by
 obtain⟨_,hk,hv⟩:=(XI w).1 hw;have hT:=KD h w.name;have hl:=hs w.name;unfold GN;by_cases hg:w.gone=O;·rw[if_pos hg];exact yK hT hk
 ·rw[if_neg hg]at hv⊢;exact(aO _ _ hT ⟨hk,hv⟩ (by omega)).1
theorem FQ{l:FL}{m:Nat}(h:ZQ l){w:Zf}(hw:QA w=0)(hs:I1 m l)(hm:m<60):Yw l w=if 8<(Zs l w).length then 11 else 0:=by
 rw[Yw,if_pos (cW h hw hs hm)]
theorem MO(l:FL)(w:Zf):(Zs l w).length<=l.length+1:=by
 unfold Zs;by_cases hn:(Ys l w).length=0;·rw[if_pos hn];have:=EU l w.name;omega
 ·rw[if_neg hn];exact Hc _ _
theorem uP:∀(ws:List Zf)(l:FL),ZQ l->Xe l ws=0->ZQ (Jp l ws)|[],l,h,_=>h|w::ws,l,h,he=>by rw[Xe]at he;by_cases hw:QA w=0;(·rw[if_pos hw]at he;by_cases h2:Yw l w=0;(·rw[if_pos h2]at he;exact uP ws _ (xU h hw h2) he);·rw[if_neg h2]at he;exact absurd he h2);·rw[if_neg hw]at he;exact absurd he hw
def Gq(l:FL)(n:List UInt8):Int:=if Q8 l=0then Qt n.length else Q8 l
theorem eO{l:FL}{n:List UInt8}(h:ZQ l)(hn:1<=n.length∧n.length<=8):Gq l n=0:=by
 rw[Gq,if_pos ((XJ l).2 h)];exact(Zn _).2 hn
theorem G8{l:FL}{n:List UInt8}(h:Gq l n=0):ZQ l∧(1<=n.length∧n.length<=8):=by
 unfold Gq at h;by_cases h0:Q8 l=0;·rw[if_pos h0]at h;exact⟨(XJ l).1 h0,(Zn _).1 h⟩
 ·rw[if_neg h0]at h;exact absurd h h0
def Uu(l:FL)(n k:List UInt8):Int:=if Gq l n=0then Xc (YU l n) k else Gq l n
def Kl(l:FL)(n k:List UInt8):Bool:=if Gq l n=0then F4 (YU l n) k else V
def Km(l:FL)(n k:List UInt8):List UInt8:=if Gq l n=0then Tr (YU l n) k else[]
theorem Su{l:FL}(h:ZQ l)(n k:List UInt8)(hn:1<=n.length∧n.length<=8)(hk:1<=k.length∧k.length<=16):Uu l n k=0∧Kl l n k=(qZ (YU l n) k).isSome∧Km l n k=(qZ (YU l n) k).getD []:=by
 have h0:=eO h hn;have hE:=yK (KD h n) hk;refine⟨by rw[Uu,if_pos h0,hE],by rw[Kl,if_pos h0,F4,hE];rfl,by rw[Km,if_pos h0,Tr,if_pos hE]⟩
def Yz(l:FL)(n f t:List UInt8):Int:=if Gq l n=0then Yx (YU l n) f t else Gq l n
def Kg(l:FL)(n f t:List UInt8):PL:=if Gq l n=0then KO (YU l n) f t else[]
structure Rq where
  kind : Int
  name : List UInt8
  key : List UInt8
  last : List UInt8
  value : List UInt8
def VT:Rq:=⟨0,[],[],[],[]⟩
def QW(k:Int):Bool:=tI (2<=k∧k<=5)||tI (k=8)
def yB(r:Rq):Int:=if QW r.kind=O then(if Qt r.name.length=0then(if Qo r.key.length=0then(if r.kind=3then Qo r.last.length else 0)else Qo r.key.length)else Qt r.name.length)else 0
def Rl(r:Rq):Int:=if QW r.kind=V∧0<r.name.length+r.key.length then 4 else if(r.kind≠3∧0<r.last.length)∨(r.kind≠4∧0<r.value.length)then 4 else 0
def Ye(r:Rq):Int:=if 1<=r.kind∧r.kind<=8then(if yB r=0then(if 32<r.value.length then 1 else Rl r)else yB r)else 5
structure Yf(r:Rq):Prop where kind:1<=r.kind∧r.kind<=8name:QW r.kind=O->1<=r.name.length∧r.name.length<=8key:QW r.kind=O->1<=r.key.length∧r.key.length<=16last:r.kind=3->1<=r.last.length∧r.last.length<=16value:r.value.length<=32noName:QW r.kind=V->r.name=[]noKey:QW r.kind=V->r.key=[]noLast:r.kind≠3->r.last=[]noValue:r.kind≠4->r.value=[]
theorem P6(r:Rq):yB r=0↔(QW r.kind=O->(1<=r.name.length∧r.name.length<=8)∧(1<=r.key.length∧r.key.length<=16)∧(r.kind=3->1<=r.last.length∧r.last.length<=16)):=by
 unfold yB;by_cases h:QW r.kind=O;·rw[if_pos h];by_cases h1:Qt r.name.length=0;(·rw[if_pos h1];by_cases h2:Qo r.key.length=0;(·rw[if_pos h2];by_cases h3:r.kind=3;(·rw[if_pos h3,Zu];exact⟨fun e _=>⟨(Zn _).1 h1,(Zu _).1 h2,fun _=>e⟩,fun e=>(e h).2.2 h3⟩);·rw[if_neg h3];exact⟨fun _ _=>⟨(Zn _).1 h1,(Zu _).1 h2,fun e=>absurd e h3⟩,fun _=>rfl⟩);·rw[if_neg h2];exact⟨fun e=>absurd e h2,fun e=>(Zu _).2 (e h).2.1⟩);·rw[if_neg h1];exact⟨fun e=>absurd e h1,fun e=>(Zn _).2 (e h).1⟩
 ·rw[if_neg h];exact⟨fun _ e=>absurd e h,fun _=>rfl⟩
theorem He{l:List UInt8}(h:¬0<l.length):l=[]:=tD (by
 omega)
theorem Ah(r:Rq):Rl r=0↔(QW r.kind=V->r.name=[]∧r.key=[])∧(r.kind≠3->r.last=[])∧(r.kind≠4->r.value=[]):=by
 unfold Rl;by_cases h1:QW r.kind=V∧0<r.name.length+r.key.length;·rw[if_pos h1];refine⟨fun e=>(by cases e),fun e=>?_⟩;have:=e.1 h1.1;rw[this.1,this.2]at h1;simp at h1
 ·rw[if_neg h1];by_cases h2:(r.kind≠3∧0<r.last.length)∨(r.kind≠4∧0<r.value.length);(·rw[if_pos h2];refine⟨fun e=>(by cases e),fun e=>?_⟩;rcases h2 with h2|h2;(·rw[e.2.1 h2.1]at h2;simp at h2);·rw[e.2.2 h2.1]at h2;simp at h2);·rw[if_neg h2];refine⟨fun _=>⟨fun h=>?_,fun h=>He fun e=>h2 (.inl ⟨h,e⟩),fun h=>He fun e=>h2 (.inr ⟨h,e⟩)⟩,fun _=>rfl⟩;have hz:¬0<r.name.length+r.key.length:=fun e=>h1 ⟨h,e⟩;exact⟨He (by omega),He (by omega)⟩
theorem Yd(r:Rq):Ye r=0↔Yf r:=by
 unfold Ye;by_cases h0:1<=r.kind∧r.kind<=8;·rw[if_pos h0];by_cases h1:yB r=0;(·rw[if_pos h1];have hp:=(P6 r).1 h1;by_cases h2:32<r.value.length;(·rw[if_pos h2];exact⟨fun e=>(by cases e),fun e=>by have:=e.value;omega⟩);·rw[if_neg h2,Ah];refine⟨fun⟨e1,e2,e3⟩=>⟨h0,fun h=>(hp h).1,fun h=>(hp h).2.1,fun h=>(hp (by rw[h];decide)).2.2 h,by omega,fun h=>(e1 h).1,fun h=>(e1 h).2,e2,e3⟩,fun e=>⟨fun h=>⟨e.noName h,e.noKey h⟩,e.noLast,e.noValue⟩⟩);·rw[if_neg h1];refine⟨fun e=>absurd e h1,fun e=>(P6 r).2 fun h=>⟨e.name h,e.key h,e.last⟩⟩
 ·rw[if_neg h0];exact⟨fun e=>(by cases e),fun e=>absurd e.kind h0⟩
def Xl(c:Bool)(p:List UInt8):List UInt8:=if c=O then XM p else[]
def Jh(c:Bool)(r:List UInt8):Option (List UInt8×List UInt8):=if c=O then Zt r else F ([],r)
theorem xX(c:Bool)(p r:List UInt8)(h:c=O->p.length<256)(h0:c=V->p=[]):Jh c (Xl c p++r)=F (p,r):=by
 cases c with|true=>exact Vi p r (h rfl)|false=>rw[h0 rfl];rfl
theorem VE{c:Bool}{r p r2:List UInt8}(h:Jh c r=F (p,r2)):r=Xl c p++r2:=by
 cases c with|true=>exact V9 h|false=>(obtain⟨rfl,rfl⟩:[]=p∧r=r2:=by simpa[Jh]using h);rfl
theorem yM{c:Bool}{r p r2:List UInt8}(h:Jh c r=F (p,r2))(x:List UInt8):Jh c (r++x)=F (p,r2++x):=by
 cases c with|true=>exact Bj h x|false=>(obtain⟨rfl,rfl⟩:[]=p∧r=r2:=by simpa[Jh]using h);rfl
theorem Hp{c:Bool}{r p r2:List UInt8}(h:Jh c r=F (p,r2))(hc:c=V):p=[]:=by
 subst hc;have:[]=p∧r=r2:=by simpa[Jh]using h
 exact this.1.symm
def qV(r:Rq):List UInt8:=Xl (QW r.kind) r.name++(Xl (QW r.kind) r.key++(Xl (tI (r.kind=3)) r.last++Xl (tI (r.kind=4)) r.value))
def JH(r:Rq):List UInt8:=tC r.kind.toNat::qV r
def Ve(k:Int)(n q l r:List UInt8):Option (Rq×List UInt8):=match Jh (tI (k=4)) r with|F (v,r2)=>F (⟨k,n,q,l,v⟩,r2)|none=>H
def Vf(k:Int)(n q r:List UInt8):Option (Rq×List UInt8):=match Jh (tI (k=3)) r with|F (l,r2)=>Ve k n q l r2|none=>H
def Vd(k:Int)(n r:List UInt8):Option (Rq×List UInt8):=match Jh (QW k) r with|F (q,r2)=>Vf k n q r2|none=>H
def X9(k:Int)(r:List UInt8):Option (Rq×List UInt8):=match Jh (QW k) r with|F (n,r2)=>Vd k n r2|none=>H
theorem Eu{r:Rq}(h:Yf r)(x:List UInt8):X9 r.kind (qV r++x)=F (r,x):=by
 have e1:=xX (QW r.kind) r.name (Xl (QW r.kind) r.key++(Xl (tI (r.kind=3)) r.last++(Xl (tI (r.kind=4)) r.value++x))) (fun e=>by have:=h.name e;omega) h.noName;have e2:=xX (QW r.kind) r.key (Xl (tI (r.kind=3)) r.last++(Xl (tI (r.kind=4)) r.value++x)) (fun e=>by have:=h.key e;omega) h.noKey;have e3:=xX (tI (r.kind=3)) r.last (Xl (tI (r.kind=4)) r.value++x) (fun e=>by have:=h.last (by simpa using e);omega) (fun e=>h.noLast (by simpa using e));have e4:=xX (tI (r.kind=4)) r.value x (fun _=>by have:=h.value;omega) (fun e=>h.noValue (by simpa using e));rw[qV,tB,tB,tB,X9,e1];show Vd _ _ _=_;rw[Vd,e2];show Vf _ _ _ _=_;rw[Vf,e3];show Ve _ _ _ _ _=_;rw[Ve,e4]
theorem kC{k:Int}{b x:List UInt8}{r:Rq}(h:X9 k b=F (r,x)):r.kind=k∧∃r1 r2 r3,Jh (QW k) b=F (r.name,r1)∧Jh (QW k) r1=F (r.key,r2)∧Jh (tI (k=3)) r2=F (r.last,r3)∧Jh (tI (k=4)) r3=F (r.value,x):=by
 rw[X9]at h;match h1:Jh (QW k) b with|none=>rw[h1]at h;cases h|F (n,r1)=>rw[h1]at h;replace h:Vd k n r1=F (r,x):=h;rw[Vd]at h;match h2:Jh (QW k) r1 with|none=>rw[h2]at h;cases h|F (q,r2)=>rw[h2]at h;replace h:Vf k n q r2=F (r,x):=h;rw[Vf]at h;match h3:Jh (tI (k=3)) r2 with|none=>rw[h3]at h;cases h|F (l,r3)=>rw[h3]at h;replace h:Ve k n q l r3=F (r,x):=h;rw[Ve]at h;match h4:Jh (tI (k=4)) r3 with|none=>rw[h4]at h;cases h|F (v,r4)=>rw[h4]at h;(obtain⟨rfl,rfl⟩:(⟨k,n,q,l,v⟩:Rq)=r∧r4=x:=by simpa using h);exact⟨rfl,r1,r2,r3,rfl,h2,h3,h4⟩
theorem aT{k:Int}{b r1 r2 r3 x n q l v:List UInt8}(h1:Jh (QW k) b=F (n,r1))(h2:Jh (QW k) r1=F (q,r2))(h3:Jh (tI (k=3)) r2=F (l,r3))(h4:Jh (tI (k=4)) r3=F (v,x)):X9 k b=F (⟨k,n,q,l,v⟩,x):=by
 rw[X9,h1];show Vd _ _ _=_;rw[Vd,h2];show Vf _ _ _ _=_;rw[Vf,h3];show Ve _ _ _ _ _=_;rw[Ve,h4]
theorem F6{k:Int}{b x:List UInt8}{r:Rq}(h:X9 k b=F (r,x)):b=qV r++x∧r.kind=k:=by
 obtain⟨hk,r1,r2,r3,h1,h2,h3,h4⟩:=kC h;refine⟨?_,hk⟩;rw[qV,hk,VE h1,VE h2,VE h3,VE h4];simp[tB]
theorem LM{k:Int}{b y:List UInt8}{r:Rq}(h:X9 k b=F (r,y))(x:List UInt8):X9 k (b++x)=F (r,y++x):=by
 obtain⟨hk,r1,r2,r3,h1,h2,h3,h4⟩:=kC h;have:=aT (yM h1 x) (yM h2 x) (yM h3 x) (yM h4 x);rw[this,<-hk]
def Uq(b:List UInt8):Int:=((b.getD 0 0).toNat:Int)
def QL(b:List UInt8):Int:=if 4000<b.length then 1 else if b.length=0then 14 else if 1<=Uq b∧Uq b<=8then(match X9 (Uq b) (b.drop 1)with|none=>14|F (r,x)=>if x.length=0then Ye r else 4)else 5
def Qu(b:List UInt8):Rq:=if QL b=0then(match X9 (Uq b) (b.drop 1)with|F (r,_)=>r|none=>VT)else VT
theorem EF{r:Rq}(h:Yf r)(x:List UInt8):Uq (JH r++x)=r.kind∧(JH r++x).drop 1=qV r++x:=by
 have h0:=h.kind;refine⟨?_,rfl⟩;show(((tC r.kind.toNat).toNat:Nat):Int)=r.kind;simp;omega
theorem KY(c:Bool)(p:List UInt8):(Xl c p).length<=p.length+1:=by
 cases c with|true=>exact sA _|false=>exact Nat.zero_le _
theorem FN{r:Rq}(h:Yf r):(JH r).length<=78∧1<=(JH r).length:=by
 have l1:=KY (QW r.kind) r.name;have l2:=KY (QW r.kind) r.key;have l3:=KY (tI (r.kind=3)) r.last;have l4:=KY (tI (r.kind=4)) r.value;have k1:r.name.length<=8:=by by_cases e:QW r.kind=O;(·exact(h.name e).2);·rw[h.noName (by simpa using e)];simp
 have k2:r.key.length<=16:=by by_cases e:QW r.kind=O;(·exact(h.key e).2);·rw[h.noKey (by simpa using e)];simp
 have k3:r.last.length<=16:=by by_cases e:r.kind=3;(·exact(h.last e).2);·rw[h.noLast e];simp
 have k4:=h.value;have e:(JH r).length=1+(Xl (QW r.kind) r.name).length+(Xl (QW r.kind) r.key).length+(Xl (tI (r.kind=3)) r.last).length+(Xl (tI (r.kind=4)) r.value).length:=by rw[JH,qV,rX,T,T,T];omega
 omega
theorem DX{r:Rq}(h:Yf r):QL (JH r)=0∧Qu (JH r)=r:=by
 have hl:=FN h;obtain⟨e1,e2⟩:=EF h [];rw[tV]at e1 e2;have e3:=Eu h [];have e:QL (JH r)=0:=by rw[QL,if_neg (by omega),if_neg (by omega),e1,if_pos h.kind,e2,e3];show(if([]:List UInt8).length=0then Ye r else 4)=0;rw[if_pos (by simp)];exact(Yd r).2 h
 refine⟨e,?_⟩;rw[Qu,if_pos e,e1,e2,e3]
theorem f7{r:Rq}(h:Yf r)(k:Nat)(hk:k<(JH r).length):QL ((JH r).take k)=14:=by
 have hl2:=FN h;have hlen:((JH r).take k).length=k:=by rw[List.length_take];omega
 rw[QL,if_neg (by omega)];by_cases h0:k=0;·rw[if_pos (by omega)]
 ·rw[if_neg (by omega)];have hsp:(JH r).take k++(JH r).drop k=JH r:=tE _ _;(have hkd:Uq ((JH r).take k)=r.kind:=by obtain⟨e1,_⟩:=EF h [];rw[tV]at e1;rw[<-e1];match k,h0 with|k+1,_=>rfl);rw[hkd,if_pos h.kind];match hD:X9 r.kind (((JH r).take k).drop 1)with|none=>rfl|F (r',y)=>have hm:=LM hD ((JH r).drop k);(have hd:((JH r).take k).drop 1++(JH r).drop k=qV r:=by match k,h0 with|k+1,_=>show(qV r).take k++(qV r).drop k=qV r;exact tE _ _);rw[hd]at hm;have hb:=Eu h [];rw[tV,hm]at hb;(have he:y++(JH r).drop k=[]:=by have:=congrArg (fun o=>o.map Prod.snd) hb;simpa using this);have:=congrArg List.length he;rw[T,pY]at this;simp at this;omega
theorem YK{b:List UInt8}(h:QL b=0):Ye (Qu b)=0∧JH (Qu b)=b:=by
 have h':=h;rw[QL]at h;by_cases h1:4000<b.length;·rw[if_pos h1]at h;cases h
 ·rw[if_neg h1]at h;by_cases h2:b.length=0;(·rw[if_pos h2]at h;cases h);·rw[if_neg h2]at h;by_cases h3:1<=Uq b∧Uq b<=8;(·rw[if_pos h3]at h;match hD:X9 (Uq b) (b.drop 1)with|none=>rw[hD]at h;cases h|F (r,x)=>rw[hD]at h;replace h:(if x.length=0then Ye r else 4)=0:=h;by_cases hx:x.length=0;(·rw[if_pos hx]at h;(have hr:Qu b=r:=by rw[Qu,if_pos h',hD]);rw[hr];refine⟨h,?_⟩;obtain⟨f1,f2⟩:=F6 hD;rw[tD hx,tV]at f1;rw[JH,<-f1,f2];match b,h2 with|c::b,_=>show tC ((c.toNat:Nat):Int).toNat::b=c::b;simp);·rw[if_neg hx]at h;cases h);·rw[if_neg h3]at h;cases h
theorem yL{b:List UInt8}(h:QL b≠0):Qu b=VT:=by
 rw[Qu,if_neg h]
def Ug(r:Rq):Int:=if Ye r=0then(if r.kind=2∨r.kind=3then 0 else 7)else Ye r
def Zh(r:Rq):Rd:=if Ug r=0then⟨r.name,r.key,tI (r.kind=3),r.last⟩else Zg
def YN(r:Rq):Int:=if Ye r=0then(if r.kind=4∨r.kind=5then 0 else 7)else Ye r
def ZW(r:Rq):Zf:=if YN r=0then⟨r.name,r.key,r.value,tI (r.kind=5)⟩else Qp
theorem Ot{r:Rq}(h:Ug r=0):Xq (Zh r)=0:=by
 have h':=h;unfold Ug at h;by_cases h0:Ye r=0;·rw[if_pos h0]at h;have ho:=(Yd r).1 h0;by_cases h1:r.kind=2∨r.kind=3;(·(have hn:QW r.kind=O:=by rcases h1 with h1|h1<;>rw[h1]<;>decide);rw[Zh,if_pos h',RY];refine⟨ho.name hn,ho.key hn,?_⟩;show if tI (r.kind=3)=O then _ else _;by_cases h3:r.kind=3;(·rw[if_pos (by simpa using h3)];exact ho.last h3);·rw[if_neg (by simpa using h3)];exact ho.noLast h3);·rw[if_neg h1]at h;cases h
 ·rw[if_neg h0]at h;exact absurd h h0
theorem Ee{r:Rq}(h:YN r=0):QA (ZW r)=0:=by
 have h':=h;unfold YN at h;by_cases h0:Ye r=0;·rw[if_pos h0]at h;have ho:=(Yd r).1 h0;by_cases h1:r.kind=4∨r.kind=5;(·(have hn:QW r.kind=O:=by rcases h1 with h1|h1<;>rw[h1]<;>decide);rw[ZW,if_pos h',XI];refine⟨ho.name hn,ho.key hn,?_⟩;show if tI (r.kind=5)=O then _ else _;by_cases h3:r.kind=5;(·rw[if_pos (by simpa using h3)];exact ho.noValue (by omega));·rw[if_neg (by simpa using h3)];exact ho.value);·rw[if_neg h1]at h;cases h
 ·rw[if_neg h0]at h;exact absurd h h0
theorem El{r:Rq}(h:Yf r):Ug r=(if r.kind=2∨r.kind=3then 0 else 7)∧YN r=(if r.kind=4∨r.kind=5then 0 else 7):=by
 have:=(Yd r).2 h;exact⟨by rw[Ug,if_pos this],by rw[YN,if_pos this]⟩
def IF(l:List Ac):List UInt8:=l.flatMap fun a=>gS a++[10]
def Ua:Nat->List Ac->Option (Nat×Int)|_,[]=>H|n,a::l=>if YZ a=0then Ua (n+1) l else F (n,YZ a)
def V2(l:List Ac):Int:=if 100000<l.length then 1 else match Ua 0 l with|none=>0|F (_,e)=>e
def PH(l:List Ac):Nat:=if 100000<l.length then 0 else match Ua 0 l with|none=>0|F (i,_)=>i
def PJ(l:List Ac):List UInt8:=if V2 l=0then IF l else[]
theorem EG:∀(l:List Ac)(n:Nat),Ua n l=H↔∀a∈l,YP a|[],_=>by simp[Ua]|a::l,n=>by rw[Ua];by_cases ha:YZ a=0;(·rw[if_pos ha,EG l (n+1)];simp only[tS,forall_eq_or_imp];exact⟨fun h=>⟨(kJ a).1 ha,h⟩,fun h=>h.2⟩);·rw[if_neg ha];exact⟨fun h=>(by cases h),fun h=>absurd ((kJ a).2 (h a (by simp))) ha⟩
theorem Ly(l:List Ac)(m:Nat)(hm:m<l.length):Ua m (l.drop m)=if YZ (l.getD m UH)=0then Ua (m+1) (l.drop (m+1))else F (m,YZ (l.getD m UH)):=by
 rw[sD hm,Ua,show l[m]=l.getD m UH by simp[hm]]
theorem gW{l:List Ac}(h:∀a∈l,YP a)(hl:l.length<=100000):V2 l=0∧PH l=0∧PJ l=IF l:=by
 have hb:=(EG l 0).2 h;have he:V2 l=0:=by rw[V2,if_neg (by omega),hb]
 exact⟨he,by rw[PH,if_neg (by omega),hb],by rw[PJ,if_pos he]⟩
theorem Lj{l:List Ac}(h:100000<l.length):V2 l=1∧PH l=0∧PJ l=[]:=by
 have e:V2 l=1:=by rw[V2,if_pos h]
 exact⟨e,by rw[PH,if_pos h],by rw[PJ,e,if_neg (by decide)]⟩
theorem F3{l:List Ac}(h:l.length<=100000)(hb:Ua 0 l=H):V2 l=0∧PH l=0∧PJ l=IF l:=by
 have e:V2 l=0:=by rw[V2,if_neg (by omega),hb]
 exact⟨e,by rw[PH,if_neg (by omega),hb],by rw[PJ,if_pos e]⟩
theorem OU{l:List Ac}(h:l.length<=100000){i:Nat}{e:Int}(hb:Ua 0 l=F (i,e))(he:e≠0):V2 l=e∧PH l=i∧PJ l=[]:=by
 have h1:V2 l=e:=by rw[V2,if_neg (by omega),hb]
 exact⟨h1,by rw[PH,if_neg (by omega),hb],by rw[PJ,h1,if_neg he]⟩
theorem cZ{l:List Ac}{m:Nat}(hm:m<l.length)(hb:Ua 0 l=Ua m (l.drop m)):(YZ (l.getD m UH)=0->Ua 0 l=Ua (m+1) (l.drop (m+1)))∧(YZ (l.getD m UH)≠0->Ua 0 l=F (m,YZ (l.getD m UH))):=by
 rw[hb,Ly l m hm];exact⟨fun h=>by rw[if_pos h],fun h=>by rw[if_neg h]⟩
def X0(w:I)(v:N)(r:Rq):Prop:=∃vn vk vl vv,v=pN #[tK sY r.kind,vn,vk,vl,vv]∧Qe w vn r.name∧Qe w vk r.key∧Qe w vl r.last∧Qe w vv r.value
theorem X0.grown{w w':I}{v:N}{r:Rq}(h:X0 w v r)(hg:J w w' H):X0 w' v r:=by
 obtain⟨vn,vk,vl,vv,rfl,h1,h2,h3,h4⟩:=h;exact⟨vn,vk,vl,vv,rfl,h1.grown hg,h2.grown hg,h3.grown hg,h4.grown hg⟩
theorem X0.agg{w:I}{v:N}{r:Rq}(h:X0 w v r):∃n1 n2 k1 k2 l1 l2 v1 v2,v=pN #[tK sY r.kind,tH n1 r.name.length n2,tH k1 r.key.length k2,tH l1 r.last.length l2,tH v1 r.value.length v2]:=by
 obtain⟨vn,vk,vl,vv,rfl,h1,h2,h3,h4⟩:=h;obtain⟨n1,n2,rfl⟩:=h1.shape;obtain⟨k1,k2,rfl⟩:=h2.shape;obtain⟨l1,l2,rfl⟩:=h3.shape;obtain⟨v1,v2,rfl⟩:=h4.shape;exact⟨n1,n2,k1,k2,l1,l2,v1,v2,rfl⟩
theorem X0.parts{w:I}{r:Rq}{x a b c d:N}(h:X0 w (pN #[x,a,b,c,d]) r):x=tK sY r.kind∧Qe w a r.name∧Qe w b r.key∧Qe w c r.last∧Qe w d r.value:=by
 obtain⟨vn,vk,vl,vv,e,h1,h2,h3,h4⟩:=h;simp only[Value.agg.injEq,Array.mk.injEq,List.cons.injEq,and_true]at e;obtain⟨rfl,rfl,rfl,rfl,rfl⟩:=e;exact⟨rfl,h1,h2,h3,h4⟩
theorem uG(w:I):X0 w (pN #[tK sY 0,tH H 0 0,tH H 0 0,tH H 0 0,tH H 0 0]) VT:=⟨_,_,_,_,rfl,QH w,QH w,QH w,QH w⟩
structure xT(r:Rq):Prop where kind:-9223372036854775808<=r.kind∧r.kind<=9223372036854775807name:r.name.length<=140737488355328key:r.key.length<=140737488355328last:r.last.length<=140737488355328value:r.value.length<=140737488355328
theorem kG{r:Rq}(h:Yf r):xT r:=by
 have h0:=h.kind;have h5:=h.value;have k1:r.name.length<=8:=by by_cases e:QW r.kind=O;(·exact(h.name e).2);·rw[h.noName (by simpa using e)];simp
 have k2:r.key.length<=16:=by by_cases e:QW r.kind=O;(·exact(h.key e).2);·rw[h.noKey (by simpa using e)];simp
 have k3:r.last.length<=16:=by by_cases e:r.kind=3;(·exact(h.last e).2);·rw[h.noLast e];simp
 exact⟨by omega,by omega,by omega,by omega,by omega⟩
theorem Qs{W w:I}{b:Nat}{x y z u s:N}{t:sW}(hg:J W w H)(h:W.heap[b]?=F (tJ #[x,y,z,u,s] t)):(w.cell? ⟨b,0,H⟩=F x∧w.cell? ⟨b,1,H⟩=F y∧w.cell? ⟨b,2,H⟩=F z∧w.cell? ⟨b,3,H⟩=F u∧w.cell? ⟨b,4,H⟩=F s)∧(w.frozen? ⟨b,0,H⟩=V∧w.frozen? ⟨b,1,H⟩=V∧w.frozen? ⟨b,2,H⟩=V∧w.frozen? ⟨b,3,H⟩=V∧w.frozen? ⟨b,4,H⟩=V)∧w.heap[b]?=F (tJ #[x,y,z,u,s] t):=by
 have hb:w.heap[b]?=F (tJ #[x,y,z,u,s] t):=by rw[hg.block b (tL.1 h).1 (by simp)];exact h
 refine⟨⟨?_,?_,?_,?_,?_⟩,⟨?_,?_,?_,?_,?_⟩,hb⟩;all_goals simp[tZ,sV,hb]
theorem Ym{w:I}{b i:Nat}{cs:Array N}{t:sW}{fz:Nat×Nat}{u:N}(h:w.heap[b]?=F (tJ cs t fz)):(tG w ⟨b,i,H⟩ u).heap[b]?=F (tJ (cs.setIfInBounds i u) t fz):=by
 simp only[tG,tQ,if_true,h,sO];rfl
theorem G7{w:I}{b c i:Nat}{o:Obj}{u:N}(h:w.heap[b]?=F o)(hne:b≠c):(tG w ⟨c,i,H⟩ u).heap[b]?=F o:=by
 simp only[tG,tQ];rw[if_neg (fun e=>hne e.symm)];exact h
abbrev Ij(w:I)(b:Nat)(x y z u s:N):I:=((((tG w ⟨b,0,H⟩ x).setCell ⟨b,1,H⟩ y).setCell ⟨b,2,H⟩ z).setCell ⟨b,3,H⟩ u).setCell ⟨b,4,H⟩ s
theorem uH{w:I}{b:Nat}{x y z u s:N}{t:sW}(h:w.heap[b]?=F (tJ #[x,y,z,u,s] t))(x' y' z' u' s':N):(Ij w b x' y' z' u' s').heap[b]?=F (tJ #[x',y',z',u',s'] t):=Ym (Ym (Ym (Ym (Ym h))))
theorem qO{w W:I}{b:Nat}(hg:J w W H)(hb:w.heap.size<=b)(x y z u s:N):J w (Ij W b x y z u s) H:=Qd (Qd (Qd (Qd (Qd hg _ hb _ _) _ hb _ _) _ hb _ _) _ hb _ _) _ hb _ _
theorem Lv(W:I)(b:Nat)(x y z u s:N):J W (Ij W b x y z u s) (F b):=Qg (Qg (Qg (Qg (Qg (Qb W (F b)) _ _) _ _) _ _) _ _) _ _
abbrev VR(w:I)(b:Nat)(x y z u:N):I:=(((tG w ⟨b,0,H⟩ x).setCell ⟨b,1,H⟩ y).setCell ⟨b,2,H⟩ z).setCell ⟨b,3,H⟩ u
theorem X6{w:I}{b:Nat}{x y z u:N}{t:sW}(h:w.heap[b]?=F (tJ #[x,y,z,u] t))(x' y' z' u':N):(VR w b x' y' z' u').heap[b]?=F (tJ #[x',y',z',u'] t):=Ym (Ym (Ym (Ym h)))
theorem Z9{w W:I}{b:Nat}(hg:J w W H)(hb:w.heap.size<=b)(x y z u:N):J w (VR W b x y z u) H:=Qd (Qd (Qd (Qd hg _ hb _ _) _ hb _ _) _ hb _ _) _ hb _ _
theorem Yk(W:I)(b:Nat)(x y z u:N):J W (VR W b x y z u) (F b):=Qg (Qg (Qg (Qg (Qb W (F b)) _ _) _ _) _ _) _ _
theorem Za.later{base:Nat}{w w':I}{v:N}{bs:List UInt8}(h:Za base w v bs){b:Nat}(hg:J w w' (F b))(hb:b<base):Za base w' v bs:=by
 refine h.grown hg (.inr fun e=>?_);have:=(h.lt b e).1;omega
def EA(i:Nat):Nat:=[0,0,3,7,11,3,0,0,3].getD i 0
def Vj(w:I):Prop:=∀i,i<9->w.cell? ⟨0,i,H⟩=F (tK rG ((EA i:Nat):Int))
theorem Vj.grown{w w':I}(h:Vj w)(hg:J w w' H):Vj w':=fun i hi=>hg.cell (h i hi) (by
 simp)
def QS(k:Int):Nat->Bool|0=>QW k|1=>QW k|2=>tI (k=3)|_=>tI (k=4)
theorem dB(k j:Nat)(hk:k<9)(hj:j<4):(bits BinOp.and rG ((EA k:Nat):Int) ((2^j:Nat):Int)!=0)=QS (k:Int) j:=(by
 decide+kernel:∀(k:Fin 9)(j:Fin 4),(bits BinOp.and rG ((EA k.1:Nat):Int) ((2^j.1:Nat):Int)!=0)=QS (k.1:Int) j.1) ⟨k,hk⟩ ⟨j,hj⟩
def xD(r:Rq):List UInt8:=if Ye r=0then JH r else[]
def IZ:Prop:=∀(w:I)(v:N)(r:Rq),Vj w->X0 w v r->xT r->rW tA 19 #[v] w fun e w'=>∃x,e=sP (pV #[x,tK sY (Ye r)])∧Qi 0 w' x (xD r)∧J w w' H
def Yq(w:I)(v:N)(r:Rd):Prop:=∃vn vk vl,v=pN #[vn,vk,pO r.wide,vl]∧Qe w vn r.name∧Qe w vk r.key∧Qe w vl r.last
theorem Yq.grown{w w':I}{v:N}{r:Rd}(h:Yq w v r)(hg:J w w' H):Yq w' v r:=by
 obtain⟨vn,vk,vl,rfl,h1,h2,h3⟩:=h;exact⟨vn,vk,vl,rfl,h1.grown hg,h2.grown hg,h3.grown hg⟩
theorem Yq.agg{w:I}{v:N}{r:Rd}(h:Yq w v r):∃na nc ka kc la lc,v=pN #[tH na r.name.length nc,tH ka r.key.length kc,pO r.wide,tH la r.last.length lc]:=by
 obtain⟨vn,vk,vl,rfl,h1,h2,h3⟩:=h;obtain⟨na,nc,rfl⟩:=h1.shape;obtain⟨ka,kc,rfl⟩:=h2.shape;obtain⟨la,lc,rfl⟩:=h3.shape;exact⟨na,nc,ka,kc,la,lc,rfl⟩
theorem Yq.parts{w:I}{r:Rd}{x y g z:N}(h:Yq w (pN #[x,y,g,z]) r):Qe w x r.name∧Qe w y r.key∧g=pO r.wide∧Qe w z r.last:=by
 obtain⟨vn,vk,vl,e,h1,h2,h3⟩:=h;simp only[Value.agg.injEq,Array.mk.injEq,List.cons.injEq,and_true]at e;obtain⟨rfl,rfl,rfl,rfl⟩:=e;exact⟨h1,h2,rfl,h3⟩
structure Pm(r:Rd):Prop where name:r.name.length<=140737488355328key:r.key.length<=140737488355328last:r.last.length<=140737488355328
structure kD where
  bit : Int
  right : Bool
  other : List UInt8
structure Dj where
  empty : Bool
  steps : List kD
  pair : Pr
def Sl:kD:=⟨0,V,[]⟩
def U3:Dj:=⟨V,[],([],[])⟩
instance:Inhabited kD:=⟨Sl⟩
instance:Inhabited Dj:=⟨U3⟩
def Ur(l:PL):Nat->Int|0=>999|1=>999|m+2=>if JG (l.getD 0 ([],[])).1 (l.getD (m+1) ([],[])).1<Ur l (m+1)then JG (l.getD 0 ([],[])).1 (l.getD (m+1) ([],[])).1 else Ur l (m+1)
def Qw(l:PL):Int:=Ur l l.length
def Y1(l:PL)(b:Nat)(x:Bool):PL:=l.filter fun q=>ZN q.1 b==x
theorem Dw(l:PL)(b:Nat)(x:Bool):(Y1 l b x).length<=l.length:=sX _ _
theorem XY{l:PL}(h:Zz l)(b:Nat)(x:Bool):Zz (Y1 l b x):=⟨rC (Dw l b x) h.room,fun p hp=>h.pairs p (rY.1 hp).1,sR _ h.rises⟩
theorem DD{l:PL}(h:Zz l)(i j:Nat)(hij:i<j)(hj:j<l.length):0<=JG (l.getD i ([],[])).1 (l.getD j ([],[])).1:=by
 have hk:=UF l h.rises i j hij hj;have h1:=(h.pairs l[i] (sF (by omega))).1;have h2:=(h.pairs l[j] (sF hj)).1;rw[show l[i]=l.getD i ([],[])by simp[show i<l.length by omega]]at h1;rw[show l[j]=l.getD j ([],[])by simp[hj]]at h2;have:=Bs (l.getD i ([],[])).1 (l.getD j ([],[])).1 h1.2 h2.2;have hne:=eA hk;by_cases hp:JG (l.getD i ([],[])).1 (l.getD j ([],[])).1<0;·exact absurd (this.1 hp) hne
 ·omega
theorem Pv{l:PL}(h:Zz l):∀m,m<=l.length->0<=Ur l m∧(2<=m->Ur l m<=144)∧Ur l m<=999|0,_=>⟨by simp[Ur],by omega,by simp[Ur]⟩|1,_=>⟨by simp[Ur],by omega,by simp[Ur]⟩|m+2,hm=>by have ih:=Pv h (m+1) (by omega);have hp:=DD h 0 (m+1) (by omega) (by omega);have hr:=Py (l.getD 0 ([],[])).1 (l.getD (m+1) ([],[])).1;rw[Ur];by_cases hlt:JG (l.getD 0 ([],[])).1 (l.getD (m+1) ([],[])).1<Ur l (m+1);(·rw[if_pos hlt];omega);·rw[if_neg hlt];omega
theorem Yh{l:PL}(h:Zz l)(h2:2<=l.length):0<=Qw l∧Qw l<=144:=by
 have:=Pv h l.length (sA _);exact⟨this.1,this.2.1 h2⟩
theorem Rj{l:PL}(_h:Zz l):∀m,2<=m->m<=l.length->∃j,0<j∧j<m∧Ur l m=JG (l.getD 0 ([],[])).1 (l.getD j ([],[])).1|0,h,_=>by omega|1,h,_=>by omega|m+2,_,hm=>by rw[Ur];by_cases hlt:JG (l.getD 0 ([],[])).1 (l.getD (m+1) ([],[])).1<Ur l (m+1);(·rw[if_pos hlt];exact⟨m+1,by omega,by omega,rfl⟩);·rw[if_neg hlt];by_cases h0:m=0;(·subst h0;have hr:=Py (l.getD 0 ([],[])).1 (l.getD (0+1) ([],[])).1;simp only[Ur]at hlt;omega);·obtain⟨j,h1,h2,h3⟩:=Rj _h (m+1) (by omega) (by omega);exact⟨j,h1,by omega,h3⟩
theorem jO{l:PL}(h:Zz l)(h2:2<=l.length):∀x,(Y1 l (Qw l).toNat x).length<l.length:=by
 obtain⟨j,hj1,hj2,hj3⟩:=Rj h l.length h2 (sA _);have hr:=Yh h h2;have hd:ZN (l.getD 0 ([],[])).1 (Qw l).toNat≠ZN (l.getD j ([],[])).1 (Qw l).toNat:=by rcases JP (l.getD 0 ([],[])).1 (l.getD j ([],[])).1with⟨e,_⟩|⟨m,e,_,_,hd⟩;(·rw[<-hj3]at e;unfold Qw at hr;omega);·(have:(Qw l).toNat=m:=by unfold Qw;omega);rw[this];exact hd
 intro x;by_cases hlt:(Y1 l (Qw l).toNat x).length<l.length;·exact hlt
 ·(have he:(Y1 l (Qw l).toNat x).length=l.length:=by have:=Dw l (Qw l).toNat x;omega);have hall:=List.length_filter_eq_length_iff.1 he;have h0:=hall l[0] (sF (by omega));have hj:=hall l[j] (sF hj2);rw[show l[0]=l.getD 0 ([],[])by simp[show 0<l.length by omega]]at h0;rw[show l[j]=l.getD j ([],[])by simp[hj2]]at hj;simp only[beq_iff_eq]at h0 hj;exact absurd (h0.trans hj.symm) hd
def JF(l:PL)(b:Nat):Nat:=(l.takeWhile fun q=>!ZN q.1 b).length
theorem zW(l:PL):∀m j,0<j->j<m->m<=l.length->Ur l m<=JG (l.getD 0 ([],[])).1 (l.getD j ([],[])).1|0,j,_,h,_=>by omega|1,j,h0,h,_=>by omega|m+2,j,h0,h,hm=>by rw[Ur];by_cases hlt:JG (l.getD 0 ([],[])).1 (l.getD (m+1) ([],[])).1<Ur l (m+1);(·rw[if_pos hlt];by_cases e:j=m+1;(·subst e;exact oJ _);·have:=zW l (m+1) j h0 (by omega) (by omega);omega);·rw[if_neg hlt];by_cases e:j=m+1;(·subst e;omega);·exact zW l (m+1) j h0 (by omega) (by omega)
theorem vT{l:PL}(h:Zz l)(h2:2<=l.length)(j:Nat)(hj:j<l.length)(b:Nat)(hb:b<(Qw l).toNat):ZN (l.getD 0 ([],[])).1 b=ZN (l.getD j ([],[])).1 b:=by
 by_cases h0:j=0;·subst h0;rfl
 ·have hm:=zW l l.length j (by omega) hj (sA _);have hr:=Yh h h2;rcases JP (l.getD 0 ([],[])).1 (l.getD j ([],[])).1with⟨e,hs⟩|⟨m,e,hm1,hs,_⟩;(·exact hs b (by omega));·exact hs b (by unfold Qw at hb;omega)
theorem EX{l:PL}(h:Zz l)(h2:2<=l.length)(i j:Nat)(hij:i<j)(hj:j<l.length)(hi:ZN (l.getD i ([],[])).1 (Qw l).toNat=O):ZN (l.getD j ([],[])).1 (Qw l).toNat=O:=by
 have hk:=UF l h.rises i j hij hj;have hp:=DD h i j hij hj;rcases JP (l.getD i ([],[])).1 (l.getD j ([],[])).1with⟨e,_⟩|⟨m,e,hm,hs,hd⟩;·omega
 ·(have hge:(Qw l).toNat<=m:=by by_cases hlt:m<(Qw l).toNat;(·exact absurd ((vT h h2 i (by omega) m hlt).symm.trans (vT h h2 j hj m hlt)) hd);·omega);by_cases he:(Qw l).toNat=m;(·rw[he];have:=FO _ _ m hs hd;rw[this];exact hk);·rw[<-hs _ (by omega)];exact hi
theorem E0{l:PL}(h:Zz l)(h2:2<=l.length):ZN (l.getD 0 ([],[])).1 (Qw l).toNat=V∧ZN (l.getD (l.length-1) ([],[])).1 (Qw l).toNat=O:=by
 obtain⟨j,hj1,hj2,hj3⟩:=Rj h l.length h2 (sA _);have hr:=Yh h h2;have hk:=UF l h.rises 0 j hj1 hj2;rcases JP (l.getD 0 ([],[])).1 (l.getD j ([],[])).1with⟨e,_⟩|⟨m,e,hm,hs,hd⟩;·rw[<-hj3]at e;unfold Qw at hr;omega
 ·(have em:(Qw l).toNat=m:=by unfold Qw;omega);have ho:=FO _ _ m hs hd;(have hjt:ZN (l.getD j ([],[])).1 m=O:=by rw[ho];exact hk);refine⟨?_,?_⟩;(·rw[em];cases hx:ZN (l.getD 0 ([],[])).1 m with|false=>rfl|true=>exact absurd (hx.trans hjt.symm) hd);·by_cases hl:j=l.length-1;(·rw[<-hl,em];exact hjt);·exact EX h h2 j (l.length-1) (by omega) (by omega) (by rw[em];exact hjt)
theorem ER{l:PL}(h:Zz l)(h2:2<=l.length):JG (l.getD 0 ([],[])).1 (l.getD (l.length-1) ([],[])).1=Qw l:=by
 have hr:=Yh h h2;obtain⟨e1,e2⟩:=E0 h h2;rw[M7 _ _ (Qw l).toNat (by omega) (fun b hb=>vT h h2 _ (by omega) b hb) (by rw[e1,e2];simp)];omega
theorem Sn:∀(l:PL)(b j:Nat),j<JF l b->ZN (l.getD j ([],[])).1 b=V|[],b,j,h=>by simp[JF]at h|p::r,b,j,h=>by cases hk:ZN p.1 b with|true=>simp[JF,hk]at h|false=>cases j with|zero=>simpa using hk|succ j=>have:=Sn r b j (by unfold JF at h⊢;rw[tM (p:=fun q:Pr=>!ZN q.1 b) (by simp[hk])]at h;simpa using h);simpa using this
theorem Cm:∀(l:PL)(b:Nat),JF l b<l.length->ZN (l.getD (JF l b) ([],[])).1 b=O|[],b,h=>by simp at h|p::r,b,h=>by cases hk:ZN p.1 b with|true=>simp[JF,hk]|false=>(have e:JF (p::r) b=JF r b+1:=by unfold JF;rw[tM (p:=fun q:Pr=>!ZN q.1 b) (by simp[hk])];simp);rw[e]at h⊢;have:=Cm r b (by simpa using h);simpa using this
theorem Gs{l:PL}(h:Zz l)(h2:2<=l.length)(j:Nat)(hj:j<l.length):ZN (l.getD j ([],[])).1 (Qw l).toNat=tI (JF l (Qw l).toNat<=j):=by
 by_cases hlt:j<JF l (Qw l).toNat;·rw[decide_eq_false (by omega)];exact Sn l _ j hlt
 ·rw[decide_eq_true (by omega)];have h0:=Cm l (Qw l).toNat (by omega);by_cases e:j=JF l (Qw l).toNat;(·rw[e];exact h0);·exact EX h h2 _ j (by omega) hj h0
theorem Ux{l:PL}(h:Zz l)(h2:2<=l.length):0<JF l (Qw l).toNat∧JF l (Qw l).toNat<l.length:=by
 obtain⟨e1,e2⟩:=E0 h h2;rw[Gs h h2 0 (by omega)]at e1;rw[Gs h h2 _ (by omega)]at e2;simp at e1 e2;omega
theorem jZ{l:PL}(h:Zz l)(h2:2<=l.length):Y1 l (Qw l).toNat V=l.take (JF l (Qw l).toNat):=by
 have hs:=Ux h h2;have hb:=fun j hj=>Gs h h2 j hj;generalize(Qw l).toNat=b at*;generalize JF l b=n at*;have e:l=l.take n++l.drop n:=(tE n l).symm;rw[Y1];conv=>lhs;rw[e]
 rw[sI,tN.2,sJ.2,tV];·intro q hq;obtain⟨j,hj,rfl⟩:=L.1 hq;(have hjn:n+j<l.length:=by simp at hj;omega);rw[sM,show l[n+j]=l.getD (n+j) ([],[])by simp[hjn],hb _ hjn];simp
 ·intro q hq;obtain⟨j,hj,rfl⟩:=L.1 hq;(have hjn:j<n:=by simp at hj;omega);rw[sE,show l[j]'(by omega)=l.getD j ([],[])by simp[show j<l.length by omega],hb _ (by omega)];simp[hjn]
theorem Pg{l:PL}(h:Zz l)(h2:2<=l.length):Y1 l (Qw l).toNat O=l.drop (JF l (Qw l).toNat):=by
 have hs:=Ux h h2;have hb:=fun j hj=>Gs h h2 j hj;generalize(Qw l).toNat=b at*;generalize JF l b=n at*;have e:l=l.take n++l.drop n:=(tE n l).symm;rw[Y1];conv=>lhs;rw[e]
 rw[sI,sJ.2,tN.2,pA];·intro q hq;obtain⟨j,hj,rfl⟩:=L.1 hq;(have hjn:n+j<l.length:=by simp at hj;omega);rw[sM,show l[n+j]=l.getD (n+j) ([],[])by simp[hjn],hb _ hjn];simp
 ·intro q hq;obtain⟨j,hj,rfl⟩:=L.1 hq;(have hjn:j<n:=by simp at hj;omega);rw[sE,show l[j]'(by omega)=l.getD j ([],[])by simp[show j<l.length by omega],hb _ (by omega)];simp[hjn]
def U(x:BitVec 64):Int:=(x.toNat:Int)
theorem yF(x:BitVec 64):sB 64 (U x)=x:=by
 unfold U;rw[pL];simp
theorem jQ(x:BitVec 64):rD.wrap (x.toNat:Int)=U x:=by
 rw[rU];unfold U;have:=x.isLt;omega
theorem Zp(x y:BitVec 64):bits .xor .u64 (U x) (U y)=U (x^^^y):=by
 show rD.wrap ((sB 64 (U x)^^^sB 64 (U y)).toNat:Int)=_;rw[yF,yF,jQ]
theorem Ev(x y:BitVec 64):bits .or .u64 (U x) (U y)=U (x|||y):=by
 show rD.wrap ((sB 64 (U x)|||sB 64 (U y)).toNat:Int)=_;rw[yF,yF,jQ]
theorem Kx(x y:BitVec 64):bits .andNot .u64 (U x) (U y)=U (x&&&~~~y):=by
 show rD.wrap ((sB 64 (U x)&&&~~~sB 64 (U y)).toNat:Int)=_;rw[yF,yF,jQ]
theorem JQ(x:BitVec 64)(k:Nat):rD.wrap (U x*2^k)=U (x<<<k):=by
 rw[rU];unfold U;rw[BitVec.toNat_shiftLeft,Nat.shiftLeft_eq];have e:((x.toNat:Int)*2^k)=((x.toNat*2^k:Nat):Int):=by simp
 rw[e];omega
theorem EW(x:BitVec 64)(k:Nat):U x/2^k=U (x>>>k):=by
 unfold U;rw[BitVec.toNat_ushiftRight,Nat.shiftRight_eq_div_pow];simp
theorem fW(k:Int)(h0:0<=k)(h:k<64):bits .and .u64 k 63=k:=by
 obtain⟨n,rfl⟩:=Int.eq_ofNat_of_zero_le h0;show rD.wrap ((sB 64 (n:Int)&&&sB 64 63).toNat:Int)=_;rw[pL,BitVec.toNat_and];have h1:(BitVec.ofNat 64 n).toNat=n:=by rw[BitVec.toNat_ofNat];omega
 have h2:(sB 64 63).toNat=2^6-1:=by decide
 rw[h1,h2,Nat.and_two_pow_sub_one_eq_mod,rU];omega
def zR(x:BitVec 64)(k:Nat):BitVec 64:=(x<<<k)|||(x>>>(64-k))
section
theorem SZ(x:BitVec 64)(k:Int)(h0:0<=k)(h:k<64)(w:I):rW tA 147 #[tK .u64 (U x),tK sY k] w fun e w'=>e=sP (tK .u64 (U (zR x k.toNat)))∧w'=w:=by
 have h63:=fW k h0 h;go_enter Tryz.func147,Tryz.ntmps147;go_wp2;go_ret;refine⟨?_,rfl⟩;rw[show(64-k).toNat=64-k.toNat by omega,JQ,EW,Ev];rfl
def J9(st:List (BitVec 64)):Array N:=(st.map fun x=>tK .u64 (U x)).toArray
structure XV (n : Nat) (w : I) (b : Nat) (st : List (BitVec 64)) : Prop where
  len : st.length = n
  blk : ∃ t, w.heap[b]? = F (tJ (J9 st) t (0, 0))
section
variable{n:Nat}{w:I}{b:Nat}{st:List (BitVec 64)}
theorem XV.cell(h:XV n w b st)(i:Nat)(hi:i<n):w.cell? ⟨b,i,H⟩=F (tK .u64 (U (st.getD i 0))):=by
 obtain⟨t,hb⟩:=h.blk;simp[tZ,hb,J9,sS,rK (show i<st.length by have:=h.len;omega)]
theorem XV.frozen(h:XV n w b st)(i:Nat):w.frozen? ⟨b,i,H⟩=V:=by
 obtain⟨t,hb⟩:=h.blk;simp[sV,hb]
theorem XV.lt(h:XV n w b st):b<w.heap.size:=by
 obtain⟨t,hb⟩:=h.blk;exact(tL.1 hb).1
theorem MN(st:List (BitVec 64))(i:Nat)(x:BitVec 64):(J9 st).setIfInBounds i (tK .u64 (U x))=J9 (st.set i x):=by
 simp[J9]
theorem XV.set(h:XV n w b st)(i:Nat)(x:BitVec 64):XV n (tG w ⟨b,i,H⟩ (tK .u64 (U x))) b (st.set i x):=by
 obtain⟨t,hb⟩:=h.blk;refine⟨by simp[h.len],t,?_⟩;simp only[tG,tQ,if_true,hb,sO];simp[MN]
theorem XV.setOther(h:XV n w b st)(c:Nat)(hc:b≠c)(i:Nat)(v:N):XV n (tG w ⟨c,i,H⟩ v) b st:=by
 obtain⟨t,hb⟩:=h.blk;exact⟨h.len,t,by rw[Below.heap_setCell _ _ _ _ hc];exact hb⟩
theorem XV.drewN(h:XV n w b st)(k:Nat):XV n (w.drewN k) b st:=⟨h.len,h.blk⟩
theorem XV.drew(h:XV n w b st):XV n w.drew b st:=⟨h.len,h.blk⟩
theorem XV.alloc(h:XV n w b st)(o:Obj):XV n (w.alloc o) b st:=by
 obtain⟨t,hb⟩:=h.blk;exact⟨h.len,t,by rw[Below.heap_alloc _ _ _ h.lt];exact hb⟩
theorem XV.grown(h:XV n w b st){w':I}{r:Option Nat}(hg:J w w' r)(hr:F b≠r):XV n w' b st:=by
 obtain⟨t,hb⟩:=h.blk;exact⟨h.len,t,by rw[hg.block b h.lt hr];exact hb⟩
theorem XV.new(w:I)(t:sW)(st:List (BitVec 64))(hl:st.length=n):XV n (w.alloc (tJ (J9 st) t)) w.heap.size st:=⟨hl,t,rJ w _⟩
end
abbrev St:=XV 25
def Sp(st:List (BitVec 64))(n:Nat):List (BitVec 64):=let a:=st.getD n 0;let b:=st.getD (n+1) 0;let c:=st.getD (n+2) 0;let d:=st.getD (n+3) 0;let e:=st.getD (n+4) 0;((((st.set n (a^^^(c&&&~~~b))).set (n+1) (b^^^(d&&&~~~c))).set (n+2) (c^^^(e&&&~~~d))).set (n+3) (d^^^(a&&&~~~e))).set (n+4) (e^^^(b&&&~~~a))
def Vz(st:List (BitVec 64)):Nat->List (BitVec 64)|0=>st|k+1=>Sp (Vz st k) (5*k)
theorem WU(w:I)(b:Nat)(st:List (BitVec 64))(h:St w b st):rW tA 125 #[.pointer (F ⟨b,0,H⟩)] w fun e w'=>e=sP (pV #[])∧St w' b (Vz st 5)∧J w w' (F b):=by
 go_enter Tryz.func125,Tryz.ntmps125;go_wp2;go_loopw[2](fun y wr=>∃k:Nat,k<=5∧y=tK sY ((5*k:Nat):Int)∧St wr b (Vz st k)∧J w wr (F b))(fun y _=>25-(intOf y).toNat);case atStart=>exact⟨0,by omega,rfl,h,Qb _ _⟩
 case round=>obtain⟨k,hk,rfl,hst,hg⟩:=hrel;by_cases hlt:k<5;(·generalize hn:5*k=n;have HN:Hid (5*k=n):=hn;clear hn;(have h25:n+4<25:=by have:=HN.out;omega);have hc:=hst.cell;have hf:=hst.frozen;have c0:=hc n (by omega);have c1:=hc (n+1) (by omega);have c2:=hc (n+2) (by omega);have c3:=hc (n+3) (by omega);have c4:=hc (n+4) (by omega);clear hc;generalize hS:Vz st k=S at*;have HS:Hid (Vz st k=S):=hS;clear hS;generalize hA:S.getD n 0=A at*;generalize hB:S.getD (n+1) 0=B at*;generalize hC:S.getD (n+2) 0=C at*;generalize hD:S.getD (n+3) 0=D at*;generalize hE:S.getD (n+4) 0=E at*;have HA:Hid (S.getD n 0=A):=hA;have HB:Hid (S.getD (n+1) 0=B):=hB;have HC:Hid (S.getD (n+2) 0=C):=hC;have HD:Hid (S.getD (n+3) 0=D):=hD;have HE:Hid (S.getD (n+4) 0=E):=hE;clear hA hB hC hD hE;(have i1:(n:Int)+4<25:=by omega);go_wp2;go_quiet(fail);go_wp2;go_roundw;(case rel=>refine⟨k+1,by omega,by have:=HN.out;congr 1;omega,?_,?_⟩;(·rw[Kx,Kx,Kx,Kx,Kx,Zp,Zp,Zp,Zp,Zp];(have e:Vz st (k+1)=((((S.set n (A^^^(C&&&~~~B))).set (n+1) (B^^^(D&&&~~~C))).set (n+2) (C^^^(E&&&~~~D))).set (n+3) (D^^^(A&&&~~~E))).set (n+4) (E^^^(B&&&~~~A)):=by simp only[Vz,Sp,HS.out,HN.out,HA.out,HB.out,HC.out,HD.out,HE.out]);rw[e];exact(((((hst.drewN nq).set n _).set (n+1) _).set (n+2) _).set (n+3) _).set (n+4) _);·exact Qg (Qg (Qg (Qg (Qg (Qr hg nq) n _) (n+1) _) (n+2) _) (n+3) _) (n+4) _);case measure=>simp[intOf];omega);·(obtain rfl:k=5:=by omega);go_wp2;go_end0;exact⟨rfl,hst,hg⟩
end
def A7(st:List (BitVec 64))(x:Nat):BitVec 64:=st.getD x 0^^^st.getD (x+5) 0^^^st.getD (x+10) 0^^^st.getD (x+15) 0^^^st.getD (x+20) 0
def U9(st:List (BitVec 64)):Nat->List (BitVec 64)|0=>[0,0,0,0,0]|k+1=>(U9 st k).set k (A7 st k)
def OZ(c:List (BitVec 64)):List (BitVec 64):=[c.getD 4 0^^^zR (c.getD 1 0) 1,c.getD 0 0^^^zR (c.getD 2 0) 1,c.getD 1 0^^^zR (c.getD 3 0) 1,c.getD 2 0^^^zR (c.getD 4 0) 1,c.getD 3 0^^^zR (c.getD 0 0) 1]
def Fq(d st:List (BitVec 64))(k:Nat):List (BitVec 64):=let y:=d.getD k 0;((((st.set k (st.getD k 0^^^y)).set (k+5) (st.getD (k+5) 0^^^y)).set (k+10) (st.getD (k+10) 0^^^y)).set (k+15) (st.getD (k+15) 0^^^y)).set (k+20) (st.getD (k+20) 0^^^y)
def yZ(d st:List (BitVec 64)):Nat->List (BitVec 64)|0=>st|k+1=>Fq d (yZ d st k) k
theorem OS(w:I)(b:Nat)(st:List (BitVec 64))(h:St w b st):rW tA 123 #[.pointer (F ⟨b,0,H⟩)] w fun e w'=>e=sP (pV #[])∧St w' b (yZ (OZ (U9 st 5)) st 5)∧J w w' (F b):=by
 have hbn:b≠w.heap.size:=Nat.ne_of_lt h.lt;have h0:=h;go_enter Tryz.func123,Tryz.ntmps123;go_wp2_with fail;go_loopw[6](fun i wr=>∃k:Nat,k<=5∧i=tK sY (k:Int)∧St wr b st∧XV 5 wr w.heap.size (U9 st k)∧J w wr (F b))(fun i _=>5-(intOf i).toNat);case atStart=>exact⟨0,by omega,rfl,h.alloc _,XV.new w 240 [0,0,0,0,0] rfl,QC (Qb _ _) _⟩
 case round=>obtain⟨k,hk,rfl,hst,hcl,hg⟩:=hrel;by_cases hlt:k<5;(·have c0:=hst.cell k (by omega);have c1:=hst.cell (k+5) (by omega);have c2:=hst.cell (k+10) (by omega);have c3:=hst.cell (k+15) (by omega);have c4:=hst.cell (k+20) (by omega);have d0:=hcl.cell k hlt;have hf:=hcl.frozen k;generalize hx0:st.getD k 0=x0 at*;generalize hx1:st.getD (k+5) 0=x1 at*;generalize hx2:st.getD (k+10) 0=x2 at*;generalize hx3:st.getD (k+15) 0=x3 at*;generalize hx4:st.getD (k+20) 0=x4 at*;(have HX:Hid (A7 st k=x0^^^x1^^^x2^^^x3^^^x4):=by show A7 st k=_;simp only[A7,hx0,hx1,hx2,hx3,hx4]);generalize hcc:U9 st k=cc at*;have HC:Hid (U9 st k=cc):=hcc;generalize hy:cc.getD k 0=y at*;clear hx0 hx1 hx2 hx3 hx4 hcc hy h;(have i1:(k:Int)+20<25:=by omega);(have i2:(k:Int)<5:=by omega);go_wp2_with fail;go_region;(all_goals go_wp2);go_roundw;(case rel=>rw[Zp,Zp,Zp,Zp];have hlt':=hst.lt;have hlt2:=hcl.lt;refine⟨k+1,by omega,by go_num,(hst.setOther _ hbn _ _).drew,?_,Qk (Qd hg _ (sA _) _ _)⟩;simp only[U9,HC.out,HX.out];exact(hcl.set k _).drew);case measure=>simp[intOf];omega);·(obtain rfl:k=5:=by omega);have e0:=hcl.cell 0 (by omega);have e1:=hcl.cell 1 (by omega);have e2:=hcl.cell 2 (by omega);have e3:=hcl.cell 3 (by omega);have e4:=hcl.cell 4 (by omega);generalize hcc:U9 st 5=cc at*;have HC:Hid (U9 st 5=cc):=hcc;generalize hx0:cc.getD 0 0=x0 at*;generalize hx1:cc.getD 1 0=x1 at*;generalize hx2:cc.getD 2 0=x2 at*;generalize hx3:cc.getD 3 0=x3 at*;generalize hx4:cc.getD 4 0=x4 at*;(have HD:Hid (OZ cc=[x4^^^zR x1 1,x0^^^zR x2 1,x1^^^zR x3 1,x2^^^zR x4 1,x3^^^zR x0 1]):=by show OZ cc=_;simp only[OZ,hx0,hx1,hx2,hx3,hx4]);clear hcc hx0 hx1 hx2 hx3 hx4 h;have hwr:=hcl.lt;go_upto_region 6with fail;go_cut[4](fun s4 wx=>s4=.pointer (F ⟨wr.heap.size,0,H⟩)∧St wx b st∧XV 5 wx wr.heap.size (OZ cc)∧J w wx (F b));(case first=>go_region_held3(fun w'=>w'.cell? ⟨w.heap.size,0,H⟩=F (tK .u64 (U x0))∧w'.cell? ⟨w.heap.size,1,H⟩=F (tK .u64 (U x1))∧w'.cell? ⟨w.heap.size,2,H⟩=F (tK .u64 (U x2))∧w'.cell? ⟨w.heap.size,3,H⟩=F (tK .u64 (U x3))∧w'.cell? ⟨w.heap.size,4,H⟩=F (tK .u64 (U x4)))(go_keep)(first|(go_at_call 147;refine(SZ _ (1:Int) (by omega) (by omega) _).mono ?_;rintro e w'⟨rfl,rfl⟩));all_goals(go_wp2_with fail;go_meet;case rel=>(rw[HD.out,Zp,Zp,Zp,Zp,Zp];exact⟨rfl,(hst.alloc _).drew,(XV.new wr 240 [x4^^^zR x1 1,x0^^^zR x2 1,x1^^^zR x3 1,x2^^^zR x4 1,x3^^^zR x0 1] rfl).drew,Qk (QC hg _)⟩)));case rest=>obtain⟨rfl,hst2,hd2,hg2⟩:=hcut;clear e0 e1 e2 e3 e4 hst hcl hg;(have hbw:b≠wr.heap.size:=by have:=h0.lt;omega);generalize hD:OZ cc=dd at*;have HDD:Hid (OZ cc=dd):=hD;clear hD HD;generalize hdn:wr.heap.size=db at*;clear hdn hwr;go_wp2_with fail;go_loopw[76](fun i wr=>∃k:Nat,k<=5∧i=tK sY (k:Int)∧St wr b (yZ dd st k)∧XV 5 wr db dd∧J w wr (F b))(fun i _=>5-(intOf i).toNat);(case atStart=>exact⟨0,by omega,rfl,hst2,hd2,hg2⟩);case round=>clear hst2 hd2 hg2;obtain⟨k,hk,rfl,hst,hd,hg⟩:=hrel;by_cases hlt:k<5;(·have c0:=hst.cell k (by omega);have c1:=hst.cell (k+5) (by omega);have c2:=hst.cell (k+10) (by omega);have c3:=hst.cell (k+15) (by omega);have c4:=hst.cell (k+20) (by omega);have d0:=hd.cell k hlt;have hf:=hst.frozen;generalize hS:yZ dd st k=S at*;have HS:Hid (yZ dd st k=S):=hS;generalize hy:dd.getD k 0=y at*;generalize hx0:S.getD k 0=x0 at*;generalize hx1:S.getD (k+5) 0=x1 at*;generalize hx2:S.getD (k+10) 0=x2 at*;generalize hx3:S.getD (k+15) 0=x3 at*;generalize hx4:S.getD (k+20) 0=x4 at*;(have HX:Hid (Fq dd S k=((((S.set k (x0^^^y)).set (k+5) (x1^^^y)).set (k+10) (x2^^^y)).set (k+15) (x3^^^y)).set (k+20) (x4^^^y)):=by show Fq dd S k=_;simp only[Fq,hy,hx0,hx1,hx2,hx3,hx4]);clear hS hy hx0 hx1 hx2 hx3 hx4;(have i1:(k:Int)+20<25:=by omega);(have i2:(k:Int)<5:=by omega);go_wp2_with fail;go_region;go_wp2_with fail;go_region;go_wp2_with fail;go_region;go_wp2_with fail;go_region;go_wp2_with fail;go_region;go_wp2_with fail;go_roundw;(case rel=>rw[Zp,Zp,Zp,Zp,Zp];refine⟨k+1,by omega,by go_num,?_,?_,?_⟩;(·simp only[yZ,HS.out,HX.out];exact(((((hst.set k _).set (k+5) _).set (k+10) _).set (k+15) _).set (k+20) _).drew.drew.drew.drew.drew);(·exact(((((hd.setOther b hbw.symm k _).setOther b hbw.symm (k+5) _).setOther b hbw.symm (k+10) _).setOther b hbw.symm (k+15) _).setOther b hbw.symm (k+20) _).drew.drew.drew.drew.drew);·exact Qk (Qk (Qk (Qk (Qk (Qg (Qg (Qg (Qg (Qg hg k _) (k+5) _) (k+10) _) (k+15) _) (k+20) _))))));case measure=>simp[intOf];omega);·(obtain rfl:k=5:=by omega);go_wp2;go_end0;refine⟨rfl,?_,hg⟩;rw[HC.out,HDD.out];exact hst
def Jw:List Nat:=[10,7,11,17,18,3,5,16,8,21,24,4,15,23,19,13,12,2,20,14,22,9,6,1]
def J4:List Nat:=[1,3,6,10,15,21,28,36,45,55,2,14,27,41,56,8,25,43,62,18,39,61,20,44]
def Jy:List (BitVec 64):=[0x0000000000000001,0x0000000000008082,0x800000000000808a,0x8000000080008000,0x000000000000808b,0x0000000080000001,0x8000000080008081,0x8000000000008009,0x000000000000008a,0x0000000000000088,0x0000000080008009,0x000000008000000a,0x000000008000808b,0x800000000000008b,0x8000000000008089,0x8000000000008003,0x8000000000008002,0x8000000000000080,0x000000000000800a,0x800000008000000a,0x8000000080008081,0x8000000000008080,0x0000000080000001,0x8000000080008008]
theorem bW(k:Nat)(h:k<24):Jw.getD k 0<25:=(by
 decide:∀k:Fin 24,Jw.getD k.1 0<25) ⟨k,h⟩
theorem Il(k:Nat)(h:k<24):J4.getD k 0<64:=(by
 decide:∀k:Fin 24,J4.getD k.1 0<64) ⟨k,h⟩
structure YA(w:I):Prop where nums:∀i,i<24->w.cell? ⟨2,i,H⟩=F (tK .u64 (U (Jy.getD i 0)))walk:∀i,i<24->w.cell? ⟨3,i,H⟩=F (tK sY ((Jw.getD i 0:Nat):Int))turns:∀i,i<24->w.cell? ⟨4,i,H⟩=F (tK sY ((J4.getD i 0:Nat):Int))
theorem YA.grown{w w':I}{b:Nat}(h:YA w)(hg:J w w' (F b))(hb:5<=b):YA w':=⟨fun i hi=>hg.cell (h.nums i hi) (by
 simp;omega),fun i hi=>hg.cell (h.walk i hi) (by
 simp;omega),fun i hi=>hg.cell (h.turns i hi) (by
 simp;omega)⟩
def JV(st:List (BitVec 64)):Nat->List (BitVec 64)×BitVec 64|0=>(st,st.getD 1 0)|k+1=>((JV st k).1.set (Jw.getD k 0) (zR (JV st k).2 (J4.getD k 0)),(JV st k).1.getD (Jw.getD k 0) 0)
theorem Oj(w:I)(b:Nat)(hb:5<=b)(st:List (BitVec 64))(h:St w b st)(ht:YA w):rW tA 124 #[.pointer (F ⟨b,0,H⟩)] w fun e w'=>e=sP (pV #[])∧St w' b (JV st 24).1∧J w w' (F b):=by
 have c1:=h.cell 1 (by omega);go_enter Tryz.func124,Tryz.ntmps124;go_wp2;go_loopw[2,10](fun m i wr=>∃k:Nat,k<=24∧i=tK sY (k:Int)∧m=tK .u64 (U (JV st k).2)∧St wr b (JV st k).1∧J w wr (F b))(fun _ i _=>24-(intOf i).toNat);case atStart=>exact⟨0,by omega,rfl,by simp[JV],h,Qb _ _⟩
 case round=>obtain⟨k,hk,rfl,rfl,hst,hg⟩:=hrel;clear c1;by_cases hlt:k<24;(·have hT:=ht.grown hg hb;have hw:=bW k hlt;have hr:=Il k hlt;have t1:=hT.walk k hlt;have t2:=hT.turns k hlt;have c:=hst.cell (Jw.getD k 0) hw;have hf:=hst.frozen;generalize hS:(JV st k).1=S at*;have HS:Hid ((JV st k).1=S):=hS;generalize hM:(JV st k).2=M at*;have HM:Hid ((JV st k).2=M):=hM;generalize hW:Jw.getD k 0=W at*;have HW:Hid (Jw.getD k 0=W):=hW;generalize hR:J4.getD k 0=R at*;have HR:Hid (J4.getD k 0=R):=hR;clear hS hM hW hR;generalize hX:S.getD W 0=X at*;have HX:Hid (S.getD W 0=X):=hX;clear hX hT ht h;(have i1:(W:Int)<25:=by omega);go_wp2_with fail;go_region_with(go_at_call 147;refine(SZ M (R:Int) (by omega) (by omega) _).mono ?_;rintro e w'⟨rfl,rfl⟩);(all_goals go_wp2);go_roundw;(case rel=>refine⟨k+1,by omega,by go_num,?_,?_,Qk (Qg hg _ _)⟩;(·simp only[JV,HS.out,HW.out,HX.out]);·simp only[JV,HS.out,HM.out,HW.out,HR.out];exact(hst.set W _).drew);case measure=>simp[intOf];omega);·(obtain rfl:k=24:=by omega);go_wp2;go_end0;exact⟨rfl,hst,hg⟩
def C5(st:List (BitVec 64))(n:BitVec 64):List (BitVec 64):=let r:=Vz (JV (yZ (OZ (U9 st 5)) st 5) 24).1 5;r.set 0 (r.getD 0 0^^^n)
theorem WJ(w:I)(b:Nat)(hb:5<=b)(st:List (BitVec 64))(n:BitVec 64)(h:St w b st)(ht:YA w):rW tA 103 #[.pointer (F ⟨b,0,H⟩),tK .u64 (U n)] w fun e w'=>e=sP (pV #[])∧St w' b (C5 st n)∧J w w' (F b):=by
 go_enter Tryz.func103,Tryz.ntmps103;go_wp2_with fail;refine(OS _ b st h).mono ?_;rintro e w1⟨rfl,h1,g1⟩;go_wp2_with fail;refine(Oj _ b hb _ h1 (ht.grown g1 hb)).mono ?_;rintro e w2⟨rfl,h2,g2⟩;go_wp2_with fail;refine(WU _ b _ h2).mono ?_;rintro e w3⟨rfl,h3,g3⟩;have g:=Qa g1 (Qa g2 g3);clear g1 g2 g3 h1 h2 h ht;have HR:Hid (C5 st n=(Vz (JV (yZ (OZ (U9 st 5)) st 5) 24).1 5).set 0 ((Vz (JV (yZ (OZ (U9 st 5)) st 5) 24).1 5).getD 0 0^^^n)):=rfl;generalize Vz (JV (yZ (OZ (U9 st 5)) st 5) 24).1 5=S at*;have c0:=h3.cell 0 (by omega);have hf:=h3.frozen 0;generalize hx:S.getD 0 0=x at*;clear hx;go_wp2_with fail;go_region;go_wp2_with fail;go_end0;refine⟨rfl,?_,Qk (Qg g 0 _)⟩;rw[HR.out,Zp];exact(h3.set 0 _).drew
def jL{α:Type}(p:α->Bool):List α->Option Nat|[]=>H|a::l=>if p a=O then F 0 else(jL p l).map (·+1)
def ZL{α:Type}(p:α->Bool)(l:List α):Int:=match jL p l with|F i=>(i:Int)|none=>-1
theorem FM{α:Type}(p:α->Bool)(d:α):∀(l:List α)(m:Nat),m<l.length->(l.take m).any p=V->p (l.getD m d)=O->jL p l=F m|[],_,h,_,_=>by simp at h|a::l,0,_,_,h=>by have h':p a=O:=h;rw[jL,if_pos h']|a::l,m+1,h0,h1,h2=>by rw[sG,rS,rO]at h1;rw[jL,if_neg (by rw[h1.1];decide),FM p d l m (by simpa using h0) h1.2 (by simpa using h2)];rfl
theorem PA{α:Type}(p:α->Bool):∀(l:List α),l.any p=V->jL p l=H|[],_=>rfl|a::l,h=>by rw[rS,rO]at h;rw[jL,if_neg (by rw[h.1];decide),PA p l h.2];rfl
theorem G5{α:Type}(p:α->Bool)(d:α)(l:List α)(m:Nat)(h:m<l.length)(h1:(l.take m).any p=V)(h2:p (l.getD m d)=O):ZL p l=(m:Int):=by
 rw[ZL,FM p d l m h h1 h2]
theorem KX{α:Type}(p:α->Bool)(l:List α)(h:l.any p=V):ZL p l=-1:=by
 rw[ZL,PA p l h]
theorem U2{α:Type}(p:α->Bool)(d:α):∀(l:List α),l.any p=O->∃m,m<l.length∧(l.take m).any p=V∧p (l.getD m d)=O∧ZL p l=(m:Int)|[],h=>by simp at h|a::l,h=>by by_cases ha:p a=O;(·exact⟨0,by simp,by simp,ha,G5 p d (a::l) 0 (by simp) (by simp) ha⟩);·(have hf:p a=V:=by simpa using ha);rw[rS,hf,Bool.false_or]at h;obtain⟨m,h1,h2,h3,_⟩:=U2 p d l h;(have e1:m+1<(a::l).length:=by simp;omega);(have e2:((a::l).take (m+1)).any p=V:=by rw[sG,rS,hf,h2];rfl);(have e3:p ((a::l).getD (m+1) d)=O:=by simpa using h3);exact⟨m+1,e1,e2,e3,G5 p d _ _ e1 e2 e3⟩
theorem j8{α:Type}(p:α->Bool)(l:List α):(ZL p l==-1)=!(l.any p):=by
 cases h:l.any p with|false=>rw[KX p l h];rfl|true=>cases l with|nil=>simp at h|cons a l=>obtain⟨m,_,_,_,e⟩:=U2 p a (a::l) h;rw[e];(have:((m:Int)==-1)=V:=by simp);rw[this];rfl
theorem Tc{α:Type}(p:α->Bool)(l:List α):tI (0<=ZL p l)=l.any p:=by
 cases h:l.any p with|false=>rw[KX p l h];rfl|true=>cases l with|nil=>simp at h|cons a l=>obtain⟨m,_,_,_,e⟩:=U2 p a (a::l) h;rw[e];simp
theorem K2(w:I)(v1 v2:N)(b1 b2:List UInt8)(h1:Qe w v1 b1)(h2:Qe w v2 b2):rW tA 43 #[v1,v2] w fun e w'=>e=sP (pO (tI (b1=b2)))∧w'=w:=by
 have c1:=FY w v1 b1 h1;have c2:=FY w v2 b2 h2;go_enter Tryz.func43,Tryz.ntmps43;go_wp2;go_ret;refine⟨?_,rfl⟩;have e:((jU b1).toList==(jU b2).toList)=tI (b1=b2):=by rw[Pt,Pt];by_cases h:b1=b2<;>simp[h]
 rw[<-e];rfl
theorem vC(p:Zf):QT [] [p]=QA p:=by
 have h0:Q8 []=0:=(XJ []).2 Uy;rw[QT,if_pos h0,if_neg (by simp),Xe];by_cases h:QA p=0;·have h2:=FQ Uy h LZ (by omega);have h3:(Zs [] p).length<=1:=MO [] p;rw[if_neg (by omega)]at h2;rw[if_pos h,if_pos h2,Xe,h]
 ·rw[if_neg h]
def Fv:Prop:=∀(w:I)(a:Option pD)(n cap:Nat),rW tA 50 #[tH a n cap] w fun e w'=>e=sP (tK sY (Qo n))∧J w w' H
theorem YM:Fv:=by
 intro w a n cap;by_cases h1:1<=n;·by_cases h2:n<=16;(·rw[Qo,if_pos ⟨h1,h2⟩];(have t1:¬(n:Int)<1:=by omega);(have t2:¬(n:Int)>16:=by omega);go_enter pP,pE;go_wp2;go_ret;exact⟨rfl,Qb _ _⟩);·rw[Qo,if_neg (by omega)];(have t1:¬(n:Int)<1:=by omega);(have t2:(n:Int)>16:=by omega);go_enter pP,pE;go_wp2;go_ret;exact⟨rfl,Qb _ _⟩
 ·rw[Qo,if_neg (by omega)];(have t1:(n:Int)<1:=by omega);go_enter pP,pE;go_wp2;go_ret;exact⟨rfl,Qb _ _⟩
def Zr(l:PL)(k:List UInt8):Nat:=(l.takeWhile fun p=>YH p.1 k).length
def Gv(l:PL)(k:List UInt8):Bool:=tI (Zr l k<l.length∧(l.getD (Zr l k) ([],[])).1=k)
def XP(l:PL)(k:List UInt8):Nat:=if Gv l k=O then Zr l k+1 else Zr l k
theorem xJ(l:PL)(k:List UInt8):Zr l k<=l.length:=by
 induction l with|nil=>simp[Zr]|cons p r ih=>unfold Zr at ih⊢;rw[pT];cases h:YH p.1 k with|true=>simpa using ih|false=>simp
theorem II:∀(l:PL)(k:List UInt8)(i:Nat),i<=l.length->(∀j,j<i->YH (l.getD j ([],[])).1 k=O)->(i<l.length->YH (l.getD i ([],[])).1 k=V)->Zr l k=i|[],k,i,h,_,_=>by(obtain rfl:i=0:=by simpa using h);rfl|p::r,k,0,_,_,h2=>by have:=h2 (by simp);simp only[tX]at this;simp[Zr,this]|p::r,k,i+1,h,h1,h2=>by have h0:=h1 0 (by omega);simp only[tX]at h0;have:=II r k i (by simpa using h) (fun j hj=>by simpa using h1 (j+1) (by omega)) (fun hi=>by simpa using h2 (by simpa using hi));unfold Zr at this⊢;rw[tM (p:=fun p:Pr=>YH p.1 k) h0];simpa using this
theorem Ng:∀(l:PL)(k:List UInt8)(j:Nat),j<Zr l k->YH (l.getD j ([],[])).1 k=O|[],k,j,h=>by simp[Zr]at h|p::r,k,j,h=>by cases hk:YH p.1 k with|false=>simp[Zr,hk]at h|true=>cases j with|zero=>simpa using hk|succ j=>unfold Zr at h;rw[tM (p:=fun p:Pr=>YH p.1 k) hk]at h;have:=Ng r k j (by unfold Zr;simpa using h);simpa using this
theorem NK:∀(l:PL)(k:List UInt8),Zr l k<l.length->YH (l.getD (Zr l k) ([],[])).1 k=V|[],k,h=>by simp at h|p::r,k,h=>by cases hk:YH p.1 k with|false=>simp[Zr,hk]|true=>(have e:Zr (p::r) k=Zr r k+1:=by unfold Zr;rw[tM (p:=fun p:Pr=>YH p.1 k) hk];simp);rw[e]at h⊢;have:=NK r k (by simpa using h);simpa using this
theorem kO(l:PL)(k:List UInt8)(hr:Up l)(j:Nat)(hj:j<l.length):YH (l.getD j ([],[])).1 k=tI (j<Zr l k):=by
 by_cases h:j<Zr l k;·rw[decide_eq_true h];exact Ng l k j h
 ·rw[decide_eq_false h];have h0:=NK l k (by omega);by_cases e:j=Zr l k;(·rw[e];exact h0);·cases hk:YH (l.getD j ([],[])).1 k with|false=>rfl|true=>have:=Ka _ _ _ (UF l hr (Zr l k) j (by omega) hj) hk;rw[this]at h0;cases h0
theorem uW{l:PL}{k:List UInt8}(h:Gv l k=O):Zr l k<l.length∧(l.getD (Zr l k) ([],[])).1=k:=by
 simpa only[Gv,decide_eq_true_eq]using h
theorem xZ(l:PL)(k:List UInt8):Zr l k<=XP l k∧XP l k<=l.length∧XP l k<=Zr l k+1:=by
 have:=xJ l k;unfold XP;by_cases h:Gv l k=O;·rw[if_pos h];have:=(uW h).1;omega
 ·rw[if_neg h];omega
theorem Fx(l:PL)(k:List UInt8)(hr:Up l)(j:Nat)(hj:j<l.length)(he:(l.getD j ([],[])).1=k):Gv l k=O∧j=Zr l k:=by
 have hp:Zr l k=j:=by refine II l k j (by omega) (fun i hi=>?_) (fun _=>?_);(·rw[<-he];exact UF l hr i j hi hj);·rw[he];exact X5 k
 refine⟨?_,hp.symm⟩;rw[Gv,hp];exact decide_eq_true ⟨hj,he⟩
theorem aM(l:PL)(k:List UInt8)(hr:Up l):qZ l k=if Gv l k=O then F (l.getD (Zr l k) ([],[])).2 else H:=by
 by_cases h:Gv l k=O;·rw[if_pos h];obtain⟨h1,h2⟩:=uW h;refine Iz l k _ h1 (fun j hj e=>?_) h2;have:=Ng l k j hj;rw[e,X5]at this;cases this
 ·rw[if_neg h];exact M8 l k fun j hj e=>h (Fx l k hr j hj e).1
theorem Dk(l:PL)(p:Pr):J8 l p=l.take (Zr l p.1)++([p]++l.drop (XP l p.1)):=by
 rw[SR l p (Zr l p.1) (xJ l p.1) (fun j hj=>Ng l p.1 j hj) (NK l p.1)];by_cases h:Zr l p.1<l.length∧(l.getD (Zr l p.1) ([],[])).1=p.1;·rw[if_pos h,XP,if_pos (by rw[Gv];exact decide_eq_true h),rV,if_pos h.1];rfl
 ·rw[if_neg h,XP,if_neg (by rw[Gv];simpa using h)]
theorem Ie(l:PL)(p:Pr):(J8 l p).length=Zr l p.1+1+(l.length-XP l p.1):=by
 rw[Dk];have h1:=xJ l p.1;simp;omega
theorem WN(l:PL)(p:Pr)(hl:l.length<=60):(60<(J8 l p).length)↔(Zr l p.1=XP l p.1∧l.length=60):=by
 rw[Ie];have:=xZ l p.1;omega
theorem DM(l:PL)(f:Pr->Bool)(n:Nat)(hn:n<=l.length)(h1:∀j,j<n->f (l.getD j ([],[]))=V)(h2:∀j,n<=j->j<l.length->f (l.getD j ([],[]))=O):l.filter f=l.drop n:=by
 have e:l=l.take n++l.drop n:=(tE n l).symm;have ha:(l.take n).filter f=[]:=by rw[sJ];intro q hq;obtain⟨j,hj,rfl⟩:=L.1 hq;(have hjn:j<n:=by simp at hj;omega);have:=h1 j hjn;rw[sE];rw[show l[j]'(by omega)=l.getD j ([],[])by simp[show j<l.length by omega],this];simp
 have hb:(l.drop n).filter f=l.drop n:=by rw[tN];intro q hq;obtain⟨j,hj,rfl⟩:=L.1 hq;(have hjn:n+j<l.length:=by simp at hj;omega);rw[sM,show l[n+j]=l.getD (n+j) ([],[])by simp[hjn]];exact h2 _ (by omega) hjn
 conv=>lhs;rw[e]
 rw[sI,ha,hb,pA]
theorem DZ(l:PL)(f:Pr->Bool)(n:Nat)(hn:n<=l.length)(h1:∀j,j<n->f (l.getD j ([],[]))=O)(h2:∀j,n<=j->j<l.length->f (l.getD j ([],[]))=V):l.filter f=l.take n:=by
 have e:l=l.take n++l.drop n:=(tE n l).symm;have hb:(l.drop n).filter f=[]:=by rw[sJ];intro q hq;obtain⟨j,hj,rfl⟩:=L.1 hq;(have hjn:n+j<l.length:=by simp at hj;omega);rw[sM,show l[n+j]=l.getD (n+j) ([],[])by simp[hjn],h2 _ (by omega) hjn];simp
 have ha:(l.take n).filter f=l.take n:=by rw[tN];intro q hq;obtain⟨j,hj,rfl⟩:=L.1 hq;(have hjn:j<n:=by simp at hj;omega);rw[sE,show l[j]'(by omega)=l.getD j ([],[])by simp[show j<l.length by omega]];exact h1 j hjn
 conv=>lhs;rw[e]
 rw[sI,ha,hb,tV]
theorem IP(l:PL)(k:List UInt8)(hr:Up l):jM l k=l.take (Zr l k)++l.drop (XP l k):=by
 by_cases h:Gv l k=O;·obtain⟨h1,h2⟩:=uW h;(have e:l=l.take (Zr l k)++(l.getD (Zr l k) ([],[])::l.drop (Zr l k+1)):=by(conv=>lhs;rw[<-tE (Zr l k) l,sD h1]);simp[h1]);have hne:∀j,j<l.length->j≠Zr l k->(l.getD j ([],[])).1≠k:=fun j hj hn e=>hn (Fx l k hr j hj e).2;(have ha:(l.take (Zr l k)).filter (fun q=>!(q.1==k))=l.take (Zr l k):=by rw[tN];intro q hq;obtain⟨j,hj,rfl⟩:=L.1 hq;(have hjn:j<Zr l k:=by simp at hj;omega);rw[sE,show l[j]'(by omega)=l.getD j ([],[])by simp[show j<l.length by omega]];simpa using hne j (by omega) (by omega));(have hb:(l.drop (Zr l k+1)).filter (fun q=>!(q.1==k))=l.drop (Zr l k+1):=by rw[tN];intro q hq;obtain⟨j,hj,rfl⟩:=L.1 hq;(have hjn:Zr l k+1+j<l.length:=by simp at hj;omega);rw[sM,show l[Zr l k+1+j]=l.getD (Zr l k+1+j) ([],[])by simp[hjn]];simpa using hne _ hjn (by omega));rw[XP,if_pos h,jM];(conv=>lhs;rw[e]);rw[sI,pF (by simpa using h2),ha,hb]
 ·rw[XP,if_neg h,tE,jM,tN];intro q hq;obtain⟨j,hj,rfl⟩:=L.1 hq;have:=fun e=>h (Fx l k hr j hj e).1;rw[show l.getD j ([],[])=l[j]by simp[hj]]at this;simpa using this
theorem PQ(l:PL)(k:List UInt8)(hr:Up l)(j:Nat)(hj:j<l.length):YH k (l.getD j ([],[])).1=tI (XP l k<=j):=by
 have hp:=kO l k hr j hj;have hn:=xZ l k;by_cases h1:j<Zr l k;·rw[decide_eq_true h1]at hp;rw[Lo _ _ hp,decide_eq_false (by omega)]
 ·rw[decide_eq_false h1]at hp;by_cases e:(l.getD j ([],[])).1=k;(·obtain⟨h2,h3⟩:=Fx l k hr j hj e;rw[e,X5,XP,if_pos h2,decide_eq_false (by omega)]);·rw[UA _ _ hp e];by_cases h:Gv l k=O;(·rw[XP,if_pos h,decide_eq_true (by by_cases hjp:j=Zr l k;(·exact absurd (by rw[hjp];exact(uW h).2) e);·omega)]);·rw[XP,if_neg h,decide_eq_true (by omega)]
theorem C7(l:PL)(f t:List UInt8)(hr:Up l):U8 l f t=(l.take (max (Zr l f) (XP l t))).drop (Zr l f):=by
 have h1:=xJ l f;have h2:=xZ l t;have e:U8 l f t=(l.filter fun q=>!YH t q.1).filter fun q=>!YH q.1 f:=by rw[U8,List.filter_filter]
 rw[e,DZ l _ (XP l t) h2.2.1 (fun j hj=>by rw[PQ l t hr j (by omega),decide_eq_false (by omega)];rfl) (fun j hj hjl=>by rw[PQ l t hr j hjl,decide_eq_true hj];rfl)];have hd:∀(n:Nat),n<=l.length->(l.take n).filter (fun q=>!YH q.1 f)=(l.take n).drop (Zr l f):=by intro n hn;by_cases hc:Zr l f<=n;(·refine DM _ _ _ (by simp;omega) (fun j hj=>?_) (fun j hj hjl=>?_);(·(have:(l.take n).getD j ([],[])=l.getD j ([],[]):=by simp[show j<n by omega]);rw[this,kO l f hr j (by omega),decide_eq_true hj];rfl);·(have hjn:j<n:=by simp at hjl;omega);(have:(l.take n).getD j ([],[])=l.getD j ([],[]):=by simp[hjn]);rw[this,kO l f hr j (by omega),decide_eq_false (by omega)];rfl);·rw[tW (by simp;omega),sJ];intro q hq;obtain⟨j,hj,rfl⟩:=L.1 hq;(have hjn:j<n:=by simp at hj;omega);rw[sE,show l[j]'(by omega)=l.getD j ([],[])by simp[show j<l.length by omega],kO l f hr j (by omega),decide_eq_true (by omega)];simp
 rw[hd _ h2.2.1];by_cases hc:Zr l f<=XP l t;·rw[Nat.max_eq_right hc]
 ·rw[Nat.max_eq_left (by omega),tW (by simp;omega),tW (by simp;omega)]
theorem EZ:∀(t:FL)(p:Tn)(k:Nat),k<=t.length->(∀j,j<k->YH (t.getD j ([],[])).1 p.1=O)->(k<t.length->YH (t.getD k ([],[])).1 p.1=V)->Jo t p=if k<t.length∧(t.getD k ([],[])).1=p.1then t.set k p else t.take k++([p]++t.drop k)|[],p,k,hk,_,_=>by(obtain rfl:k=0:=by simpa using hk);simp[Jo]|q::r,p,0,_,_,h2=>by have h:=h2 (by simp);simp only[tX]at h;rw[Jo,if_neg (by rw[h];simp)];by_cases e:q.1=p.1;(·rw[if_pos e,if_pos ⟨by simp,by simpa using e⟩];simp);·rw[if_neg e,if_neg (fun h=>e (by simpa using h.2))];simp|q::r,p,k+1,hk,h1,h2=>by have h:=h1 0 (by omega);simp only[tX]at h;rw[Jo,if_pos h,EZ r p k (by simpa using hk) (fun j hj=>by simpa using h1 (j+1) (by omega)) (fun hk=>by simpa using h2 (by simpa using hk))];by_cases e:k<r.length∧(r.getD k ([],[])).1=p.1;(·rw[if_pos e,if_pos ⟨by simpa using e.1,by simpa using e.2⟩];simp);·rw[if_neg e,if_neg (fun h=>e ⟨by simpa using h.1,by simpa using h.2⟩)];simp
def Qx(l:FL)(k:List UInt8):Nat:=(l.takeWhile fun p=>YH p.1 k).length
def J0(l:FL)(k:List UInt8):Bool:=tI (Qx l k<l.length∧(l.getD (Qx l k) ([],[])).1=k)
def QO(l:FL)(k:List UInt8):Nat:=if J0 l k=O then Qx l k+1 else Qx l k
theorem uD(l:FL)(k:List UInt8):Qx l k<=l.length:=by
 induction l with|nil=>simp[Qx]|cons p r ih=>unfold Qx at ih⊢;rw[pT];cases h:YH p.1 k with|true=>simpa using ih|false=>simp
theorem MK:∀(l:FL)(k:List UInt8)(i:Nat),i<=l.length->(∀j,j<i->YH (l.getD j ([],[])).1 k=O)->(i<l.length->YH (l.getD i ([],[])).1 k=V)->Qx l k=i|[],k,i,h,_,_=>by(obtain rfl:i=0:=by simpa using h);rfl|p::r,k,0,_,_,h2=>by have:=h2 (by simp);simp only[tX]at this;simp[Qx,this]|p::r,k,i+1,h,h1,h2=>by have h0:=h1 0 (by omega);simp only[tX]at h0;have:=MK r k i (by simpa using h) (fun j hj=>by simpa using h1 (j+1) (by omega)) (fun hi=>by simpa using h2 (by simpa using hi));unfold Qx at this⊢;rw[tM (p:=fun p:Tn=>YH p.1 k) h0];simpa using this
theorem uB:∀(l:FL)(k:List UInt8)(j:Nat),j<Qx l k->YH (l.getD j ([],[])).1 k=O|[],k,j,h=>by simp[Qx]at h|p::r,k,j,h=>by cases hk:YH p.1 k with|false=>simp[Qx,hk]at h|true=>cases j with|zero=>simpa using hk|succ j=>unfold Qx at h;rw[tM (p:=fun p:Tn=>YH p.1 k) hk]at h;have:=uB r k j (by unfold Qx;simpa using h);simpa using this
theorem Pc:∀(l:FL)(k:List UInt8),Qx l k<l.length->YH (l.getD (Qx l k) ([],[])).1 k=V|[],k,h=>by simp at h|p::r,k,h=>by cases hk:YH p.1 k with|false=>simp[Qx,hk]|true=>(have e:Qx (p::r) k=Qx r k+1:=by unfold Qx;rw[tM (p:=fun p:Tn=>YH p.1 k) hk];simp);rw[e]at h⊢;have:=Pc r k (by simpa using h);simpa using this
theorem LR(l:FL)(k:List UInt8)(hr:Yy l)(j:Nat)(hj:j<l.length):YH (l.getD j ([],[])).1 k=tI (j<Qx l k):=by
 by_cases h:j<Qx l k;·rw[decide_eq_true h];exact uB l k j h
 ·rw[decide_eq_false h];have h0:=Pc l k (by omega);by_cases e:j=Qx l k;(·rw[e];exact h0);·cases hk:YH (l.getD j ([],[])).1 k with|false=>rfl|true=>have:=Ka _ _ _ (G9 l hr (Qx l k) j (by omega) hj) hk;rw[this]at h0;cases h0
theorem yE{l:FL}{k:List UInt8}(h:J0 l k=O):Qx l k<l.length∧(l.getD (Qx l k) ([],[])).1=k:=by
 simpa only[J0,decide_eq_true_eq]using h
theorem vV(l:FL)(k:List UInt8):Qx l k<=QO l k∧QO l k<=l.length∧QO l k<=Qx l k+1:=by
 have:=uD l k;unfold QO;by_cases h:J0 l k=O;·rw[if_pos h];have:=(yE h).1;omega
 ·rw[if_neg h];omega
theorem Po(l:FL)(k:List UInt8)(hr:Yy l)(j:Nat)(hj:j<l.length)(he:(l.getD j ([],[])).1=k):J0 l k=O∧j=Qx l k:=by
 have hp:Qx l k=j:=by refine MK l k j (by omega) (fun i hi=>?_) (fun _=>?_);(·rw[<-he];exact G9 l hr i j hi hj);·rw[he];exact X5 k
 refine⟨?_,hp.symm⟩;rw[J0,hp];exact decide_eq_true ⟨hj,he⟩
theorem LS(l:FL)(k:List UInt8)(hr:Yy l):zP l k=if J0 l k=O then F (l.getD (Qx l k) ([],[])).2 else H:=by
 by_cases h:J0 l k=O;·rw[if_pos h];obtain⟨h1,h2⟩:=yE h;refine Ca l k _ h1 (fun j hj e=>?_) h2;have:=uB l k j hj;rw[e,X5]at this;cases this
 ·rw[if_neg h];exact Ts l k fun j hj e=>h (Po l k hr j hj e).1
theorem T8(l:FL)(p:Tn):Jo l p=l.take (Qx l p.1)++([p]++l.drop (QO l p.1)):=by
 rw[EZ l p (Qx l p.1) (uD l p.1) (fun j hj=>uB l p.1 j hj) (Pc l p.1)];by_cases h:Qx l p.1<l.length∧(l.getD (Qx l p.1) ([],[])).1=p.1;·rw[if_pos h,QO,if_pos (by rw[J0];exact decide_eq_true h),rV,if_pos h.1];rfl
 ·rw[if_neg h,QO,if_neg (by rw[J0];simpa using h)]
theorem AQ(l:FL)(p:Tn):(Jo l p).length=Qx l p.1+1+(l.length-QO l p.1):=by
 rw[T8];have h1:=uD l p.1;simp;omega
theorem Tg(l:FL)(p:Tn)(hl:l.length<=8):(8<(Jo l p).length)↔(Qx l p.1=QO l p.1∧l.length=8):=by
 rw[AQ];have:=vV l p.1;omega
theorem Bm(l:FL)(k:List UInt8)(hr:Yy l):jW l k=l.take (Qx l k)++l.drop (QO l k):=by
 by_cases h:J0 l k=O;·obtain⟨h1,h2⟩:=yE h;(have e:l=l.take (Qx l k)++(l.getD (Qx l k) ([],[])::l.drop (Qx l k+1)):=by(conv=>lhs;rw[<-tE (Qx l k) l,sD h1]);simp[h1]);have hne:∀j,j<l.length->j≠Qx l k->(l.getD j ([],[])).1≠k:=fun j hj hn e=>hn (Po l k hr j hj e).2;(have ha:(l.take (Qx l k)).filter (fun q=>!(q.1==k))=l.take (Qx l k):=by rw[tN];intro q hq;obtain⟨j,hj,rfl⟩:=L.1 hq;(have hjn:j<Qx l k:=by simp at hj;omega);rw[sE,show l[j]'(by omega)=l.getD j ([],[])by simp[show j<l.length by omega]];simpa using hne j (by omega) (by omega));(have hb:(l.drop (Qx l k+1)).filter (fun q=>!(q.1==k))=l.drop (Qx l k+1):=by rw[tN];intro q hq;obtain⟨j,hj,rfl⟩:=L.1 hq;(have hjn:Qx l k+1+j<l.length:=by simp at hj;omega);rw[sM,show l[Qx l k+1+j]=l.getD (Qx l k+1+j) ([],[])by simp[hjn]];simpa using hne _ hjn (by omega));rw[QO,if_pos h,jW];(conv=>lhs;rw[e]);rw[sI,pF (by simpa using h2),ha,hb]
 ·rw[QO,if_neg h,tE,jW,tN];intro q hq;obtain⟨j,hj,rfl⟩:=L.1 hq;have:=fun e=>h (Po l k hr j hj e).1;rw[show l.getD j ([],[])=l[j]by simp[hj]]at this;simpa using this
theorem eR(l:FL)(k:List UInt8)(hr:Yy l):YU l k=if J0 l k=O then(l.getD (Qx l k) ([],[])).2 else[]:=by
 unfold YU;rw[LS l k hr];by_cases h:J0 l k=O;·rw[if_pos h,if_pos h];rfl
 ·rw[if_neg h,if_neg h];rfl
theorem Da(l:FL)(k:List UInt8)(hr:Yy l):((l.take (QO l k)).drop (Qx l k)=[]∧YU l k=[]∧QO l k=Qx l k)∨(∃t,(l.take (QO l k)).drop (Qx l k)=[t]∧YU l k=t.2∧QO l k=Qx l k+1):=by
 rw[eR l k hr];by_cases h:J0 l k=O;·right;obtain⟨h1,h2⟩:=yE h;refine⟨l.getD (Qx l k) ([],[]),?_,by rw[if_pos h],by rw[QO,if_pos h]⟩;rw[QO,if_pos h,List.take_succ_eq_append_getElem h1,r8 (by simp;omega),tW (by simp;omega),pA];simp[h1]
 ·left;refine⟨?_,by rw[if_neg h],by rw[QO,if_neg h]⟩;rw[QO,if_neg h,tW (by simp;omega)]
def aY:Prop:=∀(w:I)(a:Option pD)(n cap:Nat),rW tA 24 #[tH a n cap] w fun e w'=>e=sP (tK sY (Qt n))∧J w w' H
def S7:Prop:=∀(w:I)(v:N)(r:Rq),Vj w->X0 w v r->xT r->rW tA 30 #[v] w fun e w'=>e=sP (tK sY (Ye r))∧J w w' H
end Go.Proofs.YtieoehicoocpjaaGreatDoor
