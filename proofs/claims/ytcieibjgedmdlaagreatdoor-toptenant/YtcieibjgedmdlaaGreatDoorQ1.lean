/-
  Texts of this proof, joined, with few blanks: Base, LineF, SlM, PartM, Keys, PlaceM, Trees, TreeF, FitsF, ForestF, RdF, WrM0, TapeF, TapeG, KTree, KPure, ForestK, ForestE, WireF, WireG, LineG, RqMem, RqBox, RqEn, RdM0, ProofM, Sides, ForkF, Bits, Lanes, Cols, Move, Round, IdxF, EqB, ApplyOne, CheckC, CheckP, PosF, FPosF, FCName, RqCk.
-/
import Derived.WalkKit
import Derived.WalkSpells
import Derived.WalkLawsBesides
import Derived.BigRegion
import Derived.Deep.QuietTactic
import Derived.BigQuiet
import Derived.Deep.RegionHeld3
import Derived.Deep.DeepCutAuto
import Derived.Lib.Strings
import Derived.Test.YtcieibjgedmdlaaGreatDoorChecked
set_option maxRecDepth 100000
set_option maxHeartbeats 8000000
open Array renaming getElem?_eq_some_iff->tS,getElem?_modify->tW
open BitVec renaming ofInt->sN
open Bool renaming true->tC,false->tH
open Decidable renaming decide->tP
open Go renaming World->tA,Value->tE
open Go.Obj renaming cells->tQ
open Go.Op renaming bytesLess->sV
open Go.Proofs.Tryz renaming prog->tI
open Go.Value renaming slice->tN,int->tR
open Go.World renaming grownBy->tB,setCell->tM,cell?->sL
open List renaming mem_iff_getElem->tD,length_append->tF,eq_nil_of_length_eq_zero->tG,append_assoc->tJ,take_append_drop->tL,takeWhile_cons_of_pos->tT,filter_eq_self->tU,mem_cons->tY,append_nil->sH,drop_eq_nil_of_le->sI,getD_cons_zero->sJ,mem_cons_of_mem->sK,drop_eq_getElem_cons->sQ,getElem_take->sR,getElem_mem->sS,take_succ_cons->sU,pairwise_cons->sW,filter_append->sY,filter_eq_nil_iff->sZ
open List.Pairwise renaming cons->tZ
open Nat renaming lt_of_lt_of_le->tX,le_refl->sM
open Option renaming some->T,none->V
open Option.some renaming injEq->tV
open Prod.mk renaming injEq->sP
open UInt8 renaming ofNat->tK
namespace Go.Proofs.YtcieibjgedmdlaaGreatDoor
open Go.RowKit
section
theorem Qb(w:tA)(r:Option Nat):tB w w r:=⟨rfl,rfl,rfl,sM _,fun _ _ _=>rfl⟩
theorem Qa{w w1 w2:tA}{r:Option Nat}(h:tB w w1 r)(k:tB w1 w2 r):tB w w2 r:=⟨k.os.trans h.os,k.tape.trans h.tape,k.output.trans h.output,Nat.le_trans h.size k.size,fun i a b=>(k.block i (tX a h.size) b).trans (h.block i a b)⟩
theorem Ql{w w1:tA}{r:Option Nat}(h:tB w w1 r):tB w w1.drew r:=⟨h.os,h.tape,h.output,h.size,h.block⟩
theorem Qr{w w1:tA}{r:Option Nat}(h:tB w w1 r)(n:Nat):tB w (w1.drewN n) r:=⟨h.os,h.tape,h.output,h.size,h.block⟩
theorem Qg{w w1:tA}{b:Nat}(h:tB w w1 (T b))(i:Nat)(v:tE):tB w (tM w1 ⟨b,i,V⟩ v) (T b):=Qa h ⟨rfl,rfl,rfl,by
 simp[tM],fun k _ a=>Below.heap_setCell _ _ _ _ (by
 intro e;exact a (by rw[e]))⟩
theorem Qt{w w1:tA}{r:Option Nat}(h:tB w w1 r)(o:Obj):tB w (w1.alloc o) r:=Qa h (World.grownBy_alloc _ _ _)
theorem JU{w w1 w2:tA}{r:Option Nat}{c:Nat}(h:tB w w1 r)(hc:w.heap.size<=c)(k:tB w1 w2 (T c)):tB w w2 r:=⟨k.os.trans h.os,k.tape.trans h.tape,k.output.trans h.output,Nat.le_trans h.size k.size,fun i a b=>(k.block i (tX a h.size) (by
 simp;omega)).trans (h.block i a b)⟩
theorem Qc{w w1:tA}{r:Option Nat}(h:tB w w1 r)(c:Nat)(hc:w.heap.size<=c)(i:Nat)(v:tE):tB w (tM w1 ⟨c,i,V⟩ v) r:=JU h hc (Qg (Qb _ _) i v)
theorem Xc(b o n:Nat):(⟨b,o,V⟩:Addr).add n=⟨b,o+n,V⟩:=by
 unfold Addr.add;split;·simp_all
 ·rfl
theorem gK(w:tA):(sizeOf (tI.elem 25)).run tI w=.ok 1 w:=by
 kernel_rfl
theorem iC(W:tA)(pb o len cap:Nat)(l:Int)(n:Nat)(hn:l=(n:Int))(h1:n<=len)(hc:n<cap):(Instr.slice 25 (tN (T ⟨pb,o,V⟩) len cap) (T (tR .i64 l)) V V).run tI W=.ok (tN (T ⟨pb,o+n,V⟩) (len-n) (cap-n)) W:=by
 subst hn;rw[run_slice_l _ _ _ _ _ (by kernel_rfl) _ _ (by omega) (by omega),gK];simp only[Result.andThen,sliced,Int.toNat_natCast,Option.map_some,Nat.mul_one,Xc];rw[if_neg (by omega)]
theorem Wn(W:tA)(pb o len cap:Nat)(l:Int)(n:Nat)(hn:l=(n:Int))(hc:n<=cap)(h0:0<cap):(Instr.slice 25 (tN (T ⟨pb,o,V⟩) len cap) V (T (tR .i64 l)) V).run tI W=.ok (tN (T ⟨pb,o,V⟩) n cap) W:=by
 subst hn;rw[run_slice_h _ _ _ _ _ (by kernel_rfl) _ _ (by omega) (by omega),gK];simp only[Result.andThen,sliced,Int.toNat_natCast,Option.map_some,Nat.mul_one,Xc];rw[if_neg (by omega)];simp
def K7(w:tA)(pb o:Nat)(bs:List UInt8):Prop:=∀i,i<bs.length->w.cell? ⟨pb,o+i,V⟩=T (tR .u8 ((bs.getD i 0).toNat:Int))
theorem K7.drew{w:tA}{pb o:Nat}{bs:List UInt8}(h:K7 w pb o bs):K7 w.drew pb o bs:=h
theorem K7.grown{w w':tA}{pb o:Nat}{bs:List UInt8}{r:Option Nat}(h:K7 w pb o bs)(hg:tB w w' r)(hr:T pb≠r):K7 w' pb o bs:=fun i a=>hg.cell (h i a) hr
def ZZ(bs:List UInt8):Array tE:=(bs.map fun c=>tR .u8 (c.toNat:Int)).toArray
def ZN(w:tA)(b:Nat)(bs:List UInt8):Prop:=∃t,w.heap[b]?=T (tQ (ZZ bs) t (0,0))
section
variable{w:tA}{b:Nat}{bs:List UInt8}
theorem ZN.cell(h:ZN w b bs)(i:Nat)(hi:i<bs.length):w.cell? ⟨b,i,V⟩=T (tR .u8 ((bs.getD i 0).toNat:Int)):=by
 obtain⟨t,a⟩:=h;simp[sL,a,ZZ,List.getElem?_map,List.getElem?_eq_getElem hi]
theorem ZN.frozen(h:ZN w b bs)(i:Nat):w.frozen? ⟨b,i,V⟩=tH:=by
 obtain⟨t,a⟩:=h;simp[World.frozen?,a]
theorem ZN.lt(h:ZN w b bs):b<w.heap.size:=by
 obtain⟨t,a⟩:=h;exact(tS.1 a).1
theorem Sl(bs:List UInt8)(i:Nat)(x:UInt8):(ZZ bs).setIfInBounds i (tR .u8 (x.toNat:Int))=ZZ (bs.set i x):=by
 simp[ZZ]
theorem ZN.set(h:ZN w b bs)(i:Nat)(x:UInt8):ZN (tM w ⟨b,i,V⟩ (tR .u8 (x.toNat:Int))) b (bs.set i x):=by
 obtain⟨t,a⟩:=h;refine⟨t,?_⟩;simp only[tM,tW,if_true,a,Option.map_some];simp[Sl]
theorem ZN.drewN(h:ZN w b bs)(k:Nat):ZN (w.drewN k) b bs:=h
theorem ZN.drew(h:ZN w b bs):ZN w.drew b bs:=h
theorem ZN.alloc(h:ZN w b bs)(o:Obj):ZN (w.alloc o) b bs:=by
 have c:=h.lt;obtain⟨t,a⟩:=h;exact⟨t,by rw[Below.heap_alloc _ _ _ c];exact a⟩
theorem ZN.grown(h:ZN w b bs){w':tA}{r:Option Nat}(hg:tB w w' r)(hr:T b≠r):ZN w' b bs:=by
 have c:=h.lt;obtain⟨t,a⟩:=h;exact⟨t,by rw[hg.block b c hr];exact a⟩
theorem ZN.new(w:tA)(t:TypeId)(bs:List UInt8):ZN (w.alloc (tQ (ZZ bs) t)) w.heap.size bs:=⟨t,heap_alloc_new w _⟩
theorem ZN.at(h:ZN w b bs)(o:Nat)(cs:List UInt8)(hc:∀i,i<cs.length->o+i<bs.length∧bs.getD (o+i) 0=cs.getD i 0):K7 w b o cs:=by
 intro i a;rw[h.cell (o+i) (hc i a).1,(hc i a).2]
end
def Qe(w:tA)(v:tE)(bs:List UInt8):Prop:=∃a cap,v=tN a bs.length cap∧bs.length<=cap∧((bs=[]∧(a=V->cap=0))∨∃b o,a=T ⟨b,o,V⟩∧K7 w b o bs)
theorem Qe.grown{w w':tA}{v:tE}{bs:List UInt8}(h:Qe w v bs)(hg:tB w w' V):Qe w' v bs:=by
 obtain⟨a,cap,rfl,c,h⟩:=h;refine⟨a,cap,rfl,c,?_⟩;rcases h with h|⟨b,o,rfl,h⟩;·exact .inl h
 ·exact .inr ⟨b,o,rfl,h.grown hg (by simp)⟩
theorem Qe.alloc{w:tA}{v:tE}{bs:List UInt8}(h:Qe w v bs)(o:Obj):Qe (w.alloc o) v bs:=h.grown (World.grownBy_alloc _ _ _)
theorem Qe.drew{w:tA}{v:tE}{bs:List UInt8}(h:Qe w v bs):Qe w.drew v bs:=h
theorem Qe.drewN{w:tA}{v:tE}{bs:List UInt8}(h:Qe w v bs)(n:Nat):Qe (w.drewN n) v bs:=h
theorem ZN.slice{w:tA}{b:Nat}{bs:List UInt8}(h:ZN w b bs)(cap:Nat)(hc:bs.length<=cap):Qe w (tN (T ⟨b,0,V⟩) bs.length cap) bs:=⟨_,cap,rfl,hc,.inr ⟨b,0,rfl,h.at 0 bs fun i a=>by
 simpa using a⟩⟩
theorem Qw(w:tA):Qe w (tN V 0 0) []:=⟨V,0,rfl,sM _,.inl ⟨rfl,fun _=>rfl⟩⟩
def UE(n:Nat):List UInt8:=List.replicate n 0
theorem MH(n:Nat):(UE n).length=n:=by
 simp[UE]
theorem Hc(n:Nat):madeCells (tR .u8 0).cells (n*1)=ZZ (UE n):=by
 apply Array.ext;·simp[size_madeCells,ZZ,UE]
 ·intro i a b;simp[madeCells,ZZ,UE,Value.cells,Nat.mod_one]
theorem nV:(tI.info? 5).map (fun i=>(i.zero,i.size,i.bytes))=T (T (tR .u8 0),1,1):=by
 kernel_rfl
theorem nS:(tI.info? 5).map (·.size)=T 1:=by
 kernel_rfl
theorem L3(W:tA)(c:Int)(n:Nat)(hc:c=(n:Int))(hn:n<=1000000):(Instr.makeSlice 25 (tR .i64 c) (tR .i64 c)).run tI W=.ok (tN (T ⟨W.heap.size,0,V⟩) n n) (W.alloc (tQ (ZZ (UE n)) 5)):=by
 subst hc;obtain⟨f,e,a,b,d⟩:=info_parts nV;have h:=run_make (P:=tI) W 25 5 f (tR .u8 0) Tryz.underlying25 e a .i64 .i64 (n:Int) (n:Int) (by omega) (Int.le_refl _) (by rw[d];omega) (by omega);rw[h,b,Int.toNat_natCast,Hc]
theorem uU(bs:List UInt8):∀v∈(bs.map fun c=>tR .u8 (c.toNat:Int)),v.oneCell'=tC:=by
 intro v a;obtain⟨c,_,rfl⟩:=List.mem_map.1 a;rfl
theorem DA(w:tA)(X Y:Array tE)(t:TypeId):(w.alloc (tQ X t)).setRow w.heap.size Y=w.alloc (tQ Y t):=by
 simp only[World.setRow,World.alloc];congr 1;apply Array.ext;·simp
 ·intro i b a;simp only[Array.getElem_modify,Array.getElem_push];(have c:i<w.heap.size+1:=by simpa using a);split<;>split<;>first|rfl|omega|(exfalso;omega)|simp_all
theorem Hx(w:tA)(a:Option Addr)(bs:List UInt8)(cap n m ty:Nat)(hn:bs.length<=n)(hs:Qe w (tN a bs.length cap) bs):(Builtin.copy_ #[25,25] ty #[tN (T ⟨w.heap.size,0,V⟩) n m,tN a bs.length cap]).run tI (w.alloc (tQ (ZZ (UE n)) 5))=.ok (tR .i64 (bs.length:Int)) (w.alloc (tQ (ZZ (bs++UE (n-bs.length))) 5)):=by
 obtain⟨k,g,e,l,h⟩:=hs.alloc (tQ (ZZ (UE n)) 5);simp only[Value.slice.injEq,true_and]at e;obtain⟨rfl,rfl⟩:=e;by_cases i:bs=[];·subst i;have:=run_copy_none (P:=tI) (w.alloc (tQ (ZZ (UE n)) 5)) 25 25 ty 5 (T ⟨w.heap.size,0,V⟩) a n m 0 cap Tryz.underlying25 nS (by simp);simpa[goInt]using this
 ·rcases h with h|⟨b,o,rfl,h⟩;(·exact absurd h.1 i);·have:=run_copy_row (P:=tI) (w.alloc (tQ (ZZ (UE n)) 5)) 25 25 ty 5 w.heap.size 0 n m ⟨b,o,V⟩ bs.length cap (ZZ (UE n)) 5 (bs.map fun c=>tR .u8 (c.toNat:Int)) Tryz.underlying25 nS (heap_alloc_new w _) (by simp only[List.length_map];exact(Nat.min_eq_left hn).symm) (by intro j v d;rw[List.getElem?_map]at d;cases hb:bs[j]?with|none=>rw[hb]at d;simp at d|some c=>rw[hb]at d;simp at d;subst d;rw[Xc];have f:j<bs.length:=(List.getElem?_eq_some_iff.1 hb).1;rw[h j f];simp[hb]) (by simp[ZZ,UE];exact hn) (uU bs);rw[this,DA];simp[goInt,ZZ,UE]
def Gk(bs:List UInt8):List tE:=bs.map fun c=>tR .u8 (c.toNat:Int)
theorem fI(bs:List UInt8):(Gk bs).length=bs.length:=by
 simp[Gk]
theorem CI(a b:List UInt8):Gk (a++b)=Gk a++Gk b:=by
 simp[Gk]
theorem Sb(bs:List UInt8)(j:Nat)(u:tE)(h:(Gk bs)[j]?=T u):j<bs.length∧u=tR .u8 ((bs.getD j 0).toNat:Int):=by
 rw[Gk,List.getElem?_map]at h;cases hb:bs[j]?with|none=>rw[hb]at h;simp at h|some c=>rw[hb]at h;simp at h;exact⟨(List.getElem?_eq_some_iff.1 hb).1,by simp[hb,<-h]⟩
def Za(base:Nat)(w:tA)(v:tE)(bs:List UInt8):Prop:=w.ownsRow base 5 1 v bs.length (Gk bs)
theorem QR(base:Nat)(w:tA):Za base w (tN V 0 0) []:=World.ownsRow_nil _ _ _ _
theorem Za.grown{base:Nat}{w w':tA}{v:tE}{bs:List UInt8}(h:Za base w v bs){row:Option Nat}(hg:tB w w' row)(hne:v.ownBlock=V∨v.ownBlock≠row):Za base w' v bs:=World.ownsRow.kept h hg hne
theorem Za.grownNone{base:Nat}{w w':tA}{v:tE}{bs:List UInt8}(h:Za base w v bs)(hg:tB w w' V):Za base w' v bs:=by
 refine h.grown hg ?_;cases hv:v.ownBlock with|none=>exact .inl rfl|some k=>exact .inr (by simp)
theorem Za.alloc{base:Nat}{w:tA}{v:tE}{bs:List UInt8}(h:Za base w v bs)(o:Obj):Za base (w.alloc o) v bs:=World.ownsRow.alloc h o
theorem Za.slice{base:Nat}{w:tA}{v:tE}{bs:List UInt8}(h:Za base w v bs):Qe w v bs:=by
 obtain⟨m,d⟩:=h;rcases d with⟨rfl,c⟩|⟨g,cap,a,rfl,n,j,k,o,p,l⟩;·obtain rfl:=tG c;exact Qw w
 ·refine⟨_,cap,rfl,k,.inr ⟨g,0,rfl,?_⟩⟩;intro i b;(have f:a.toList[i]?=T (tR .u8 ((bs.getD i 0).toNat:Int)):=by(have e:(a.toList.take (bs.length*1))[i]?=(Gk bs)[i]?:=by rw[l]);rw[List.getElem?_take,if_pos (by omega)]at e;rw[e,Gk,List.getElem?_map,List.getElem?_eq_getElem b];simp[b]);simp[sL,j];simpa using f
theorem Za.lt{base:Nat}{w:tA}{v:tE}{bs:List UInt8}(h:Za base w v bs):∀k,v.ownBlock=T k->base<=k∧k<w.heap.size:=World.ownsRow.lt h
theorem Za.shape{base:Nat}{w:tA}{v:tE}{bs:List UInt8}(h:Za base w v bs):∃a cap,v=tN a bs.length cap:=by
 obtain⟨a,cap,e,_⟩:=h.slice;exact⟨a,cap,e⟩
theorem Rw(base:Nat)(w:tA)(bs:List UInt8)(hb:base<=w.heap.size)(hm:bs.length<=maxLen):Za base (w.alloc (tQ (ZZ bs) 5)) (tN (T ⟨w.heap.size,0,V⟩) bs.length bs.length) bs:=⟨by
 simp[Gk],.inr ⟨w.heap.size,bs.length,ZZ bs,rfl,hb,heap_alloc_new w _,sM _,hm,by
 simp[ZZ],by
 simp[ZZ,Gk,List.take_of_length_le]⟩⟩
theorem Xs{w W w1:tA}{v:tE}{bs:List UInt8}(h:tB w W V)(ho:Za w.heap.size W v bs)(hg:tB W w1 v.ownBlock):tB w w1 V:=⟨hg.os.trans h.os,hg.tape.trans h.tape,hg.output.trans h.output,Nat.le_trans h.size hg.size,fun i a b=>(hg.block i (tX a h.size) (fun e=>by
 have:=(ho.lt i e.symm).1;omega)).trans (h.block i a b)⟩
theorem DO(w:tA)(base ty:Nat)(v:tE)(bs:List UInt8)(hown:Za base w v bs)(a:Option Addr)(m cap:Nat)(cs:List UInt8)(hs:Qe w (tN a m cap) cs)(hbytes:bs.length+m<=140737488355328)(hbase:base<=w.heap.size):∃v' w',(Builtin.append_ #[25,25] ty #[v,tN a m cap]).run tI w=.ok v' w'∧Za base w' v' (bs++cs)∧tB w w' v.ownBlock:=by
 obtain⟨q,p,i,k,l⟩:=info_parts nV;obtain⟨z,n,e,A,h⟩:=hs;simp only[Value.slice.injEq]at e;obtain⟨rfl,rfl,rfl⟩:=e;have f:bs.length+cs.length<=maxLen:=by unfold maxLen;omega
 have key:∀d:Addr,(∀j u,(Gk cs)[j]?=T u->w.cell? (d.add j)=T u)->∃v' w',(Builtin.append_ #[25,25] ty #[v,tN (T d) cs.length cap]).run tI w=.ok v' w'∧Za base w' v' (bs++cs)∧tB w w' v.ownBlock:=by intro d c;obtain⟨v',w',x,t,r,_⟩:=run_append_own (P:=tI) w base 25 ty 5 q (tR .u8 0) 1 1 Tryz.underlying25 p i k l rfl (by decide) v bs.length (Gk bs) hown d cs.length cap (Gk cs) (by simp[Gk]) c (uU cs) f (by omega) hbase;refine⟨v',w',x,?_,r⟩;unfold Za;rw[CI,tF];exact t
 rcases h with⟨rfl,y⟩|⟨b,o,rfl,h⟩;·cases a with|none=>obtain rfl:=y rfl;refine⟨v,w,run_append_owned_none (P:=tI) (w:=w) base 25 ty 5 q 1 Tryz.underlying25 p v bs.length (Gk bs) hown,?_,Qb _ _⟩;rw[sH];exact hown|some d=>exact key d (by simp[Gk])
 ·refine key ⟨b,o,V⟩ fun j u s=>?_;obtain⟨g,rfl⟩:=Sb cs j u s;rw[Xc];exact h j g
theorem QI{w:tA}{ops:Array Oper}{rest:List Oper}{o:Oper}{a:Act}{Q:Exit->Act->tA->Prop}(hgd:o.guard=V)(s x:Operand)(ho:o.op=.call {callee:=.builtin .append,args:=#[s,x],argTypes:=#[25,25]})(base:Nat)(v:tE)(bs:List UInt8)(hs:a.eval s=v)(hown:Za base w v bs)(xa:Option Addr)(m cap:Nat)(cs:List UInt8)(hx:a.eval x=tN xa m cap)(hsl:Qe w (tN xa m cap) cs)(hbytes:bs.length+m<=140737488355328)(hbase:base<=w.heap.size)(h:∀v' w',Za base w' v' (bs++cs)->tB w w' v.ownBlock->wpList tI ops Q rest (a.put o.dst v') w'):wpList tI ops Q (o::rest) a w:=by
 refine wpList_plain hgd fun K d=>?_;obtain⟨v',w',b,c,e⟩:=DO w base o.type v bs hown xa m cap cs hsl hbytes hbase;unfold Oper.wp;simp[execOp,ho,resolve,invoke,builtin,hs,hx,b,Result.andThen];exact d _ _ (h v' w' c e)
theorem Qe.take{w:tA}{a:Option Addr}{m cap:Nat}{bs:List UInt8}(h:Qe w (tN a m cap) bs)(k:Nat)(hk:k<=m):Qe w (tN a k cap) (bs.take k):=by
 obtain⟨j,c,e,l,h⟩:=h;simp only[Value.slice.injEq]at e;obtain⟨rfl,rfl,rfl⟩:=e;have f:(bs.take k).length=k:=by simp;omega
 refine⟨a,cap,by rw[f],by omega,?_⟩;rcases h with⟨rfl,g⟩|⟨b,o,rfl,h⟩;·exact .inl ⟨by simp,g⟩
 ·refine .inr ⟨b,o,rfl,fun i d=>?_⟩;rw[h i (by omega)];rw[f]at d;simp[d]
theorem Ou(bs:List UInt8)(s:ByteArray):((bs.map fun c=>((c.toNat:Nat):Int)).foldl (fun r n=>r.push (tK n.toNat)) s)=⟨s.data++bs.toArray⟩:=by
 induction bs generalizing s with|nil=>simp|cons c bs ih=>simp only[List.map_cons,List.foldl_cons];rw[ih];congr 1;simp[ByteArray.push]
def vL(bs:List UInt8):ByteArray:=⟨bs.toArray⟩
theorem Tk(bs:List UInt8):(vL bs).toList=bs:=by
 rw[Lib.toList_data];rfl
theorem xB(W:tA)(v:tE)(bs:List UInt8)(hs:Qe W v bs):(convert 25 9 v).run tI W=.ok (.string (vL bs)) W:=by
 obtain⟨a,cap,rfl,k,h⟩:=hs;rw[run_convert_bytes_string W 25 9 5 a bs.length cap Tryz.underlying25 Tryz.underlying5 Tryz.underlying9];have key:∀e:Addr,(∀j u,(Gk bs)[j]?=T u->W.cell? (e.add j)=T u)->(Conv.bytesToString (tN (T e) bs.length cap)).run tI W=.ok (.string (vL bs)) W:=by intro e d;have g:=run_loadCells_list (P:=tI) W e (Gk bs) d;rw[fI]at g;have:=run_bytesToString (P:=tI) W e bs.length cap (bs.map fun c=>((c.toNat:Nat):Int)) (by rw[g];simp[Gk]);rw[this,Ou];simp[vL]
 rcases h with⟨rfl,l⟩|⟨b,o,rfl,h⟩;·cases a with|none=>simp[Conv.bytesToString,vL];rfl|some e=>exact key e (by simp[Gk])
 ·refine key ⟨b,o,V⟩ fun j u i=>?_;obtain⟨f,rfl⟩:=Sb bs j u i;rw[Xc];exact h j f
theorem ZN.slice32{w:tA}{b:Nat}{bs:List UInt8}(h:ZN w b bs)(hl:bs.length=32):Qe w (tN (T ⟨b,0,V⟩) 32 32) bs:=by
 have:=h.slice 32 (by omega);rw[hl]at this;exact this
theorem Uu(w:tA)(x:UInt8)(t:TypeId):Qe (w.alloc (tQ #[tR .u8 (x.toNat:Int)] t)) (tN (T ⟨w.heap.size,0,V⟩) 1 1) [x]:=(ZN.new w t [x]).slice 1 (by
 simp)
theorem M2(w:tA)(x y:UInt8)(t:TypeId):Qe (w.alloc (tQ #[tR .u8 (x.toNat:Int),tR .u8 (y.toNat:Int)] t)) (tN (T ⟨w.heap.size,0,V⟩) 2 2) [x,y]:=(ZN.new w t [x,y]).slice 2 (by
 simp)
theorem KT{base base':Nat}{w:tA}{v:tE}{bs:List UInt8}(h:Za base w v bs)(hb:base'<=base):Za base' w v bs:=by
 refine⟨h.1,?_⟩;rcases h.2with b|⟨g,cap,a,c,b,d⟩;·exact .inl b
 ·exact .inr ⟨g,cap,a,c,Nat.le_trans hb b,d⟩
end
structure Ac where
  kind : Int
  sess : Int
  keep : Int
  data : List UInt8
def Vf:Ac:=⟨0,0,0,[]⟩
def Jd(a:Ac):Int:=if 1<=a.kind∧a.kind<=4then(if(a.kind=1∧¬(0<=a.sess∧a.sess<=7))∨(a.kind=3∧¬(0<=a.keep∧a.keep<=200000))then 2 else if 4000<a.data.length then 1 else if(a.kind≠1∧a.sess≠0)∨(a.kind≠3∧a.keep≠0)∨(a.kind≠1∧0<a.data.length)then 4 else 0)else 5
structure Xx(a:Ac):Prop where kind:1<=a.kind∧a.kind<=4sess:a.kind=1->0<=a.sess∧a.sess<=7keep:a.kind=3->0<=a.keep∧a.keep<=200000data:a.data.length<=4000noSess:a.kind≠1->a.sess=0noKeep:a.kind≠3->a.keep=0noData:a.kind≠1->a.data=[]
theorem Pa(a:Ac):Jd a=0↔Xx a:=by
 unfold Jd;by_cases g:1<=a.kind∧a.kind<=4;·rw[if_pos g];by_cases c:(a.kind=1∧¬(0<=a.sess∧a.sess<=7))∨(a.kind=3∧¬(0<=a.keep∧a.keep<=200000));(·rw[if_pos c];refine⟨fun e=>(by cases e),fun h=>?_⟩;rcases c with⟨c,d⟩|⟨c,d⟩;(·exact absurd (h.sess c) d);·exact absurd (h.keep c) d);·rw[if_neg c];by_cases d:4000<a.data.length;(·rw[if_pos d];exact⟨fun e=>(by cases e),fun h=>by have:=h.data;omega⟩);·rw[if_neg d];by_cases b:(a.kind≠1∧a.sess≠0)∨(a.kind≠3∧a.keep≠0)∨(a.kind≠1∧0<a.data.length);(·rw[if_pos b];refine⟨fun e=>(by cases e),fun h=>?_⟩;rcases b with⟨b,f⟩|⟨b,f⟩|⟨b,f⟩;(·exact absurd (h.noSess b) f);(·exact absurd (h.noKeep b) f);·rw[h.noData b]at f;simp at f);·rw[if_neg b];refine⟨fun _=>⟨g,fun h=>?_,fun h=>?_,by omega,fun h=>?_,fun h=>?_,fun h=>?_⟩,fun _=>rfl⟩;(·exact Classical.byContradiction fun e=>c (.inl ⟨h,e⟩));(·exact Classical.byContradiction fun e=>c (.inr ⟨h,e⟩));(·exact Classical.byContradiction fun e=>b (.inl ⟨h,e⟩));(·exact Classical.byContradiction fun e=>b (.inr (.inl ⟨h,e⟩)));·refine tG ?_;have:¬0<a.data.length:=fun e=>b (.inr (.inr ⟨h,e⟩));omega
 ·rw[if_neg g];exact⟨fun e=>(by cases e),fun h=>absurd h.kind g⟩
def rD(n:Nat):UInt8:=tK (48+n)
def oJ(n:Nat):List UInt8:=if n<10then[rD n]else oJ (n/10)++[rD (n%10)]termination_by n decreasing_by
 omega
def pX(n:Nat):UInt8:=if n<10then tK (48+n)else tK (87+n)
def rV(bs:List UInt8):List UInt8:=bs.flatMap fun c=>[pX (c.toNat/16),pX (c.toNat%16)]
def rW:List UInt8:=[97,115,107]
def pL:List UInt8:=[115,121,110,99]
def oV:List UInt8:=[99,114,97,115,104]
def n9:List UInt8:=[115,116,97,114,116]
def rN(a:Ac):List UInt8:=if a.kind=1then rW++32::(oJ a.sess.toNat++32::rV a.data)else if a.kind=2then pL else if a.kind=3then oV++32::oJ a.keep.toNat else if a.kind=4then n9 else[]
theorem Zr(w:tA)(o:Obj):∃W:tA,Hid (W=w.alloc o)∧tB w W V∧Hid (W.heap[w.heap.size]?=T o):=⟨w.alloc o,rfl,World.grownBy_alloc _ _ _,heap_alloc_new w o⟩
theorem Qe.shape{w:tA}{v:tE}{bs:List UInt8}(h:Qe w v bs):∃a cap,v=tN a bs.length cap:=by
 obtain⟨a,cap,rfl,_⟩:=h;exact⟨a,cap,rfl⟩
theorem QJ{W w:tA}{b:Nat}{x y:tE}{t:TypeId}(hg:tB W w V)(h:W.heap[b]?=T (tQ #[x,y] t)):w.cell? ⟨b,0,V⟩=T x∧w.cell? ⟨b,1,V⟩=T y∧w.frozen? ⟨b,0,V⟩=tH∧w.frozen? ⟨b,1,V⟩=tH:=by
 have a:w.heap[b]?=T (tQ #[x,y] t):=by rw[hg.block b (tS.1 h).1 (by simp)];exact h
 refine⟨by simp[sL,a],by simp[sL,a],by simp[World.frozen?,a],by simp[World.frozen?,a]⟩
theorem yS{W w:tA}{b:Nat}{x y:tE}{t:TypeId}(hg:tB W w V)(h:W.heap[b]?=T (tQ #[x,y] t)){G:Prop}(k:w.heap[b]?=T (tQ #[x,y] t)->w.cell? ⟨b,0,V⟩=T x->w.cell? ⟨b,1,V⟩=T y->w.frozen? ⟨b,0,V⟩=tH->w.frozen? ⟨b,1,V⟩=tH->G):G:=by
 obtain⟨a,c,d,e⟩:=QJ hg h;exact k (by rw[hg.block b (tS.1 h).1 (by simp)];exact h) a c d e
theorem Qd{W w:tA}{b:Nat}{o:Obj}(hg:tB W w V)(h:W.heap[b]?=T o):w.heap[b]?=T o:=by
 rw[hg.block b (tS.1 h).1 (by simp)];exact h
def Qh(base:Nat)(w:tA)(v:tE)(bs:List UInt8):Prop:=Qe w v bs∧(bs=[]∨∃b,v.ownBlock=T b∧b<w.heap.size∧(b<base∨∃cur fz,w.heap[b]?=T (tQ cur 5 fz)))
theorem Qh.slice{base:Nat}{w:tA}{v:tE}{bs:List UInt8}(h:Qh base w v bs):Qe w v bs:=h.1
theorem Za.part{base base':Nat}{w:tA}{v:tE}{bs:List UInt8}(h:Za base' w v bs):Qh base w v bs:=by
 refine⟨h.slice,?_⟩;rcases h.2with⟨rfl,c⟩|⟨g,cap,a,rfl,d,b,_⟩;·exact .inl (tG c)
 ·exact .inr ⟨g,rfl,(tS.1 b).1,.inr ⟨a,_,b⟩⟩
theorem U1{w:tA}{b o:Nat}{v:tE}(h:w.cell? ⟨b,o,V⟩=T v):b<w.heap.size:=by
 by_cases a:b<w.heap.size;·exact a
 ·simp[sL,Array.getElem?_eq_none (Nat.le_of_not_lt a)]at h
theorem Qe.part{w w':tA}{v:tE}{bs:List UInt8}(h:Qe w v bs)(hg:tB w w' V)(base:Nat)(hb:w.heap.size<=base):Qh base w' v bs:=by
 refine⟨h.grown hg,?_⟩;obtain⟨a,cap,rfl,e,h⟩:=h;rcases h with⟨rfl,_⟩|⟨b,o,rfl,h⟩;·exact .inl rfl
 ·by_cases c:bs=[];(·exact .inl c);·have d:0<bs.length:=List.length_pos_iff.2 c;have:=U1 (h 0 d);exact .inr ⟨b,rfl,tX this hg.size,.inl (by omega)⟩
theorem Qh.mono{base base':Nat}{w:tA}{v:tE}{bs:List UInt8}(h:Qh base w v bs)(hb:base<=base'):Qh base' w v bs:=by
 refine⟨h.1,?_⟩;rcases h.2with h|⟨b,c,d,a⟩;·exact .inl h
 ·refine .inr ⟨b,c,d,?_⟩;rcases a with a|a;(·exact .inl (by omega));·exact .inr a
theorem ZH{base:Nat}{w:tA}{v:tE}{bs:List UInt8}(h:Qh base w v bs):v.oneCell'=tC:=by
 obtain⟨⟨a,cap,rfl,_⟩,_⟩:=h;rfl
theorem Qh.keptT{base:Nat}{w w':tA}{v:tE}{bs:List UInt8}(h:Qh base w v bs){row:Option Nat}(hg:tB w w' row)(hrow:row=V∨∃g cur t fz,row=T g∧base<=g∧w.heap[g]?=T (tQ cur t fz)∧t≠5):Qh base w' v bs:=by
 obtain⟨q,x⟩:=h;rcases x with rfl|⟨b,l,j,c⟩;·obtain⟨a,cap,rfl,c,h⟩:=q;refine⟨⟨a,cap,rfl,c,?_⟩,.inl rfl⟩;rcases h with h|⟨b,o,rfl,h⟩;(·exact .inl h);·exact .inr ⟨b,o,rfl,fun i n=>by simp at n⟩
 ·(have k:T b≠row:=by intro e;rcases hrow with rfl|⟨g,cur,t,fz,rfl,u,d,y⟩;(·cases e);·cases e;rcases c with c|⟨p,s,c⟩;(·omega);·rw[c]at d;simp only[tV,Obj.cells.injEq]at d;exact y d.2.1.symm);have f:=hg.block b j k;refine⟨?_,.inr ⟨b,l,tX j hg.size,?_⟩⟩;(·obtain⟨a,cap,rfl,m,h⟩:=q;refine⟨a,cap,rfl,m,?_⟩;rcases h with h|⟨r,o,rfl,h⟩;(·exact .inl h);·refine .inr ⟨r,o,rfl,fun i n=>?_⟩;simp[Value.ownBlock]at l;subst l;exact hg.cell (h i n) (by simpa using k));·rcases c with c|⟨cur,fz,c⟩;(·exact .inl c);·exact .inr ⟨cur,fz,by rw[f];exact c⟩
def ZG(k:List UInt8)(i:Nat):Bool:=if i/9<k.length then(if i%9=0then tC else(k.getD (i/9) 0).toNat.testBit (8-i%9))else tH
theorem Uv(k:List UInt8)(p:Nat):ZG k (9*p)=tP (p<k.length):=by
 unfold ZG;rw[show 9*p/9=p by omega,show 9*p%9=0 by omega];by_cases h:p<k.length<;>simp[h]
theorem Uw(k:List UInt8)(p r:Nat)(hp:p<k.length)(hr:1<=r)(hr8:r<=8):ZG k (9*p+r)=(k.getD p 0).toNat.testBit (8-r):=by
 unfold ZG;rw[show(9*p+r)/9=p by omega,show(9*p+r)%9=r by omega,if_pos hp,if_neg (by omega)]
theorem MP(k:List UInt8)(i:Nat)(h:k.length<=i/9):ZG k i=tH:=by
 unfold ZG;rw[if_neg (by omega)]
theorem AA(x y:UInt8)(h:∀j,j<8->x.toNat.testBit j=y.toNat.testBit j):x=y:=by
 apply UInt8.toNat_inj.1;apply Nat.eq_of_testBit_eq;intro j;by_cases a:j<8;·exact h j a
 ·rw[Nat.testBit_lt_two_pow (tX x.toNat_lt (Nat.pow_le_pow_right (by decide) (by omega:8<=j))),Nat.testBit_lt_two_pow (tX y.toNat_lt (Nat.pow_le_pow_right (by decide) (by omega:8<=j)))]
theorem aE(a b:List UInt8)(ha:a.length<=16)(hb:b.length<=16)(h:∀i,i<145->ZG a i=ZG b i):a=b:=by
 have f:a.length=b.length:=by have c:=h (9*a.length) (by omega);have d:=h (9*b.length) (by omega);rw[Uv,Uv]at c d;simp at c d;omega
 apply List.ext_getElem f;intro p c d;have e:a.getD p 0=b.getD p 0:=by apply AA;intro j g;have:=h (9*p+(8-j)) (by omega);rw[Uw a p _ c (by omega) (by omega),Uw b p _ d (by omega) (by omega),show 8-(8-j)=j by omega]at this;exact this
 simpa[c,d]using e
def jT(a b:List UInt8):Nat->Nat->Int|0,_=>-1|n+1,i=>if ZG a i=ZG b i then jT a b n (i+1)else(i:Int)
def Kb(a b:List UInt8):Int:=jT a b 145 0
theorem NP(a b:List UInt8)(n i:Nat):(jT a b n i=-1∧∀j,i<=j->j<i+n->ZG a j=ZG b j)∨∃m:Nat,jT a b n i=(m:Int)∧i<=m∧m<i+n∧(∀j,i<=j->j<m->ZG a j=ZG b j)∧ZG a m≠ZG b m:=by
 induction n generalizing i with|zero=>exact .inl ⟨rfl,fun j _ h=>by omega⟩|succ n ih=>unfold jT;by_cases d:ZG a i=ZG b i;(·rw[if_pos d];rcases ih (i+1)with⟨f,g⟩|⟨m,f,g,p,k,l⟩;(·refine .inl ⟨f,fun j o e=>?_⟩;by_cases c:j=i;(·subst c;exact d);·exact g j (by omega) (by omega));·refine .inr ⟨m,f,by omega,by omega,fun j o e=>?_,l⟩;by_cases c:j=i;(·subst c;exact d);·exact k j (by omega) e);·rw[if_neg d];exact .inr ⟨i,rfl,sM _,by omega,fun j f g=>by omega,d⟩
theorem Kh(a b:List UInt8):(Kb a b=-1∧∀j,j<145->ZG a j=ZG b j)∨∃m:Nat,Kb a b=(m:Int)∧m<145∧(∀j,j<m->ZG a j=ZG b j)∧ZG a m≠ZG b m:=by
 rcases NP a b 145 0with⟨c,e⟩|⟨m,c,_,h,f,g⟩;·exact .inl ⟨c,fun j d=>e j (by omega) (by omega)⟩
 ·exact .inr ⟨m,c,by omega,fun j d=>f j (by omega) d,g⟩
theorem Bi(a b:List UInt8)(m:Nat)(hm:m<145)(h:∀j,j<m->ZG a j=ZG b j)(hd:ZG a m≠ZG b m):Kb a b=(m:Int):=by
 rcases Kh a b with⟨_,f⟩|⟨e,g,f,i,k⟩;·exact absurd (f m hm) hd
 ·by_cases d:e<m;(·exact absurd (h e d) k);·by_cases c:m<e;(·exact absurd (i m c) hd);·rw[g];omega
theorem Er(a b:List UInt8)(h:∀j,j<145->ZG a j=ZG b j):Kb a b=-1:=by
 rcases Kh a b with⟨c,_⟩|⟨f,_,d,_,e⟩;·exact c
 ·exact absurd (h f d) e
theorem Tr(a b:List UInt8):-1<=Kb a b∧Kb a b<=144:=by
 rcases Kh a b with⟨h,_⟩|⟨m,h,c,_⟩<;>omega
theorem Lq(a b:List UInt8)(ha:a.length<=16)(hb:b.length<=16):Kb a b<0↔a=b:=by
 constructor;·intro h;rcases Kh a b with⟨_,c⟩|⟨m,d,_⟩;(·exact aE a b ha hb c);·omega
 ·rintro rfl;rw[Er a a fun _ _=>rfl];decide
theorem FW(x y:UInt8)(a b:List UInt8):sV (x::a) (y::b)=(tP (x<y)||(x==y&&sV a b)):=by
 simp[sV]
theorem M7:∀(p:Nat)(a b:List UInt8),(∀i,i<p->i<a.length∧i<b.length∧a.getD i 0=b.getD i 0)->sV a b=sV (a.drop p) (b.drop p)|0,a,b,_=>by simp|p+1,[],b,h=>by have:=(h 0 (by omega)).1;simp at this|p+1,x::a,[],h=>by have:=(h 0 (by omega)).2.1;simp at this|p+1,x::a,y::b,h=>by have c:=(h 0 (by omega)).2.2;simp at c;subst c;rw[FW,List.drop_succ_cons,List.drop_succ_cons,<-M7 p a b fun i d=>by have:=h (i+1) (by omega);simp at this;simpa using this];simp
theorem BZ(a:List UInt8):sV a []=tH:=by
 cases a<;>rfl
theorem Te(a:List UInt8)(p:Nat)(h:p<a.length):a.drop p=a.getD p 0::a.drop (p+1):=by
 rw[sQ h];simp[h]
theorem Ms(x y j:Nat)(hx:x.testBit j=tH)(hy:y.testBit j=tC)(h:∀i,j<i->x.testBit i=y.testBit i):x<y:=by
 have a:x/2^(j+1)=y/2^(j+1):=by apply Nat.eq_of_testBit_eq;intro i;rw[Nat.testBit_div_two_pow,Nat.testBit_div_two_pow];exact h _ (by omega)
 rw[Nat.testBit_eq_decide_div_mod_eq]at hx hy;simp at hx hy;rw[Nat.pow_succ,<-Nat.div_div_eq_div_mul,<-Nat.div_div_eq_div_mul]at a;exact Nat.lt_of_div_lt_div (c:=2^j) (by omega)
theorem bI(x y:UInt8)(j:Nat)(hd:x.toNat.testBit j≠y.toNat.testBit j)(h:∀i,j<i->x.toNat.testBit i=y.toNat.testBit i):(tP (x<y)||(x==y&&tH))=y.toNat.testBit j:=by
 cases hy:y.toNat.testBit j with|true=>(have a:x.toNat.testBit j=tH:=by cases a:x.toNat.testBit j with|true=>exact absurd (a.trans hy.symm) hd|false=>rfl);have:=Ms _ _ j a hy h;simp[UInt8.lt_iff_toNat_lt,this]|false=>(have a:x.toNat.testBit j=tC:=by cases a:x.toNat.testBit j with|true=>rfl|false=>exact absurd (a.trans hy.symm) hd);have:=Ms _ _ j hy a (fun i b=>(h i b).symm);simp[UInt8.lt_iff_toNat_lt];omega
theorem NA(a b:List UInt8)(m:Nat)(h:∀j,j<m->ZG a j=ZG b j)(hd:ZG a m≠ZG b m):ZG b m=sV a b:=by
 have q:m/9<a.length∨m/9<b.length:=by by_cases r:m/9<a.length;(·exact .inl r);·by_cases s:m/9<b.length;(·exact .inr s);·rw[MP a m (by omega),MP b m (by omega)]at hd;exact absurd rfl hd
 have n:∀i,i<m/9->i<a.length∧i<b.length∧a.getD i 0=b.getD i 0:=by intro i t;have k:=h (9*i) (by omega);rw[Uv,Uv]at k;(have c:i<a.length∧i<b.length:=by simp at k;omega);refine⟨c.1,c.2,AA _ _ fun j v=>?_⟩;have:=h (9*i+(8-j)) (by omega);rw[Uw a i _ c.1 (by omega) (by omega),Uw b i _ c.2 (by omega) (by omega),show 8-(8-j)=j by omega]at this;exact this
 rw[M7 (m/9) a b n];by_cases w:m%9=0;·(have o:m=9*(m/9):=by omega);have g:=Uv a (m/9);have f:=Uv b (m/9);rw[<-o]at g f;by_cases d:m/9<b.length;(·have l:¬m/9<a.length:=fun l=>hd (by rw[g,f];simp[l,d]);rw[f,sI (by omega),Te b _ d];simp[d,sV]);·rw[f,sI (show b.length<=m/9by omega),BZ];simp[d]
 ·have k:=h (9*(m/9)) (by omega);rw[Uv,Uv]at k;(have c:m/9<a.length∧m/9<b.length:=by simp at k;omega);(have o:m=9*(m/9)+m%9:=by omega);have g:=Uw a (m/9) (m%9) c.1 (by omega) (by omega);have f:=Uw b (m/9) (m%9) c.2 (by omega) (by omega);rw[<-o]at g f;rw[Te a _ c.1,Te b _ c.2,FW,f];rw[g,f]at hd;(have p:(a.getD (m/9) 0==b.getD (m/9) 0)=tH:=by rw[beq_eq_false_iff_ne];intro e;rw[e]at hd;exact hd rfl);rw[p,Bool.false_and];have:=bI (a.getD (m/9) 0) (b.getD (m/9) 0) (8-m%9) hd (fun i t=>by by_cases u:i<8;(·have:=h (9*(m/9)+(8-i)) (by omega);rw[Uw a _ _ c.1 (by omega) (by omega),Uw b _ _ c.2 (by omega) (by omega),show 8-(8-i)=i by omega]at this;exact this);·rw[Nat.testBit_lt_two_pow (tX (a.getD (m/9) 0).toNat_lt (Nat.pow_le_pow_right (by decide) (by omega:8<=i))),Nat.testBit_lt_two_pow (tX (b.getD (m/9) 0).toNat_lt (Nat.pow_le_pow_right (by decide) (by omega:8<=i)))]);rw[Bool.and_false]at this;exact this.symm
def Qn(n:Nat):Int:=if 1<=n∧n<=16then 0 else 1
def PA(k:List UInt8)(i:Int):Bool×Int:=if 1<=k.length∧k.length<=16then(if 0<=i∧i<=144then(ZG k i.toNat,0)else(tH,2))else(tH,1)
def Rz(a b:List UInt8):Int×Int:=if 1<=a.length∧a.length<=16then(if 1<=b.length∧b.length<=16then(Kb a b,0)else(0,1))else(0,1)
theorem lH(k:List UInt8)(i:Nat)(hk:1<=k.length∧k.length<=16)(hi:i<145):PA k (i:Int)=(ZG k i,0):=by
 rw[PA,if_pos hk,if_pos (by omega)];rfl
theorem eM(a b:List UInt8)(ha:1<=a.length∧a.length<=16)(hb:1<=b.length∧b.length<=16):Rz a b=(Kb a b,0):=by
 rw[Rz,if_pos ha,if_pos hb]
structure Q6 where
  name : List UInt8
  key : List UInt8
  value : List UInt8
  gone : Bool
def Y1(p:Q6):Prop:=p.name.length<=140737488355328∧p.key.length<=140737488355328∧p.value.length<=140737488355328
def Qp:Q6:=⟨[],[],[],tH⟩
theorem Qi{W w:tA}{b:Nat}{x y z u:tE}{t:TypeId}(hg:tB W w V)(h:W.heap[b]?=T (tQ #[x,y,z,u] t)):(w.cell? ⟨b,0,V⟩=T x∧w.cell? ⟨b,1,V⟩=T y∧w.cell? ⟨b,2,V⟩=T z∧w.cell? ⟨b,3,V⟩=T u)∧w.frozen? ⟨b,0,V⟩=tH∧w.frozen? ⟨b,1,V⟩=tH∧w.frozen? ⟨b,2,V⟩=tH∧w.frozen? ⟨b,3,V⟩=tH∧w.heap[b]?=T (tQ #[x,y,z,u] t):=by
 have a:w.heap[b]?=T (tQ #[x,y,z,u] t):=by rw[hg.block b (tS.1 h).1 (by simp)];exact h
 refine⟨⟨?_,?_,?_,?_⟩,?_,?_,?_,?_,a⟩;all_goals simp[sL,World.frozen?,a]
theorem JP{w:tA}{b:Nat}{x y z u:tE}{t:TypeId}(h:w.heap[b]?=T (tQ #[x,y,z,u] t))(x' y' z' u':tE):((((tM w ⟨b,0,V⟩ x').setCell ⟨b,1,V⟩ y').setCell ⟨b,2,V⟩ z').setCell ⟨b,3,V⟩ u').heap[b]?=T (tQ #[x',y',z',u'] t)∧(tM w ⟨b,0,V⟩ x').cell? ⟨b,0,V⟩=T x'∧((tM w ⟨b,0,V⟩ x').setCell ⟨b,1,V⟩ y').cell? ⟨b,1,V⟩=T y'∧(((tM w ⟨b,0,V⟩ x').setCell ⟨b,1,V⟩ y').setCell ⟨b,2,V⟩ z').cell? ⟨b,2,V⟩=T z'∧((((tM w ⟨b,0,V⟩ x').setCell ⟨b,1,V⟩ y').setCell ⟨b,2,V⟩ z').setCell ⟨b,3,V⟩ u').cell? ⟨b,3,V⟩=T u':=by
 have a:(tM w ⟨b,0,V⟩ x').heap[b]?=T (tQ #[x',y,z,u] t):=by simp only[tM,tW,if_true,h,Option.map_some];first|rfl|simp
 have c:((tM w ⟨b,0,V⟩ x').setCell ⟨b,1,V⟩ y').heap[b]?=T (tQ #[x',y',z,u] t):=by rw[tM,tW,if_pos rfl,a];first|rfl|simp
 have d:(((tM w ⟨b,0,V⟩ x').setCell ⟨b,1,V⟩ y').setCell ⟨b,2,V⟩ z').heap[b]?=T (tQ #[x',y',z',u] t):=by rw[tM,tW,if_pos rfl,c];first|rfl|simp
 have e:((((tM w ⟨b,0,V⟩ x').setCell ⟨b,1,V⟩ y').setCell ⟨b,2,V⟩ z').setCell ⟨b,3,V⟩ u').heap[b]?=T (tQ #[x',y',z',u'] t):=by rw[tM,tW,if_pos rfl,d];first|rfl|simp
 exact⟨e,by simp[sL,a],by simp[sL,c],by simp[sL,d],by simp[sL,e]⟩
theorem Za.setBlk{base:Nat}{w:tA}{v:tE}{bs:List UInt8}(h:Za base w v bs){b:Nat}{cur:Array tE}{t:TypeId}{fz:Nat×Nat}(hb:w.heap[b]?=T (tQ cur t fz))(ht:t≠5)(i:Nat)(u:tE):Za base (tM w ⟨b,i,V⟩ u) v bs:=by
 refine h.grown (row:=T b) (Qg (Qb _ _) i u) ?_;rcases h.2with⟨rfl,_⟩|⟨g,cap,a,rfl,_,c,_⟩;·exact .inl rfl
 ·right;intro e;simp[Value.ownBlock]at e;subst e;rw[c]at hb;simp at hb;exact ht hb.2.1.symm
theorem JE{w w1:tA}(h:tB w w1 V)(b:Nat)(hb:w.heap.size<=b)(x y z u:tE):tB w ((((tM w1 ⟨b,0,V⟩ x).setCell ⟨b,1,V⟩ y).setCell ⟨b,2,V⟩ z).setCell ⟨b,3,V⟩ u) V:=Qc (Qc (Qc (Qc h _ hb _ _) _ hb _ _) _ hb _ _) _ hb _ _
abbrev Pr:=List UInt8×List UInt8
abbrev PL:=List Pr
abbrev YP(a b:List UInt8):Bool:=sV a b
theorem Rr(a:List UInt8):YP a []=tH:=BZ a
theorem Fh(x y:UInt8)(a b:List UInt8):YP (x::a) (y::b)=(tP (x<y)||(x==y&&YP a b)):=FW x y a b
theorem XX:∀a:List UInt8,YP a a=tH|[]=>rfl|x::a=>by rw[Fh,XX a];simp
theorem KD:∀a b c:List UInt8,YP a b=tC->YP b c=tC->YP a c=tC|_,[],_,h,_=>by rw[Rr]at h;cases h|_,_::_,[],_,h=>by rw[Rr]at h;cases h|[],_::_,_::_,_,_=>rfl|x::a,y::b,z::c,e,d=>by rw[Fh]at e d⊢;simp only[Bool.or_eq_true,decide_eq_true_eq,Bool.and_eq_true,beq_iff_eq,UInt8.lt_iff_toNat_lt]at e d⊢;rcases e with e|⟨rfl,e⟩;(·rcases d with d|⟨rfl,d⟩;(·left;omega);·left;exact e);·rcases d with d|⟨rfl,d⟩;(·left;exact d);·right;exact⟨rfl,KD a b c e d⟩
theorem U8:∀a b:List UInt8,YP a b=tH->a≠b->YP b a=tC|[],[],_,h=>absurd rfl h|[],_::_,h,_=>by cases h|_::_,[],_,_=>rfl|x::a,y::b,h1,h2=>by rw[Fh]at h1⊢;simp only[Bool.or_eq_false_iff,decide_eq_false_iff_not,Bool.and_eq_false_iff,beq_eq_false_iff_ne,UInt8.lt_iff_toNat_lt]at h1;simp only[Bool.or_eq_true,decide_eq_true_eq,Bool.and_eq_true,beq_iff_eq,UInt8.lt_iff_toNat_lt];by_cases e:y=x;(·subst e;right;refine⟨rfl,U8 a b ?_ (fun e=>h2 (by rw[e]))⟩;rcases h1.2with h|h;(·exact absurd rfl h);·exact h);·left;have:x.toNat≠y.toNat:=fun h=>e (UInt8.toNat_inj.1 h.symm);omega
theorem IM(a b:List UInt8)(h:YP a b=tC):YP b a=tH:=by
 cases hb:YP b a with|false=>rfl|true=>have:=KD a b a h hb;rw[XX]at this;cases this
theorem Ft{a b:List UInt8}(h:YP a b=tC):a≠b:=by
 rintro rfl;rw[XX]at h;cases h
def QK(p:Pr):Int:=if 32<p.2.length then 1 else Qn p.1.length
def Xu(l:PL)(i:Nat):Int:=if QK (l.getD i ([],[]))=0then(if 0<i∧YP (l.getD (i-1) ([],[])).1 (l.getD i ([],[])).1=tH then 3 else 0)else QK (l.getD i ([],[]))
def Ky(l:PL):Nat->Nat->Int|0,_=>0|n+1,i=>if Xu l i=0then Ky l n (i+1)else Xu l i
def QC(l:PL):Int:=if 60<l.length then 1 else Ky l l.length 0
theorem yH(l:PL)(n i:Nat)(hi:i<=n)(h:∀j,j<i->Xu l j=0):Ky l n 0=Ky l (n-i) i:=by
 induction i with|zero=>rfl|succ i ih=>rw[ih (by omega) (fun j a=>h j (by omega)),show n-i=(n-(i+1))+1by omega,Ky,if_pos (h i (by omega))]
theorem qO(l:PL)(i:Nat)(hi:i<l.length)(hl:l.length<=60)(h:∀j,j<i->Xu l j=0)(hf:Xu l i≠0):QC l=Xu l i:=by
 rw[QC,if_neg (by omega),yH l _ i (by omega) h,show l.length-i=(l.length-(i+1))+1by omega,Ky,if_neg hf]
theorem JN(l:PL)(hl:l.length<=60)(h:∀j,j<l.length->Xu l j=0):QC l=0:=by
 rw[QC,if_neg (by omega),yH l _ l.length (sM _) h,Nat.sub_self,Ky]
theorem yD(l:PL)(hl:60<l.length):QC l=1:=by
 rw[QC,if_pos hl]
theorem jH(l:PL):∀(n i:Nat),Ky l n i=0->∀j,i<=j->j<i+n->Xu l j=0|0,i,_,j,h1,h2=>by omega|n+1,i,h,j,h1,h2=>by rw[Ky]at h;by_cases e:Xu l i=0;(·rw[if_pos e]at h;by_cases a:j=i;(·subst a;exact e);·exact jH l n (i+1) h j (by omega) (by omega));·rw[if_neg e]at h;exact absurd h e
def KZ(l:PL):Prop:=l.Pairwise fun p q=>YP p.1 q.1=tC
structure Zd(l:PL):Prop where room:l.length<=60pairs:∀p∈l,(1<=p.1.length∧p.1.length<=16)∧p.2.length<=32rises:KZ l
theorem Yt(p:Pr):QK p=0↔(1<=p.1.length∧p.1.length<=16)∧p.2.length<=32:=by
 unfold QK Qn;by_cases h:32<p.2.length;·rw[if_pos h];constructor;(·intro h;cases h);·intro h;omega
 ·rw[if_neg h];by_cases a:1<=p.1.length∧p.1.length<=16;(·rw[if_pos a];exact⟨fun _=>⟨a,by omega⟩,fun _=>rfl⟩);·rw[if_neg a];constructor;(·intro h;cases h);·intro h;exact absurd h.1 a
theorem Vw(l:PL)(i:Nat):Xu l i=0↔QK (l.getD i ([],[]))=0∧(0<i->YP (l.getD (i-1) ([],[])).1 (l.getD i ([],[])).1=tC):=by
 unfold Xu;by_cases h:QK (l.getD i ([],[]))=0;·rw[if_pos h];by_cases a:0<i∧YP (l.getD (i-1) ([],[])).1 (l.getD i ([],[])).1=tH;(·rw[if_pos a];constructor;(·intro h;cases h);·intro b;have:=b.2 a.1;rw[a.2]at this;cases this);·rw[if_neg a];refine⟨fun _=>⟨h,fun c=>?_⟩,fun _=>rfl⟩;cases hk:YP (l.getD (i-1) ([],[])).1 (l.getD i ([],[])).1with|true=>rfl|false=>exact absurd ⟨c,hk⟩ a
 ·rw[if_neg h];constructor;(·intro a;exact absurd a h);·intro a;exact absurd a.1 h
theorem jB:∀l:PL,(∀i,0<i->i<l.length->YP (l.getD (i-1) ([],[])).1 (l.getD i ([],[])).1=tC)->KZ l|[],_=>List.Pairwise.nil|[_],_=>List.pairwise_singleton _ _|p::q::r,h=>by(have c:KZ (q::r):=jB (q::r) fun i e d=>by have:=h (i+1) (by omega) (by simp at d⊢;omega);rw[show i+1-1=(i-1)+1by omega]at this;simpa using this);(have a:YP p.1 q.1=tC:=by have:=h 1 (by omega) (by simp);simpa using this);refine tZ (fun x b=>?_) c;rcases tY.1 b with rfl|b;(·exact a);·exact KD _ _ _ a ((sW.1 c).1 x b)
theorem Uh(l:PL)(h:KZ l)(i j:Nat)(hij:i<j)(hj:j<l.length):YP (l.getD i ([],[])).1 (l.getD j ([],[])).1=tC:=by
 have:=List.pairwise_iff_getElem.1 h i j (by omega) hj hij;simpa[hj,show i<l.length by omega]using this
theorem Yi(l:PL):QC l=0↔Zd l:=by
 constructor;·intro h;(have c:l.length<=60:=by by_cases c:60<l.length;(·rw[yD l c]at h;cases h);·omega);rw[QC,if_neg (by omega)]at h;have e:=fun j(b:j<l.length)=>(Vw l j).1 (jH l l.length 0 h j (by omega) (by omega));refine⟨c,fun p f=>?_,jB l fun i d a=>(e i a).2 d⟩;obtain⟨i,a,rfl⟩:=tD.1 f;have:=(Yt _).1 (e i a).1;simpa[a]using this
 ·intro h;refine JN l h.room fun j b=>(Vw l j).2 ⟨(Yt _).2 ?_,fun d=>Uh l h.rises _ _ (by omega) b⟩;have:=h.pairs l[j] (sS b);simpa[b]using this
theorem Aw:Zd []:=⟨by
 simp,by
 simp,List.Pairwise.nil⟩
def Yx(l:PL)(k:List UInt8):Option (List UInt8):=(l.find? fun p=>p.1==k).map (·.2)
theorem l8(k:List UInt8):Yx [] k=V:=rfl
theorem YM(p:Pr)(l:PL)(k:List UInt8):Yx (p::l) k=if p.1=k then T p.2 else Yx l k:=by
 unfold Yx;by_cases h:p.1=k;·rw[List.find?_cons_of_pos (by simpa using h),if_pos h];rfl
 ·rw[List.find?_cons_of_neg (by simpa using h),if_neg h]
theorem Lu:∀(l:PL)(k:List UInt8)(i:Nat),i<l.length->(∀j,j<i->(l.getD j ([],[])).1≠k)->(l.getD i ([],[])).1=k->Yx l k=T (l.getD i ([],[])).2|[],_,_,h,_,_=>by simp at h|p::l,k,0,_,_,h2=>by rw[YM,if_pos (by simpa using h2)];simp|p::l,k,i+1,h,h1,h2=>by rw[YM,if_neg (by simpa using h1 0 (by omega))];have:=Lu l k i (by simpa using h) (fun j a=>by simpa using h1 (j+1) (by omega)) (by simpa using h2);simpa using this
theorem Ep:∀(l:PL)(k:List UInt8),(∀j,j<l.length->(l.getD j ([],[])).1≠k)->Yx l k=V|[],_,_=>rfl|p::l,k,h=>by rw[YM,if_neg (by simpa using h 0 (by simp))];exact Ep l k fun j a=>by simpa using h (j+1) (by simpa using a)
def J5:PL->Pr->PL|[],p=>[p]|q::r,p=>if YP q.1 p.1=tC then q::J5 r p else if q.1=p.1then p::r else p::q::r
def yN(l:PL)(k:List UInt8):PL:=l.filter fun q=>!(q.1==k)
def VQ(l:PL)(a b:List UInt8):PL:=l.filter fun q=>!YP q.1 a&&!YP b q.1
theorem DW(l:PL)(p x:Pr):x∈J5 l p->x=p∨x∈l:=by
 induction l with|nil=>intro h;simp[J5]at h;exact .inl h|cons q r ih=>intro h;rw[J5]at h;by_cases a:YP q.1 p.1=tC;(·rw[if_pos a]at h;rcases tY.1 h with rfl|h;(·exact .inr (by simp));·rcases ih h with h|h;(·exact .inl h);·exact .inr (sK _ h));·rw[if_neg a]at h;by_cases b:q.1=p.1;(·rw[if_pos b]at h;rcases tY.1 h with h|h;(·exact .inl h);·exact .inr (sK _ h));·rw[if_neg b]at h;rcases tY.1 h with h|h;(·exact .inl h);·exact .inr h
theorem FB(l:PL)(p:Pr)(h:KZ l):KZ (J5 l p):=by
 induction l with|nil=>exact List.pairwise_singleton _ _|cons q r ih=>have c:=sW.1 h;rw[J5];by_cases d:YP q.1 p.1=tC;(·rw[if_pos d];refine tZ (fun x a=>?_) (ih c.2);rcases DW r p x a with rfl|a;(·exact d);·exact c.1 x a);·rw[if_neg d];by_cases e:q.1=p.1;(·rw[if_pos e];exact tZ (fun x a=>by rw[<-e];exact c.1 x a) c.2);·rw[if_neg e];have b:=U8 _ _ (by simpa using d) e;refine tZ (fun x a=>?_) h;rcases tY.1 a with rfl|a;(·exact b);·exact KD _ _ _ b (c.1 x a)
theorem mM(l:PL)(p:Pr)(k:List UInt8)(h:KZ l):Yx (J5 l p) k=if p.1=k then T p.2 else Yx l k:=by
 induction l with|nil=>rw[J5,YM]|cons q r ih=>have d:=sW.1 h;rw[J5];by_cases a:YP q.1 p.1=tC;(·rw[if_pos a,YM,YM,ih d.2];by_cases e:p.1=k;(·rw[if_pos e,if_pos e,if_neg (fun c=>Ft a (c.trans e.symm))]);·rw[if_neg e,if_neg e]);·rw[if_neg a];by_cases b:q.1=p.1;(·rw[if_pos b,YM,YM];by_cases e:p.1=k;(·rw[if_pos e,if_pos e]);·rw[if_neg e,if_neg e,if_neg (by rw[b];exact e)]);·rw[if_neg b,YM]
theorem lS(l:PL)(k x:List UInt8):Yx (yN l k) x=if k=x then V else Yx l x:=by
 induction l with|nil=>simp[yN,Yx]|cons q r ih=>unfold yN at ih⊢;by_cases e:q.1=k;(·rw[List.filter_cons_of_neg (by simp[e]),ih,YM];by_cases a:k=x;(·rw[if_pos a,if_pos a]);·rw[if_neg a,if_neg a,if_neg (by rw[e];exact a)]);·rw[List.filter_cons_of_pos (by simp[e]),YM,ih,YM];by_cases a:k=x;(·rw[if_pos a,if_pos a,if_neg (by rw[<-a];exact e)]);·rw[if_neg a,if_neg a]
theorem MY(l:PL)(k:List UInt8)(h:KZ l):KZ (yN l k):=List.Pairwise.filter _ h
theorem AZ(l:PL)(a b:List UInt8)(h:KZ l):KZ (VQ l a b):=List.Pairwise.filter _ h
def Xi(l:PL)(k:List UInt8):Int:=if QC l=0then Qn k.length else QC l
theorem uB{l:PL}{k:List UInt8}(h:Xi l k=0):Zd l:=by
 unfold Xi at h;by_cases a:QC l=0;·exact(Yi l).1 a
 ·rw[if_neg a]at h;exact absurd h a
theorem Zc(n:Nat):Qn n=0↔1<=n∧n<=16:=by
 unfold Qn;by_cases h:1<=n∧n<=16;·rw[if_pos h];exact⟨fun _=>h,fun _=>rfl⟩
 ·rw[if_neg h];constructor;(·intro a;cases a);·intro a;exact absurd a h
theorem dX{l:PL}{k:List UInt8}(h:Xi l k=0):1<=k.length∧k.length<=16:=by
 have a:=(Yi l).2 (uB h);unfold Xi at h;rw[if_pos a]at h;exact(Zc _).1 h
theorem uC{l:PL}{k:List UInt8}(h:Zd l)(hk:1<=k.length∧k.length<=16):Xi l k=0:=by
 unfold Xi;rw[if_pos ((Yi l).2 h)];exact(Zc _).2 hk
def Eg(l:PL)(k:List UInt8):Bool:=Xi l k==0&&(Yx l k).isSome
def EG(l:PL)(k:List UInt8):List UInt8:=if Xi l k=0then(Yx l k).getD []else[]
def yP(l:PL)(k:List UInt8):PL:=if Xi l k=0then yN l k else[]
theorem DJ(l:PL)(k:List UInt8):(yN l k).length<=l.length:=List.length_filter_le _ _
def YK(l:PL)(f t:List UInt8):Int:=if Xi l f=0then Qn t.length else Xi l f
theorem SR{l:PL}{f t:List UInt8}(h:YK l f t=0):Xi l f=0:=by
 unfold YK at h;by_cases a:Xi l f=0;·exact a
 ·rw[if_neg a]at h;exact absurd h a
def Uf(l:PL)(f t:List UInt8):PL:=if YK l f t=0then VQ l f t else[]
theorem OP(l:PL)(f t:List UInt8):(VQ l f t).length<=l.length:=List.length_filter_le _ _
def GG(l:PL)(p:Pr):Int:=if QC l=0then QK p else QC l
def KG(l:PL)(p:Pr):Int:=if GG l p=0then(if 60<(J5 l p).length then 11 else 0)else GG l p
def VZ(l:PL)(p:Pr):PL:=if KG l p=0then J5 l p else[]
theorem WM(l:PL)(p:Pr):(J5 l p).length<=l.length+1:=by
 induction l with|nil=>simp[J5]|cons q r ih=>rw[J5];by_cases a:YP q.1 p.1=tC;(·rw[if_pos a];simp;omega);·rw[if_neg a];by_cases b:q.1=p.1;(·rw[if_pos b];simp);·rw[if_neg b];simp
structure vA (l : PL) : Prop where
  many : l.length * 48 <= 140737488355328
  each : ∀ i, i < l.length -> (l.getD i ([], [])).1.length <= 140737488355328 ∧ (l.getD i ([], [])).2.length <= 140737488355328
theorem vA.len{l:PL}(h:vA l):l.length<=140737488355328:=by
 have:=h.many;omega
theorem Zd.fits{l:PL}(h:Zd l):vA l:=by
 refine⟨by have:=h.room;omega,fun i a=>?_⟩;have:=h.pairs l[i] (sS a);rw[show l[i]=l.getD i ([],[])by simp[a]]at this;omega
abbrev Tn:=List UInt8×PL
abbrev FL:=List Tn
def XT(l:FL):Prop:=l.Pairwise fun p q=>YP p.1 q.1=tC
def Ua(l:FL)(k:List UInt8):Option PL:=(l.find? fun p=>p.1==k).map (·.2)
theorem XW(p:Tn)(l:FL)(k:List UInt8):Ua (p::l) k=if p.1=k then T p.2 else Ua l k:=by
 unfold Ua;by_cases h:p.1=k;·rw[List.find?_cons_of_pos (by simpa using h),if_pos h];rfl
 ·rw[List.find?_cons_of_neg (by simpa using h),if_neg h]
theorem Nm:∀(l:FL)(k:List UInt8)(i:Nat),i<l.length->(∀j,j<i->(l.getD j ([],[])).1≠k)->(l.getD i ([],[])).1=k->Ua l k=T (l.getD i ([],[])).2|[],_,_,h,_,_=>by simp at h|p::l,k,0,_,_,h2=>by rw[XW,if_pos (by simpa using h2)];simp|p::l,k,i+1,h,h1,h2=>by rw[XW,if_neg (by simpa using h1 0 (by omega))];have:=Nm l k i (by simpa using h) (fun j a=>by simpa using h1 (j+1) (by omega)) (by simpa using h2);simpa using this
theorem EI:∀(l:FL)(k:List UInt8),(∀j,j<l.length->(l.getD j ([],[])).1≠k)->Ua l k=V|[],_,_=>rfl|p::l,k,h=>by rw[XW,if_neg (by simpa using h 0 (by simp))];exact EI l k fun j a=>by simpa using h (j+1) (by simpa using a)
def YU:FL->Tn->FL|[],p=>[p]|q::r,p=>if YP q.1 p.1=tC then q::YU r p else if q.1=p.1then p::r else p::q::r
def qL(l:FL)(k:List UInt8):FL:=l.filter fun q=>!(q.1==k)
theorem Mp(l:FL)(p x:Tn):x∈YU l p->x=p∨x∈l:=by
 induction l with|nil=>intro h;simp[YU]at h;exact .inl h|cons q r ih=>intro h;rw[YU]at h;by_cases a:YP q.1 p.1=tC;(·rw[if_pos a]at h;rcases tY.1 h with rfl|h;(·exact .inr (by simp));·rcases ih h with h|h;(·exact .inl h);·exact .inr (sK _ h));·rw[if_neg a]at h;by_cases b:q.1=p.1;(·rw[if_pos b]at h;rcases tY.1 h with h|h;(·exact .inl h);·exact .inr (sK _ h));·rw[if_neg b]at h;rcases tY.1 h with h|h;(·exact .inl h);·exact .inr h
theorem CD(l:FL)(p:Tn)(h:XT l):XT (YU l p):=by
 induction l with|nil=>exact List.pairwise_singleton _ _|cons q r ih=>have c:=sW.1 h;rw[YU];by_cases d:YP q.1 p.1=tC;(·rw[if_pos d];refine tZ (fun x a=>?_) (ih c.2);rcases Mp r p x a with rfl|a;(·exact d);·exact c.1 x a);·rw[if_neg d];by_cases e:q.1=p.1;(·rw[if_pos e];exact tZ (fun x a=>by rw[<-e];exact c.1 x a) c.2);·rw[if_neg e];have b:=U8 _ _ (by simpa using d) e;refine tZ (fun x a=>?_) h;rcases tY.1 a with rfl|a;(·exact b);·exact KD _ _ _ b (c.1 x a)
theorem bS(l:FL)(p:Tn)(k:List UInt8)(h:XT l):Ua (YU l p) k=if p.1=k then T p.2 else Ua l k:=by
 induction l with|nil=>rw[YU,XW]|cons q r ih=>have d:=sW.1 h;rw[YU];by_cases a:YP q.1 p.1=tC;(·rw[if_pos a,XW,XW,ih d.2];by_cases e:p.1=k;(·rw[if_pos e,if_pos e,if_neg (fun c=>Ft a (c.trans e.symm))]);·rw[if_neg e,if_neg e]);·rw[if_neg a];by_cases b:q.1=p.1;(·rw[if_pos b,XW,XW];by_cases e:p.1=k;(·rw[if_pos e,if_pos e]);·rw[if_neg e,if_neg e,if_neg (by rw[b];exact e)]);·rw[if_neg b,XW]
theorem In(l:FL)(k x:List UInt8):Ua (qL l k) x=if k=x then V else Ua l x:=by
 induction l with|nil=>simp[qL,Ua]|cons q r ih=>unfold qL at ih⊢;by_cases e:q.1=k;(·rw[List.filter_cons_of_neg (by simp[e]),ih,XW];by_cases a:k=x;(·rw[if_pos a,if_pos a]);·rw[if_neg a,if_neg a,if_neg (by rw[e];exact a)]);·rw[List.filter_cons_of_pos (by simp[e]),XW,ih,XW];by_cases a:k=x;(·rw[if_pos a,if_pos a,if_neg (by rw[<-a];exact e)]);·rw[if_neg a,if_neg a]
theorem AM(l:FL)(k:List UInt8)(h:XT l):XT (qL l k):=List.Pairwise.filter _ h
theorem OH(l:FL)(p:Tn):(YU l p).length<=l.length+1:=by
 induction l with|nil=>simp[YU]|cons q r ih=>rw[YU];by_cases a:YP q.1 p.1=tC;(·rw[if_pos a];simp;omega);·rw[if_neg a];by_cases b:q.1=p.1;(·rw[if_pos b];simp);·rw[if_neg b];simp
theorem M9(l:FL)(k:List UInt8):(qL l k).length<=l.length:=List.length_filter_le _ _
def Qs(n:Nat):Int:=if 1<=n∧n<=8then 0 else 1
theorem Zk(n:Nat):Qs n=0↔1<=n∧n<=8:=by
 unfold Qs;by_cases h:1<=n∧n<=8;·rw[if_pos h];exact⟨fun _=>h,fun _=>rfl⟩
 ·rw[if_neg h];constructor;(·intro a;cases a);·intro a;exact absurd a h
def XK(t:Tn):Int:=if Qs t.1.length=0then(if t.2.length=0then 4 else QC t.2)else Qs t.1.length
theorem Fk(t:Tn):XK t=0↔(1<=t.1.length∧t.1.length<=8)∧t.2≠[]∧Zd t.2:=by
 unfold XK;by_cases h:Qs t.1.length=0;·rw[if_pos h];by_cases a:t.2.length=0;(·rw[if_pos a];constructor;(·intro b;cases b);·intro b;exact absurd (tG a) b.2.1);·rw[if_neg a,Yi];exact⟨fun b=>⟨(Zk _).1 h,fun e=>a (by rw[e];rfl),b⟩,fun b=>b.2.2⟩
 ·rw[if_neg h];constructor;(·intro a;exact absurd a h);·intro a;exact absurd ((Zk _).2 a.1) h
def KJ(l:FL)(i:Nat):Int:=if XK (l.getD i ([],[]))=0then(if 0<i∧YP (l.getD (i-1) ([],[])).1 (l.getD i ([],[])).1=tH then 3 else 0)else XK (l.getD i ([],[]))
def Ga(l:FL):Nat->Nat->Int|0,_=>0|n+1,i=>if KJ l i=0then Ga l n (i+1)else KJ l i
def Q7(l:FL):Int:=if 8<l.length then 1 else Ga l l.length 0
theorem uO(l:FL)(n i:Nat)(hi:i<=n)(h:∀j,j<i->KJ l j=0):Ga l n 0=Ga l (n-i) i:=by
 induction i with|zero=>rfl|succ i ih=>rw[ih (by omega) (fun j a=>h j (by omega)),show n-i=(n-(i+1))+1by omega,Ga,if_pos (h i (by omega))]
theorem Nt(l:FL)(i:Nat)(hi:i<l.length)(hl:l.length<=8)(h:∀j,j<i->KJ l j=0)(hf:KJ l i≠0):Q7 l=KJ l i:=by
 rw[Q7,if_neg (by omega),uO l _ i (by omega) h,show l.length-i=(l.length-(i+1))+1by omega,Ga,if_neg hf]
theorem Pn(l:FL)(hl:l.length<=8)(h:∀j,j<l.length->KJ l j=0):Q7 l=0:=by
 rw[Q7,if_neg (by omega),uO l _ l.length (sM _) h,Nat.sub_self,Ga]
theorem Fe(l:FL)(hl:8<l.length):Q7 l=1:=by
 rw[Q7,if_pos hl]
theorem Fb(l:FL):∀(n i:Nat),Ga l n i=0->∀j,i<=j->j<i+n->KJ l j=0|0,i,_,j,h1,h2=>by omega|n+1,i,h,j,h1,h2=>by rw[Ga]at h;by_cases e:KJ l i=0;(·rw[if_pos e]at h;by_cases a:j=i;(·subst a;exact e);·exact Fb l n (i+1) h j (by omega) (by omega));·rw[if_neg e]at h;exact absurd h e
theorem Mj(l:FL)(i:Nat):KJ l i=0↔XK (l.getD i ([],[]))=0∧(0<i->YP (l.getD (i-1) ([],[])).1 (l.getD i ([],[])).1=tC):=by
 unfold KJ;by_cases h:XK (l.getD i ([],[]))=0;·rw[if_pos h];by_cases a:0<i∧YP (l.getD (i-1) ([],[])).1 (l.getD i ([],[])).1=tH;(·rw[if_pos a];constructor;(·intro h;cases h);·intro b;have:=b.2 a.1;rw[a.2]at this;cases this);·rw[if_neg a];refine⟨fun _=>⟨h,fun c=>?_⟩,fun _=>rfl⟩;cases hk:YP (l.getD (i-1) ([],[])).1 (l.getD i ([],[])).1with|true=>rfl|false=>exact absurd ⟨c,hk⟩ a
 ·rw[if_neg h];constructor;(·intro a;exact absurd a h);·intro a;exact absurd a.1 h
theorem zR:∀l:FL,(∀i,0<i->i<l.length->YP (l.getD (i-1) ([],[])).1 (l.getD i ([],[])).1=tC)->XT l|[],_=>List.Pairwise.nil|[_],_=>List.pairwise_singleton _ _|p::q::r,h=>by(have c:XT (q::r):=zR (q::r) fun i e d=>by have:=h (i+1) (by omega) (by simp at d⊢;omega);rw[show i+1-1=(i-1)+1by omega]at this;simpa using this);(have a:YP p.1 q.1=tC:=by have:=h 1 (by omega) (by simp);simpa using this);refine tZ (fun x b=>?_) c;rcases tY.1 b with rfl|b;(·exact a);·exact KD _ _ _ a ((sW.1 c).1 x b)
theorem Gb(l:FL)(h:XT l)(i j:Nat)(hij:i<j)(hj:j<l.length):YP (l.getD i ([],[])).1 (l.getD j ([],[])).1=tC:=by
 have:=List.pairwise_iff_getElem.1 h i j (by omega) hj hij;simpa[hj,show i<l.length by omega]using this
structure Zb(l:FL):Prop where room:l.length<=8tens:∀t∈l,(1<=t.1.length∧t.1.length<=8)∧t.2≠[]∧Zd t.2rises:XT l
theorem Z6(l:FL):Q7 l=0↔Zb l:=by
 constructor;·intro h;(have c:l.length<=8:=by by_cases c:8<l.length;(·rw[Fe l c]at h;cases h);·omega);rw[Q7,if_neg (by omega)]at h;have e:=fun j(b:j<l.length)=>(Mj l j).1 (Fb l l.length 0 h j (by omega) (by omega));refine⟨c,fun p f=>?_,zR l fun i d a=>(e i a).2 d⟩;obtain⟨i,a,rfl⟩:=tD.1 f;have:=(Fk _).1 (e i a).1;simpa[a]using this
 ·intro h;refine Pn l h.room fun j b=>(Mj l j).2 ⟨(Fk _).2 ?_,fun d=>Gb l h.rises _ _ (by omega) b⟩;have:=h.tens l[j] (sS b);simpa[b]using this
theorem Kg:Zb []:=⟨by
 simp,by
 simp,List.Pairwise.nil⟩
def Xw(l:FL)(n:List UInt8):PL:=(Ua l n).getD []
theorem cM(n:List UInt8):Xw [] n=[]:=rfl
theorem Jn{l:FL}(h:Zb l)(n:List UInt8):Zd (Xw l n):=by
 unfold Xw Ua;cases hf:l.find? (fun p=>p.1==n)with|none=>exact Aw|some t=>exact(h.tens t (List.mem_of_find?_eq_some hf)).2.2
theorem rJ{l:FL}(h:Zb l)(i:Nat)(hi:i<l.length):Xw l (l.getD i ([],[])).1=(l.getD i ([],[])).2:=by
 unfold Xw;rw[Nm l _ i hi (fun j a e=>?_) rfl];·rfl
 ·have:=Gb l h.rises j i a hi;rw[e,XX]at this;cases this
def QA(w:Q6):Int:=if Qs w.name.length=0then(if w.gone=tC then(if Qn w.key.length=0then(if 0<w.value.length then 4 else 0)else Qn w.key.length)else QK (w.key,w.value))else Qs w.name.length
def XU(l:FL)(w:Q6):PL:=if w.gone=tC then yN (Xw l w.name) w.key else J5 (Xw l w.name) (w.key,w.value)
def zV(l:FL)(w:Q6):Int:=if w.gone=tC then Xi (Xw l w.name) w.key else KG (Xw l w.name) (w.key,w.value)
def QZ(l:FL)(w:Q6):FL:=if(XU l w).length=0then qL l w.name else YU l (w.name,XU l w)
def XC(l:FL)(w:Q6):Int:=if zV l w=0then(if 8<(QZ l w).length then 11 else 0)else zV l w
def ZA:FL->List Q6->Int|_,[]=>0|l,w::ws=>if QA w=0then(if XC l w=0then ZA (QZ l w) ws else XC l w)else QA w
def YL:FL->List Q6->FL|l,[]=>l|l,w::ws=>YL (QZ l w) ws
def QM(l:FL)(ws:List Q6):Int:=if Q7 l=0then(if 10<ws.length then 1 else ZA l ws)else Q7 l
def ZQ(l:FL)(ws:List Q6):FL:=if QM l ws=0then YL l ws else[]
theorem XV(w:Q6):QA w=0↔(1<=w.name.length∧w.name.length<=8)∧(1<=w.key.length∧w.key.length<=16)∧(if w.gone=tC then w.value=[]else w.value.length<=32):=by
 unfold QA;by_cases b:Qs w.name.length=0;·rw[if_pos b];have c:=(Zk _).1 b;by_cases d:w.gone=tC;(·rw[if_pos d,if_pos d];by_cases a:Qn w.key.length=0;(·rw[if_pos a];have f:=(Zc _).1 a;by_cases e:0<w.value.length;(·rw[if_pos e];constructor;(·intro h;cases h);·intro h;rw[h.2.2]at e;simp at e);·rw[if_neg e];exact⟨fun _=>⟨c,f,tG (by omega)⟩,fun _=>rfl⟩);·rw[if_neg a];constructor;(·intro h;exact absurd h a);·intro h;exact absurd ((Zc _).2 h.2.1) a);·rw[if_neg d,if_neg d,Yt];exact⟨fun h=>⟨c,h.1,h.2⟩,fun h=>⟨h.2.1,h.2.2⟩⟩
 ·rw[if_neg b];constructor;(·intro h;exact absurd h b);·intro h;exact absurd ((Zk _).2 h.1) b
theorem bJ{l:FL}(h:Zb l){w:Q6}(hw:QA w=0)(he:zV l w=0):Zd (XU l w):=by
 obtain⟨_,g,f⟩:=(XV w).1 hw;have b:=Jn h w.name;unfold XU;unfold zV at he;by_cases e:w.gone=tC;·rw[if_pos e];exact⟨Nat.le_trans (DJ _ _) b.room,fun p i=>b.pairs p (List.mem_filter.1 i).1,MY _ _ b.rises⟩
 ·rw[if_neg e]at he f⊢;(have a:¬60<(J5 (Xw l w.name) (w.key,w.value)).length:=by intro a;unfold KG at he;by_cases c:GG (Xw l w.name) (w.key,w.value)=0;(·rw[if_pos c,if_pos a]at he;cases he);·rw[if_neg c]at he;exact c he);refine⟨by omega,fun q d=>?_,FB _ _ b.rises⟩;rcases DW _ _ q d with rfl|d;(·exact⟨g,f⟩);·exact b.pairs q d
theorem NQ{l:FL}(h:XT l)(w:Q6):XT (QZ l w):=by
 unfold QZ;by_cases a:(XU l w).length=0;·rw[if_pos a];exact AM _ _ h
 ·rw[if_neg a];exact CD _ _ h
theorem vV{l:FL}(h:XT l)(w:Q6)(n:List UInt8):Xw (QZ l w) n=if w.name=n then XU l w else Xw l n:=by
 unfold QZ;by_cases a:(XU l w).length=0;·rw[if_pos a];have b:XU l w=[]:=tG a;rw[b];unfold Xw;rw[In];by_cases e:w.name=n;(·rw[if_pos e,if_pos e];rfl);·rw[if_neg e,if_neg e]
 ·rw[if_neg a];unfold Xw;rw[bS _ _ _ h];by_cases e:w.name=n;(·rw[if_pos e,if_pos e];rfl);·rw[if_neg e,if_neg e]
theorem UZ{l:FL}(h:Zb l){w:Q6}(hw:QA w=0)(he:XC l w=0):Zb (QZ l w):=by
 have c:zV l w=0:=by by_cases a:zV l w=0;(·exact a);·unfold XC at he;rw[if_neg a]at he;exact absurd he a
 have f:(QZ l w).length<=8:=by unfold XC at he;rw[if_pos c]at he;by_cases d:8<(QZ l w).length;(·rw[if_pos d]at he;cases he);·omega
 obtain⟨g,_,_⟩:=(XV w).1 hw;refine⟨f,fun t b=>?_,NQ h.rises w⟩;unfold QZ at b;by_cases a:(XU l w).length=0;·rw[if_pos a]at b;exact h.tens t (List.mem_filter.1 b).1
 ·rw[if_neg a]at b;rcases Mp _ _ t b with rfl|b;(·exact⟨g,fun e=>a (by rw[show XU l w=[]from e];rfl),bJ h hw c⟩);·exact h.tens t b
structure Rd where
  name : List UInt8
  key : List UInt8
  wide : Bool
  last : List UInt8
def Zj:Rd:=⟨[],[],tH,[]⟩
def XM(r:Rd):Int:=if Qs r.name.length=0then(if Qn r.key.length=0then(if r.wide=tC then Qn r.last.length else(if 0<r.last.length then 4 else 0))else Qn r.key.length)else Qs r.name.length
theorem Mi(r:Rd):XM r=0↔(1<=r.name.length∧r.name.length<=8)∧(1<=r.key.length∧r.key.length<=16)∧(if r.wide=tC then 1<=r.last.length∧r.last.length<=16 else r.last=[]):=by
 unfold XM;by_cases c:Qs r.name.length=0;·rw[if_pos c];have d:=(Zk _).1 c;by_cases a:Qn r.key.length=0;(·rw[if_pos a];have b:=(Zc _).1 a;by_cases f:r.wide=tC;(·rw[if_pos f,if_pos f,Zc];exact⟨fun h=>⟨d,b,h⟩,fun h=>h.2.2⟩);·rw[if_neg f,if_neg f];by_cases e:0<r.last.length;(·rw[if_pos e];exact⟨fun h=>by omega,fun h=>by rw[h.2.2]at e;simp at e⟩);·rw[if_neg e];exact⟨fun _=>⟨d,b,tG (by omega)⟩,fun _=>rfl⟩);·rw[if_neg a];exact⟨fun h=>absurd h a,fun h=>absurd ((Zc _).2 h.2.1) a⟩
 ·rw[if_neg c];exact⟨fun h=>absurd h c,fun h=>absurd ((Zk _).2 h.1) c⟩
def Xh(w:tA)(v:tE)(p:Q6):Prop:=∃vn vk vv,v=.agg #[vn,vk,.bool p.gone,vv]∧Qe w vn p.name∧Qe w vk p.key∧Qe w vv p.value
theorem Xh.grown{w w':tA}{v:tE}{p:Q6}(h:Xh w v p)(hg:tB w w' V):Xh w' v p:=by
 obtain⟨e,d,f,rfl,a,b,c⟩:=h;exact⟨e,d,f,rfl,a.grown hg,b.grown hg,c.grown hg⟩
theorem Xh.aggW{w:tA}{v:tE}{p:Q6}(h:Xh w v p):∃na nc ka kc va vc,v=.agg #[tN na p.name.length nc,tN ka p.key.length kc,.bool p.gone,tN va p.value.length vc]:=by
 obtain⟨e,d,f,rfl,a,b,c⟩:=h;obtain⟨na,nc,rfl⟩:=a.shape;obtain⟨ka,kc,rfl⟩:=b.shape;obtain⟨va,vc,rfl⟩:=c.shape;exact⟨na,nc,ka,kc,va,vc,rfl⟩
def PU(w:tA)(b o:Nat)(p:Q6):Prop:=∃vn vk vv,w.cell? ⟨b,o,V⟩=T vn∧w.cell? ⟨b,o+1,V⟩=T vk∧w.cell? ⟨b,o+2,V⟩=T (.bool p.gone)∧w.cell? ⟨b,o+3,V⟩=T vv∧Qe w vn p.name∧Qe w vk p.key∧Qe w vv p.value
theorem PU.grown{w w':tA}{b o:Nat}{p:Q6}(h:PU w b o p)(hg:tB w w' V):PU w' b o p:=by
 obtain⟨k,j,l,a,c,d,e,f,g,i⟩:=h;exact⟨k,j,l,hg.cell a (by simp),hg.cell c (by simp),hg.cell d (by simp),hg.cell e (by simp),f.grown hg,g.grown hg,i.grown hg⟩
def QP(w:tA)(v:tE)(l:List Q6):Prop:=∃a cap,v=tN a l.length cap∧l.length<=cap∧((l=[]∧(a=V->cap=0))∨∃b o,a=T ⟨b,o,V⟩∧∀i,i<l.length->PU w b (o+i*4) (l.getD i Qp))
theorem QP.shape{w:tA}{v:tE}{l:List Q6}(h:QP w v l):∃a cap,v=tN a l.length cap:=by
 obtain⟨a,cap,rfl,_⟩:=h;exact⟨a,cap,rfl⟩
theorem QP.grown{w w':tA}{v:tE}{l:List Q6}(h:QP w v l)(hg:tB w w' V):QP w' v l:=by
 obtain⟨a,cap,rfl,c,h⟩:=h;refine⟨a,cap,rfl,c,?_⟩;rcases h with h|⟨b,o,rfl,h⟩;·exact .inl h
 ·exact .inr ⟨b,o,rfl,fun i d=>(h i d).grown hg⟩
theorem QP.at{w:tA}{a:Option Addr}{n cap:Nat}{l:List Q6}(h:QP w (tN a n cap) l)(i:Nat)(hi:i<l.length):∃b o,a=T ⟨b,o,V⟩∧PU w b (o+i*4) (l.getD i Qp):=by
 obtain⟨d,c,e,f,h⟩:=h;simp only[Value.slice.injEq]at e;obtain⟨rfl,rfl,rfl⟩:=e;rcases h with⟨rfl,_⟩|⟨b,o,rfl,h⟩;·simp at hi
 ·exact⟨b,o,rfl,h i hi⟩
structure Pd (l : List Q6) : Prop where
  many : l.length * 80 <= 140737488355328
  each : ∀ i, i < l.length -> Y1 (l.getD i Qp)
theorem Pd.len{l:List Q6}(h:Pd l):l.length<=140737488355328:=by
 have:=h.many;omega
structure XJ where
  turn : Int
  writes : List Q6
def Zq:XJ:=⟨0,[]⟩
def SQ:Nat->List Q6->Int|_,[]=>0|i,w::ws=>if(if 10<=i then(1:Int)else QA w)=0then SQ (i+1) ws else(if 10<=i then(1:Int)else QA w)
def QW(c:XJ):Int:=if 1<=c.turn∧c.turn<=1048576then(if c.writes.length=0then 1 else SQ 0 c.writes)else 2
theorem WT:∀(ws:List Q6)(i:Nat),SQ i ws=0↔(ws=[]∨i+ws.length<=10)∧∀w∈ws,QA w=0|[],i=>by simp[SQ]|w::ws,i=>by have f:=WT ws (i+1);rw[SQ];by_cases b:10<=i;(·rw[if_pos b,if_neg (by omega)];constructor;(·intro h;omega);·rintro⟨h|h,_⟩;(·cases h);·simp at h;omega);·rw[if_neg b];by_cases d:QA w=0;(·rw[if_pos d,f];constructor;(·rintro⟨a,c⟩;refine⟨.inr ?_,?_⟩;(·rcases a with rfl|a;(·simp;omega);·simp;omega);·intro x e;rcases tY.1 e with rfl|e;(·exact d);·exact c x e);·rintro⟨a,c⟩;refine⟨.inr ?_,fun x e=>c x (sK _ e)⟩;rcases a with a|a;(·cases a);·simp at a;omega);·rw[if_neg d];constructor;(·intro h;exact absurd h d);·rintro⟨_,c⟩;exact absurd (c w (List.mem_cons_self ..)) d
theorem Ug(c:XJ):QW c=0↔(1<=c.turn∧c.turn<=1048576)∧(1<=c.writes.length∧c.writes.length<=10)∧∀w∈c.writes,QA w=0:=by
 unfold QW;by_cases a:1<=c.turn∧c.turn<=1048576;·rw[if_pos a];by_cases b:c.writes.length=0;(·rw[if_pos b];constructor;(·intro h;omega);·rintro⟨_,h,_⟩;omega);·rw[if_neg b,WT];constructor;(·rintro⟨d|d,e⟩;(·rw[d]at b;simp at b);·exact⟨a,⟨by omega,by omega⟩,e⟩);·rintro⟨_,d,e⟩;exact⟨.inr (by omega),e⟩
 ·rw[if_neg a];constructor;(·intro h;omega);·rintro⟨h,_⟩;exact absurd h a
theorem gZ(ws:List Q6)(i:Nat)(h:i<ws.length):SQ i (ws.drop i)=if(if 10<=i then(1:Int)else QA (ws.getD i Qp))=0then SQ (i+1) (ws.drop (i+1))else(if 10<=i then(1:Int)else QA (ws.getD i Qp)):=by
 rw[sQ h,SQ,show ws[i]=ws.getD i Qp by simp[h]]
theorem lK(ws:List Q6):SQ ws.length (ws.drop ws.length)=0:=by
 rw[List.drop_length,SQ]
def XS(p:List UInt8):List UInt8:=tK p.length::p
theorem xC(p:List UInt8):(XS p).length=p.length+1:=rfl
def qH(w:Q6):List UInt8:=if w.gone=tC then[255]else XS w.value
def Yn(w:Q6):List UInt8:=XS w.name++XS w.key++qH w
def Vx(t n:Nat):List UInt8:=[tK (t/65536),tK (t/256%256),tK (t%256),tK n]
def Zm(c:XJ):List UInt8:=Vx c.turn.toNat c.writes.length++c.writes.flatMap Yn
def ZD:List UInt8->Option (List UInt8×List UInt8)|[]=>V|x::r=>if x.toNat<=r.length then T (r.take x.toNat,r.drop x.toNat)else V
def Pw(n k r:List UInt8):Option (Q6×List UInt8):=if r.head?=T 255then T (⟨n,k,[],tC⟩,r.tail)else match ZD r with|T (v,r2)=>T (⟨n,k,v,tH⟩,r2)|none=>V
def Cf(n r:List UInt8):Option (Q6×List UInt8):=match ZD r with|T (k,r2)=>Pw n k r2|none=>V
def Jt(r:List UInt8):Option (Q6×List UInt8):=match ZD r with|T (n,r2)=>Cf n r2|none=>V
def ZY:Nat->List UInt8->Option (List Q6×List UInt8)|0,r=>T ([],r)|n+1,r=>match Jt r with|T (w,r1)=>(match ZY n r1 with|T (ws,r2)=>T (w::ws,r2)|none=>V)|none=>V
theorem Bj{p:List UInt8}(h:p.length<256):(tK p.length).toNat=p.length:=by
 simp;omega
theorem V1(p r:List UInt8)(h:p.length<256):ZD (XS p++r)=T (p,r):=by
 show ZD (tK p.length::(p++r))=_;rw[ZD,Bj h,if_pos (by simp),List.take_left',List.drop_left']<;>rfl
theorem G6{r p r2:List UInt8}(h:ZD r=T (p,r2)):r=XS p++r2:=by
 cases r with|nil=>cases h|cons x r=>rw[ZD]at h;by_cases a:x.toNat<=r.length;(·rw[if_pos a]at h;simp only[tV,sP]at h;obtain⟨rfl,rfl⟩:=h;(have b:(r.take x.toNat).length=x.toNat:=by simp;omega);show x::r=tK (r.take x.toNat).length::(r.take x.toNat++r.drop x.toNat);rw[b,tL];simp);·rw[if_neg a]at h;cases h
theorem Lg{r p r2:List UInt8}(h:ZD r=T (p,r2))(x:List UInt8):ZD (r++x)=T (p,r2++x):=by
 cases r with|nil=>cases h|cons y r=>rw[ZD]at h;by_cases a:y.toNat<=r.length;(·rw[if_pos a]at h;simp only[tV,sP]at h;obtain⟨rfl,rfl⟩:=h;show ZD (y::(r++x))=_;rw[ZD,if_pos (by simp;omega),List.take_append_of_le_length a,List.drop_append_of_le_length a]);·rw[if_neg a]at h;cases h
theorem Lv{w:Q6}(hw:QA w=0)(r:List UInt8):Jt (Yn w++r)=T (w,r):=by
 obtain⟨d,f,b⟩:=(XV w).1 hw;unfold Jt Yn;rw[tJ,tJ,V1 _ _ (by omega)];show Cf w.name (XS w.key++(qH w++r))=_;unfold Cf;rw[V1 _ _ (by omega)];show Pw w.name w.key (qH w++r)=_;unfold Pw qH;by_cases a:w.gone=tC;·rw[if_pos a]at b⊢;rw[if_pos (by rfl)];obtain⟨n,k,v,g⟩:=w;simp only at a b;subst a b;rfl
 ·rw[if_neg a]at b⊢;rw[if_neg,V1 _ _ (by omega)];(·obtain⟨n,k,v,g⟩:=w;simp only[Bool.not_eq_true]at a;subst a;rfl);·show¬(T (tK w.value.length)=T 255);intro e;have:=congrArg UInt8.toNat (Option.some.inj e);rw[Bj (by omega)]at this;have c:(255:UInt8).toNat=255:=rfl;omega
theorem TY:∀(ws:List Q6)(_:∀w∈ws,QA w=0)(r:List UInt8),ZY ws.length (ws.flatMap Yn++r)=T (ws,r)|[],_,r=>rfl|w::ws,h,r=>by show ZY (ws.length+1) ((w::ws).flatMap Yn++r)=_;rw[ZY,List.flatMap_cons,tJ,Lv (h w (List.mem_cons_self ..))];show(match ZY ws.length (ws.flatMap Yn++r)with|T (ws',r2)=>T (w::ws',r2)|none=>V)=_;rw[TY ws (fun x a=>h x (sK _ a)) r]
theorem C6{r r2:List UInt8}{w:Q6}(h:Jt r=T (w,r2)):r=Yn w++r2:=by
 unfold Jt at h;cases h1:ZD r with|none=>rw[h1]at h;cases h|some q=>obtain⟨n,c⟩:=q;rw[h1]at h;have h:Cf n c=T (w,r2):=h;unfold Cf at h;cases h2:ZD c with|none=>rw[h2]at h;cases h|some q=>obtain⟨k,a⟩:=q;rw[h2]at h;have h:Pw n k a=T (w,r2):=h;rw[G6 h1,G6 h2];unfold Pw at h;by_cases b:a.head?=T 255;(·rw[if_pos b]at h;simp only[tV,sP]at h;obtain⟨rfl,rfl⟩:=h;cases a with|nil=>cases b|cons x a=>obtain rfl:x=255:=Option.some.inj b;show XS n++(XS k++255::a)=XS n++XS k++[255]++a;simp[tJ]);·rw[if_neg b]at h;cases h3:ZD a with|none=>rw[h3]at h;cases h|some q=>obtain⟨v,d⟩:=q;rw[h3]at h;simp only[tV,sP]at h;obtain⟨rfl,rfl⟩:=h;rw[G6 h3];show XS n++(XS k++(XS v++d))=XS n++XS k++XS v++d;simp[tJ]
theorem Fo:∀(n:Nat){r r2:List UInt8}{ws:List Q6},ZY n r=T (ws,r2)->r=ws.flatMap Yn++r2∧ws.length=n|0,r,r2,ws,h=>by rw[ZY]at h;simp only[tV,sP]at h;obtain⟨rfl,rfl⟩:=h;exact⟨rfl,rfl⟩|n+1,r,r2,ws,h=>by rw[ZY]at h;cases h1:Jt r with|none=>rw[h1]at h;cases h|some q=>obtain⟨w,a⟩:=q;rw[h1]at h;have h:(match ZY n a with|T (ws,r2)=>T (w::ws,r2)|none=>V)=T (ws,r2):=h;cases h2:ZY n a with|none=>rw[h2]at h;cases h|some q=>obtain⟨d,e⟩:=q;rw[h2]at h;simp only[tV,sP]at h;obtain⟨rfl,rfl⟩:=h;obtain⟨b,c⟩:=Fo n h2;exact⟨by rw[C6 h1,b,List.flatMap_cons,tJ],by simp[c]⟩
theorem jA : ∀ (n : Nat) (r : List UInt8), ZY (n + 1) r = match ZY n r with | T (ws, r1) => (match Jt r1 with | T (w, r2) => T (ws ++ [w], r2) | none => V) | none => V
  | 0, r => by
    rw [ZY]
    cases h : Jt r with
    | none => simp [ZY, h]
    | some q => obtain ⟨w, a⟩ := q; simp [ZY, h]
  | n + 1, r => by
    rw [ZY]
    cases h : Jt r with
    | none =>
      show V = _
      rw [ZY, h]
    | some q =>
      obtain ⟨w, a⟩ := q
      show (match ZY (n + 1) a with | T (ws, r2) => T (w :: ws, r2) | none => V) = _
      rw [jA n a, show ZY (n + 1) r = (match ZY n a with | T (ws, r2) => T (w :: ws, r2) | none => V) by rw [ZY, h]]
      cases h2 : ZY n a with
      | none => rfl
      | some q =>
        obtain ⟨ws, b⟩ := q
        show (match (match Jt b with | T (w, r2) => T (ws ++ [w], r2) | none => V) with | T (ws, r2) => T (w :: ws, r2) | none => V) = (match Jt b with | T (w', r2) => T (w :: ws ++ [w'], r2) | none => V)
        cases Jt b with
        | none => rfl
        | some q => rfl
def GQ(b:List UInt8):Nat:=65536*(b.getD 0 0).toNat+256*(b.getD 1 0).toNat+(b.getD 2 0).toNat
def zP(b:List UInt8):Option (List Q6×List UInt8):=ZY (b.getD 3 0).toNat (b.drop 4)
def YS(b:List UInt8):Int:=if 4000<b.length then 1 else if b.length<4then 14 else match zP b with|none=>14|T (ws,r)=>if r.length=0then QW ⟨(GQ b:Int),ws⟩else 4
def JZ(b:List UInt8):XJ:=if YS b=0then(match zP b with|T (ws,_)=>⟨(GQ b:Int),ws⟩|none=>Zq)else Zq
theorem F8(t n:Nat):(Vx t n).length=4:=rfl
theorem aN(t n:Nat)(x:List UInt8)(ht:t<=1048576):GQ (Vx t n++x)=t:=by
 show 65536*(tK (t/65536)).toNat+256*(tK (t/256%256)).toNat+(tK (t%256)).toNat=t;simp only[UInt8.toNat_ofNat'];omega
theorem IV(t n:Nat)(x:List UInt8)(hn:n<=10):((Vx t n++x).getD 3 0).toNat=n:=by
 show(tK n).toNat=n;simp;omega
theorem Iv(t n:Nat)(x:List UInt8):(Vx t n++x).drop 4=x:=rfl
theorem Ha{w:Q6}(hw:QA w=0):(Yn w).length=3+w.name.length+w.key.length+w.value.length∧(Yn w).length<=59:=by
 obtain⟨c,d,a⟩:=(XV w).1 hw;unfold Yn qH;by_cases b:w.gone=tC;·rw[if_pos b]at a⊢;rw[a];simp only[tF,xC,List.length_cons,List.length_nil];omega
 ·rw[if_neg b]at a⊢;simp only[tF,xC];omega
def Wm(ws:List Q6):Nat:=(ws.map fun w=>3+w.name.length+w.key.length+w.value.length).sum
theorem jK:∀(ws:List Q6)(_:∀w∈ws,QA w=0),(ws.flatMap Yn).length=Wm ws∧(ws.flatMap Yn).length<=59*ws.length|[],_=>by simp[Wm]|w::ws,h=>by obtain⟨b,c⟩:=jK ws (fun x a=>h x (sK _ a));obtain⟨d,e⟩:=Ha (h w (List.mem_cons_self ..));rw[List.flatMap_cons,tF];unfold Wm at b⊢;rw[List.map_cons,List.sum_cons,List.length_cons];omega
theorem Vv{c:XJ}(h:QW c=0):(Zm c).length=4+Wm c.writes∧(Zm c).length<=594:=by
 obtain⟨_,b,a⟩:=(Ug c).1 h;obtain⟨d,e⟩:=jK c.writes a;unfold Zm;rw[tF,F8];omega
theorem Ba{c:XJ}(h:QW c=0)(x:List UInt8):zP (Zm c++x)=T (c.writes,x)∧GQ (Zm c++x)=c.turn.toNat:=by
 obtain⟨d,a,b⟩:=(Ug c).1 h;unfold zP Zm;rw[tJ,IV _ _ _ a.2,Iv,aN _ _ _ (by omega)];exact⟨TY _ b _,rfl⟩
theorem CG{c:XJ}(h:QW c=0):YS (Zm c)=0∧JZ (Zm c)=c:=by
 obtain⟨f,g,i⟩:=(Ug c).1 h;obtain⟨j,k⟩:=Vv h;obtain⟨a,b⟩:=Ba h [];rw[sH]at a b;have d:(⟨(GQ (Zm c):Int),c.writes⟩:XJ)=c:=by rw[b,Int.toNat_of_nonneg (by omega)]
 have e:YS (Zm c)=0:=by rw[YS,if_neg (by omega),if_neg (by omega),a];show(if([]:List UInt8).length=0then QW ⟨(GQ (Zm c):Int),c.writes⟩else 4)=0;rw[if_pos (show([]:List UInt8).length=0from rfl),d,h]
 refine⟨e,?_⟩;rw[JZ,if_pos e,a];exact d
theorem DM{b:List UInt8}(h:YS b=0):QW (JZ b)=0∧Zm (JZ b)=b:=by
 have c:JZ b=(match zP b with|T (a,_)=>⟨(GQ b:Int),a⟩|none=>Zq):=by rw[JZ,if_pos h]
 rw[YS]at h;by_cases g:4000<b.length;·rw[if_pos g]at h;omega
 rw[if_neg g]at h;by_cases d:b.length<4;·rw[if_pos d]at h;omega
 rw[if_neg d]at h;cases hb:zP b with|none=>rw[hb]at h;simp at h|some q=>obtain⟨a,r⟩:=q;rw[hb]at h c;have h:(if r.length=0then QW ⟨(GQ b:Int),a⟩else 4)=0:=h;have c:JZ b=⟨(GQ b:Int),a⟩:=c;by_cases e:r.length=0;(·rw[if_pos e]at h;obtain rfl:r=[]:=tG e;rw[c];refine⟨h,?_⟩;obtain⟨n,o,p⟩:=(Ug _).1 h;unfold zP at hb;obtain⟨f,i⟩:=Fo _ hb;rw[sH]at f;show Vx ((GQ b:Int)).toNat a.length++a.flatMap Yn=b;rw[<-f,i,Int.toNat_natCast];match b,d with|x0::x1::x2::x3::t,_=>show Vx (65536*x0.toNat+256*x1.toNat+x2.toNat) x3.toNat++t=_;have j:=x0.toNat_lt;have k:=x1.toNat_lt;have l:=x2.toNat_lt;have m:=x3.toNat_lt;unfold Vx;rw[show(65536*x0.toNat+256*x1.toNat+x2.toNat)/65536=x0.toNat by omega,show(65536*x0.toNat+256*x1.toNat+x2.toNat)/256%256=x1.toNat by omega,show(65536*x0.toNat+256*x1.toNat+x2.toNat)%256=x2.toNat by omega];simp);·rw[if_neg e]at h;omega
def Rf(b:List UInt8):List UInt8:=tK (b.length/256)::tK (b.length%256)::b
theorem yW(b:List UInt8):(Rf b).length=b.length+2:=rfl
def ZK(D:List UInt8->List UInt8)(c:XJ):List UInt8:=Rf (Zm c)++D (Rf (Zm c))
def Zl(r:List UInt8):Nat:=256*(r.getD 0 0).toNat+(r.getD 1 0).toNat
def XQ(D:List UInt8->List UInt8)(r:List UInt8):Option (XJ×List UInt8):=if r.length<6then V else if r.length<Zl r+6∨4000<Zl r+2then V else if D (r.take (Zl r+2))=(r.drop (Zl r+2)).take 4then(if YS ((r.drop 2).take (Zl r))=0then T (JZ ((r.drop 2).take (Zl r)),r.drop (Zl r+6))else V)else V
theorem S5{D:List UInt8->List UInt8}{r r2:List UInt8}{c:XJ}(h:XQ D r=T (c,r2)):∃m,6<=m∧m<=r.length∧r2=r.drop m∧QW c=0:=by
 unfold XQ at h;by_cases b:r.length<6;·rw[if_pos b]at h;cases h
 rw[if_neg b]at h;by_cases d:r.length<Zl r+6∨4000<Zl r+2;·rw[if_pos d]at h;cases h
 rw[if_neg d]at h;by_cases e:D (r.take (Zl r+2))=(r.drop (Zl r+2)).take 4;·rw[if_pos e]at h;by_cases a:YS ((r.drop 2).take (Zl r))=0;(·rw[if_pos a]at h;simp only[tV,sP]at h;obtain⟨rfl,rfl⟩:=h;exact⟨Zl r+6,by omega,by omega,rfl,(DM a).1⟩);·rw[if_neg a]at h;cases h
 ·rw[if_neg e]at h;cases h
theorem MA{b:List UInt8}(h:b.length<65536)(x:List UInt8):Zl (Rf b++x)=b.length:=by
 show 256*(tK (b.length/256)).toNat+(tK (b.length%256)).toNat=b.length;simp only[UInt8.toNat_ofNat'];omega
theorem F0{D:List UInt8->List UInt8}(hD:∀x,(D x).length=4)(c:XJ):(ZK D c).length=(Zm c).length+6:=by
 unfold ZK;rw[tF,hD,yW]
theorem SS{D:List UInt8->List UInt8}(hD:∀x,(D x).length=4){c:XJ}(h:QW c=0)(r:List UInt8):XQ D (ZK D c++r)=T (c,r):=by
 obtain⟨l,m⟩:=Vv h;obtain⟨d,e⟩:=CG h;have a:=F0 hD c;have k:Zl (ZK D c++r)=(Zm c).length:=by unfold ZK;rw[tJ];exact MA (by omega) _
 have j:(ZK D c++r).take ((Zm c).length+2)=Rf (Zm c):=by unfold ZK;rw[tJ];exact List.take_left' (yW _)
 have f:(ZK D c++r).drop ((Zm c).length+2)=D (Rf (Zm c))++r:=by unfold ZK;rw[tJ];exact List.drop_left' (yW _)
 have i:((ZK D c++r).drop 2).take (Zm c).length=Zm c:=by unfold ZK;rw[tJ];exact List.take_left' rfl
 have g:(ZK D c++r).drop ((Zm c).length+6)=r:=List.drop_left' a;have b:(ZK D c++r).length=(Zm c).length+6+r.length:=by rw[tF,a]
 unfold XQ;rw[if_neg (by omega),k,if_neg (by omega),j,f,i,g,if_pos (List.take_left' (hD _)).symm,if_pos d,e]
theorem Wi{D:List UInt8->List UInt8}(hD:∀x,(D x).length=4){c:XJ}(h:QW c=0)(k:Nat)(hk:k<(ZK D c).length):XQ D ((ZK D c).take k)=V:=by
 obtain⟨f,g⟩:=Vv h;have e:=F0 hD c;have b:((ZK D c).take k).length=k:=by simp;omega
 unfold XQ;by_cases d:k<6;·rw[if_pos (by omega)]
 ·(have a:Zl ((ZK D c).take k)=(Zm c).length:=by(have a:Zl (ZK D c++[])=(Zm c).length:=by unfold ZK;rw[tJ];exact MA (by omega) _);rw[sH]at a;rw[<-a];unfold Zl;simp only[List.getD_eq_getElem?_getD,List.getElem?_take];rw[if_pos (by omega),if_pos (by omega)]);rw[if_neg (by omega),a,if_pos (by omega)]
def K4(D:List UInt8->List UInt8)(turn:Nat)(r:List UInt8):List XJ×List UInt8:=match h:XQ D r with|T (c,r2)=>if c.turn=(turn:Int)then(c::(K4 D (turn+1) r2).1,(K4 D (turn+1) r2).2)else([],r)|none=>([],r)termination_by r.length decreasing_by
 all_goals obtain⟨m,h1,h2,h3,_⟩:=S5 h;rw[h3,List.length_drop];omega
theorem cQ{D:List UInt8->List UInt8}{turn:Nat}{r r2:List UInt8}{c:XJ}(h:XQ D r=T (c,r2))(ht:c.turn=(turn:Int)):K4 D turn r=(c::(K4 D (turn+1) r2).1,(K4 D (turn+1) r2).2):=by
 rw[K4];split;·next c' r' h'=>rw[h]at h';simp only[tV,sP]at h';obtain⟨rfl,rfl⟩:=h';rw[if_pos ht]
 ·next h'=>rw[h]at h';cases h'
theorem O4{D:List UInt8->List UInt8}{turn:Nat}{r r2:List UInt8}{c:XJ}(h:XQ D r=T (c,r2))(ht:c.turn≠(turn:Int)):K4 D turn r=([],r):=by
 rw[K4];split;·next c' r' h'=>rw[h]at h';simp only[tV,sP]at h';obtain⟨rfl,rfl⟩:=h';rw[if_neg ht]
 ·rfl
theorem EF{D:List UInt8->List UInt8}{turn:Nat}{r:List UInt8}(h:XQ D r=V):K4 D turn r=([],r):=by
 rw[K4];split;·next c' r' h'=>rw[h]at h';cases h'
 ·rfl
theorem aT(D:List UInt8->List UInt8):XQ D []=V:=by
 unfold XQ;rw[if_pos (by simp)]
def xS:Nat->List XJ->Prop|_,[]=>True|t,c::cs=>c.turn=(t:Int)∧QW c=0∧xS (t+1) cs
theorem xS.take:∀{t:Nat}{cs:List XJ}(_:xS t cs)(j:Nat),xS t (cs.take j)|_,[],_,j=>by rw[List.take_nil];trivial|_,c::cs,_,0=>trivial|t,c::cs,h,j+1=>⟨h.1,h.2.1,xS.take h.2.2 j⟩
def QU(D:List UInt8->List UInt8)(cs:List XJ):List UInt8:=cs.flatMap (ZK D)
theorem K8(D:List UInt8->List UInt8)(c:XJ)(cs:List XJ):QU D (c::cs)=ZK D c++QU D cs:=List.flatMap_cons
theorem Gd(D:List UInt8->List UInt8)(a b:List XJ):QU D (a++b)=QU D a++QU D b:=List.flatMap_append
theorem FS(D:List UInt8->List UInt8)(c:XJ):QU D [c]=ZK D c:=by
 simp[QU]
def Bb(D:List UInt8->List UInt8)(r:List UInt8):Nat:=r.length-(K4 D 1 r).2.length
theorem AY{D:List UInt8->List UInt8}(hD:∀x,(D x).length=4):∀{t:Nat}{cs:List XJ}(_:xS t cs)(k:Nat),∃j,j<=cs.length∧K4 D t ((QU D cs).take k)=(cs.take j,((QU D cs).take k).drop (QU D (cs.take j)).length)∧(QU D (cs.take j)).length<=k∧(QU D (cs.take j)).length<=(QU D cs).length∧(j<cs.length->k<(QU D (cs.take (j+1))).length)|t,[],_,k=>⟨0,by simp,by show K4 D t (([]:List UInt8).take k)=_;rw[List.take_nil,EF (aT D)];simp[QU],by simp[QU],by simp[QU],fun h=>by simp at h⟩|t,c::cs,h,k=>by by_cases a:k<(ZK D c).length;(·refine⟨0,by simp,?_,by simp[QU],by simp[QU],fun _=>?_⟩;(·rw[K8,List.take_append_of_le_length (by omega),EF (Wi hD h.2.1 k a)];simp[QU]);·show k<(QU D [c]).length;rw[FS];exact a);·obtain⟨j,g,b,i,l,d⟩:=AY hD h.2.2 (k-(ZK D c).length);(have f:(QU D (c::cs)).take k=ZK D c++(QU D cs).take (k-(ZK D c).length):=by rw[K8,List.take_append,List.take_of_length_le (by omega)]);refine⟨j+1,by simp;omega,?_,?_,?_,fun e=>?_⟩;(·rw[f,cQ (SS hD h.2.1 _) h.1,b,sU,K8];rw[tF,<-List.drop_drop,List.drop_left' rfl]);(·rw[sU,K8,tF];omega);(·rw[sU,K8,K8,tF,tF];omega);·have:=d (by simpa using e);rw[sU,K8,tF];omega
theorem Vn(D:List UInt8->List UInt8)(cs:List XJ)(i j:Nat)(h:i<=j):(QU D (cs.take i)).length<=(QU D (cs.take j)).length:=by
 have:cs.take i=(cs.take j).take i:=by rw[List.take_take,Nat.min_eq_left h]
 rw[this];conv=>rhs;rw[<-tL i (cs.take j),Gd]
 rw[tF];omega
theorem Nh{D:List UInt8->List UInt8}{cs:List XJ}{k j i:Nat}(hi:i<=cs.length)(hj:j<cs.length->k<(QU D (cs.take (j+1))).length)(hk:(QU D (cs.take i)).length<=k):i<=j:=by
 by_cases h:i<=j;·exact h
 ·have:=Vn D cs (j+1) i (by omega);have:=hj (by omega);omega
theorem Mv(t:PL)(p:Pr)(h:∀q∈t,(1<=q.1.length∧q.1.length<=16)∧q.2.length<=32)(hp:(1<=p.1.length∧p.1.length<=16)∧p.2.length<=32):∀q∈J5 t p,(1<=q.1.length∧q.1.length<=16)∧q.2.length<=32:=by
 intro q a;rcases DW t p q a with rfl|a;·exact hp
 ·exact h q a
theorem Ij:∀(t:PL)(p:Pr)(k:Nat),k<=t.length->(∀j,j<k->YP (t.getD j ([],[])).1 p.1=tC)->(k<t.length->YP (t.getD k ([],[])).1 p.1=tH)->J5 t p=if k<t.length∧(t.getD k ([],[])).1=p.1then t.set k p else t.take k++([p]++t.drop k)|[],p,k,a,_,_=>by(obtain rfl:k=0:=by simpa using a);simp[J5]|q::r,p,0,_,_,h2=>by have h:=h2 (by simp);simp only[sJ]at h;rw[J5,if_neg (by rw[h];simp)];by_cases e:q.1=p.1;(·rw[if_pos e,if_pos ⟨by simp,by simpa using e⟩];simp);·rw[if_neg e,if_neg (fun h=>e (by simpa using h.2))];simp|q::r,p,k+1,a,h1,h2=>by have h:=h1 0 (by omega);simp only[sJ]at h;rw[J5,if_pos h,Ij r p k (by simpa using a) (fun j b=>by simpa using h1 (j+1) (by omega)) (fun a=>by simpa using h2 (by simpa using a))];by_cases e:k<r.length∧(r.getD k ([],[])).1=p.1;(·rw[if_pos e,if_pos ⟨by simpa using e.1,by simpa using e.2⟩];simp);·rw[if_neg e,if_neg (fun h=>e ⟨by simpa using h.1,by simpa using h.2⟩)];simp
theorem iJ(t:PL)(p:Pr)(h:Zd t)(hp:(1<=p.1.length∧p.1.length<=16)∧p.2.length<=32)(hl:t.length<60):KG t p=0∧VZ t p=J5 t p∧Zd (J5 t p):=by
 have c:GG t p=0:=by rw[GG,if_pos ((Yi t).2 h)];exact(Yt p).2 hp
 have b:=WM t p;have a:KG t p=0:=by rw[KG,if_pos c,if_neg (by omega)]
 exact⟨a,by rw[VZ,if_pos a],⟨by omega,Mv t p h.pairs hp,FB t p h.rises⟩⟩
def EU(m:Nat)(l:FL):Prop:=∀n,(Xw l n).length<=m
theorem Ow:EU 0 []:=fun n=>by
 rw[cM];simp
theorem fW(l:FL)(w:Q6):(XU l w).length<=(Xw l w.name).length+1:=by
 unfold XU;by_cases a:w.gone=tC;·rw[if_pos a];have:=DJ (Xw l w.name) w.key;omega
 ·rw[if_neg a];exact WM _ _
theorem NZ{l:FL}{m:Nat}(hr:XT l)(h:EU m l)(w:Q6):EU (m+1) (QZ l w):=fun n=>by
 rw[vV hr];by_cases e:w.name=n;·rw[if_pos e];have:=fW l w;have:=h w.name;omega
 ·rw[if_neg e];have:=h n;omega
theorem mO{l:FL}{m:Nat}(h:Zb l){w:Q6}(hw:QA w=0)(hs:EU m l)(hm:m<60):zV l w=0:=by
 obtain⟨_,c,d⟩:=(XV w).1 hw;have a:=Jn h w.name;have e:=hs w.name;unfold zV;by_cases b:w.gone=tC;·rw[if_pos b];exact uC a c
 ·rw[if_neg b]at d⊢;exact(iJ _ _ a ⟨c,d⟩ (by omega)).1
theorem yT{l:FL}{m:Nat}(h:Zb l){w:Q6}(hw:QA w=0)(hs:EU m l)(hm:m<60):XC l w=if 8<(QZ l w).length then 11 else 0:=by
 rw[XC,if_pos (mO h hw hs hm)]
theorem To(l:FL)(w:Q6):(QZ l w).length<=l.length+1:=by
 unfold QZ;by_cases a:(XU l w).length=0;·rw[if_pos a];have:=M9 l w.name;omega
 ·rw[if_neg a];exact OH _ _
theorem AL{l:FL}(h:Zb l)(w:Q6)(n k:List UInt8):Yx (Xw (QZ l w) n) k=if w.name=n∧w.key=k then(if w.gone=tC then V else T w.value)else Yx (Xw l n) k:=by
 rw[vV h.rises];by_cases e:w.name=n;·subst e;rw[if_pos rfl];unfold XU;by_cases b:w.gone=tC;(·rw[if_pos b,if_pos b,lS];by_cases a:w.key=k;(·rw[if_pos a,if_pos ⟨rfl,a⟩]);·rw[if_neg a,if_neg (fun h=>a h.2)]);·rw[if_neg b,if_neg b,mM _ _ _ (Jn h _).rises];by_cases a:w.key=k;(·rw[if_pos a,if_pos ⟨rfl,a⟩]);·rw[if_neg a,if_neg (fun h=>a h.2)]
 ·rw[if_neg e,if_neg (fun h=>e h.1)]
theorem P5:∀(ws:List Q6)(l:FL),Zb l->ZA l ws=0->Zb (YL l ws)|[],l,h,_=>h|w::ws,l,h,he=>by rw[ZA]at he;by_cases b:QA w=0;(·rw[if_pos b]at he;by_cases a:XC l w=0;(·rw[if_pos a]at he;exact P5 ws _ (UZ h b a) he);·rw[if_neg a]at he;exact absurd he a);·rw[if_neg b]at he;exact absurd he b
theorem No{l:FL}(h:Zb l)(ws:List Q6)(hn:ws.length<=10):QM l ws=ZA l ws:=by
 rw[QM,if_pos ((Z6 l).2 h),if_neg (by omega)]
theorem aH{l:FL}(h:Zb l)(ws:List Q6)(hn:ws.length<=10):ZQ l ws=if ZA l ws=0then YL l ws else[]:=by
 rw[ZQ,No h ws hn]
theorem N4{l:FL}(h:Zb l)(w:Q6)(n:List UInt8)(hne:w.name≠n):Xw (QZ l w) n=Xw l n:=by
 rw[vV h.rises,if_neg hne]
def qT(l:FL)(n:List UInt8):Int:=if Q7 l=0then Qs n.length else Q7 l
theorem dI{l:FL}{n:List UInt8}(h:Zb l)(hn:1<=n.length∧n.length<=8):qT l n=0:=by
 rw[qT,if_pos ((Z6 l).2 h)];exact(Zk _).2 hn
theorem xO{l:FL}{n:List UInt8}(h:qT l n=0):Zb l∧(1<=n.length∧n.length<=8):=by
 unfold qT at h;by_cases a:Q7 l=0;·rw[if_pos a]at h;exact⟨(Z6 l).1 a,(Zk _).1 h⟩
 ·rw[if_neg a]at h;exact absurd h a
def Vr(l:FL)(n k:List UInt8):Int:=if qT l n=0then Xi (Xw l n) k else qT l n
def Ur(l:FL)(n k:List UInt8):Bool:=if qT l n=0then Eg (Xw l n) k else tH
def Ux(l:FL)(n k:List UInt8):List UInt8:=if qT l n=0then EG (Xw l n) k else[]
theorem lV{l:FL}(h:Zb l)(n k:List UInt8)(hn:1<=n.length∧n.length<=8)(hk:1<=k.length∧k.length<=16):Vr l n k=0∧Ur l n k=(Yx (Xw l n) k).isSome∧Ux l n k=(Yx (Xw l n) k).getD []:=by
 have a:=dI h hn;have b:=uC (Jn h n) hk;refine⟨by rw[Vr,if_pos a,b],by rw[Ur,if_pos a,Eg,b];rfl,by rw[Ux,if_pos a,EG,if_pos b]⟩
def YN(l:FL)(n f t:List UInt8):Int:=if qT l n=0then YK (Xw l n) f t else qT l n
def KH(l:FL)(n f t:List UInt8):PL:=if qT l n=0then Uf (Xw l n) f t else[]
structure Rq where
  kind : Int
  name : List UInt8
  key : List UInt8
  last : List UInt8
  value : List UInt8
def GM:Rq:=⟨0,[],[],[],[]⟩
def QS(k:Int):Bool:=tP (2<=k∧k<=5)||tP (k=8)
def kQ(r:Rq):Int:=if QS r.kind=tC then(if Qs r.name.length=0then(if Qn r.key.length=0then(if r.kind=3then Qn r.last.length else 0)else Qn r.key.length)else Qs r.name.length)else 0
def ND(r:Rq):Int:=if QS r.kind=tH∧0<r.name.length+r.key.length then 4 else if(r.kind≠3∧0<r.last.length)∨(r.kind≠4∧0<r.value.length)then 4 else 0
def Yp(r:Rq):Int:=if 1<=r.kind∧r.kind<=8then(if kQ r=0then(if 32<r.value.length then 1 else ND r)else kQ r)else 5
structure JG(r:Rq):Prop where kind:1<=r.kind∧r.kind<=8name:QS r.kind=tC->1<=r.name.length∧r.name.length<=8key:QS r.kind=tC->1<=r.key.length∧r.key.length<=16last:r.kind=3->1<=r.last.length∧r.last.length<=16value:r.value.length<=32noName:QS r.kind=tH->r.name=[]noKey:QS r.kind=tH->r.key=[]noLast:r.kind≠3->r.last=[]noValue:r.kind≠4->r.value=[]
theorem TZ(r:Rq):kQ r=0↔(QS r.kind=tC->(1<=r.name.length∧r.name.length<=8)∧(1<=r.key.length∧r.key.length<=16)∧(r.kind=3->1<=r.last.length∧r.last.length<=16)):=by
 unfold kQ;by_cases h:QS r.kind=tC;·rw[if_pos h];by_cases a:Qs r.name.length=0;(·rw[if_pos a];by_cases b:Qn r.key.length=0;(·rw[if_pos b];by_cases c:r.kind=3;(·rw[if_pos c,Zc];exact⟨fun e _=>⟨(Zk _).1 a,(Zc _).1 b,fun _=>e⟩,fun e=>(e h).2.2 c⟩);·rw[if_neg c];exact⟨fun _ _=>⟨(Zk _).1 a,(Zc _).1 b,fun e=>absurd e c⟩,fun _=>rfl⟩);·rw[if_neg b];exact⟨fun e=>absurd e b,fun e=>(Zc _).2 (e h).2.1⟩);·rw[if_neg a];exact⟨fun e=>absurd e a,fun e=>(Zk _).2 (e h).1⟩
 ·rw[if_neg h];exact⟨fun _ e=>absurd e h,fun _=>rfl⟩
theorem OK{l:List UInt8}(h:¬0<l.length):l=[]:=tG (by
 omega)
theorem L6(r:Rq):ND r=0↔(QS r.kind=tH->r.name=[]∧r.key=[])∧(r.kind≠3->r.last=[])∧(r.kind≠4->r.value=[]):=by
 unfold ND;by_cases b:QS r.kind=tH∧0<r.name.length+r.key.length;·rw[if_pos b];refine⟨fun e=>(by cases e),fun e=>?_⟩;have:=e.1 b.1;rw[this.1,this.2]at b;simp at b
 ·rw[if_neg b];by_cases a:(r.kind≠3∧0<r.last.length)∨(r.kind≠4∧0<r.value.length);(·rw[if_pos a];refine⟨fun e=>(by cases e),fun e=>?_⟩;rcases a with a|a;(·rw[e.2.1 a.1]at a;simp at a);·rw[e.2.2 a.1]at a;simp at a);·rw[if_neg a];refine⟨fun _=>⟨fun h=>?_,fun h=>OK fun e=>a (.inl ⟨h,e⟩),fun h=>OK fun e=>a (.inr ⟨h,e⟩)⟩,fun _=>rfl⟩;have c:¬0<r.name.length+r.key.length:=fun e=>b ⟨h,e⟩;exact⟨OK (by omega),OK (by omega)⟩
theorem Vk(r:Rq):Yp r=0↔JG r:=by
 unfold Yp;by_cases a:1<=r.kind∧r.kind<=8;·rw[if_pos a];by_cases b:kQ r=0;(·rw[if_pos b];have c:=(TZ r).1 b;by_cases f:32<r.value.length;(·rw[if_pos f];exact⟨fun e=>(by cases e),fun e=>by have:=e.value;omega⟩);·rw[if_neg f,L6];refine⟨fun⟨d,g,i⟩=>⟨a,fun h=>(c h).1,fun h=>(c h).2.1,fun h=>(c (by rw[h];decide)).2.2 h,by omega,fun h=>(d h).1,fun h=>(d h).2,g,i⟩,fun e=>⟨fun h=>⟨e.noName h,e.noKey h⟩,e.noLast,e.noValue⟩⟩);·rw[if_neg b];refine⟨fun e=>absurd e b,fun e=>(TZ r).2 fun h=>⟨e.name h,e.key h,e.last⟩⟩
 ·rw[if_neg a];exact⟨fun e=>(by cases e),fun e=>absurd e.kind a⟩
def Xq(c:Bool)(p:List UInt8):List UInt8:=if c=tC then XS p else[]
def Jz(c:Bool)(r:List UInt8):Option (List UInt8×List UInt8):=if c=tC then ZD r else T ([],r)
theorem kM(c:Bool)(p r:List UInt8)(h:c=tC->p.length<256)(h0:c=tH->p=[]):Jz c (Xq c p++r)=T (p,r):=by
 cases c with|true=>exact V1 p r (h rfl)|false=>rw[h0 rfl];rfl
theorem Gu{c:Bool}{r p r2:List UInt8}(h:Jz c r=T (p,r2)):r=Xq c p++r2:=by
 cases c with|true=>exact G6 h|false=>(obtain⟨rfl,rfl⟩:[]=p∧r=r2:=by simpa[Jz]using h);rfl
theorem uE{c:Bool}{r p r2:List UInt8}(h:Jz c r=T (p,r2))(x:List UInt8):Jz c (r++x)=T (p,r2++x):=by
 cases c with|true=>exact Lg h x|false=>(obtain⟨rfl,rfl⟩:[]=p∧r=r2:=by simpa[Jz]using h);rfl
theorem O0{c:Bool}{r p r2:List UInt8}(h:Jz c r=T (p,r2))(hc:c=tH):p=[]:=by
 subst hc;have:[]=p∧r=r2:=by simpa[Jz]using h
 exact this.1.symm
def zL(r:Rq):List UInt8:=Xq (QS r.kind) r.name++(Xq (QS r.kind) r.key++(Xq (tP (r.kind=3)) r.last++Xq (tP (r.kind=4)) r.value))
def Jk(r:Rq):List UInt8:=tK r.kind.toNat::zL r
def VU(k:Int)(n q l r:List UInt8):Option (Rq×List UInt8):=match Jz (tP (k=4)) r with|T (v,r2)=>T (⟨k,n,q,l,v⟩,r2)|none=>V
def VW(k:Int)(n q r:List UInt8):Option (Rq×List UInt8):=match Jz (tP (k=3)) r with|T (l,r2)=>VU k n q l r2|none=>V
def VT(k:Int)(n r:List UInt8):Option (Rq×List UInt8):=match Jz (QS k) r with|T (q,r2)=>VW k n q r2|none=>V
def Yl(k:Int)(r:List UInt8):Option (Rq×List UInt8):=match Jz (QS k) r with|T (n,r2)=>VT k n r2|none=>V
theorem ME{r:Rq}(h:JG r)(x:List UInt8):Yl r.kind (zL r++x)=T (r,x):=by
 have a:=kM (QS r.kind) r.name (Xq (QS r.kind) r.key++(Xq (tP (r.kind=3)) r.last++(Xq (tP (r.kind=4)) r.value++x))) (fun e=>by have:=h.name e;omega) h.noName;have b:=kM (QS r.kind) r.key (Xq (tP (r.kind=3)) r.last++(Xq (tP (r.kind=4)) r.value++x)) (fun e=>by have:=h.key e;omega) h.noKey;have c:=kM (tP (r.kind=3)) r.last (Xq (tP (r.kind=4)) r.value++x) (fun e=>by have:=h.last (by simpa using e);omega) (fun e=>h.noLast (by simpa using e));have d:=kM (tP (r.kind=4)) r.value x (fun _=>by have:=h.value;omega) (fun e=>h.noValue (by simpa using e));rw[zL,tJ,tJ,tJ,Yl,a];show VT _ _ _=_;rw[VT,b];show VW _ _ _ _=_;rw[VW,c];show VU _ _ _ _ _=_;rw[VU,d]
theorem vW{k:Int}{b x:List UInt8}{r:Rq}(h:Yl k b=T (r,x)):r.kind=k∧∃r1 r2 r3,Jz (QS k) b=T (r.name,r1)∧Jz (QS k) r1=T (r.key,r2)∧Jz (tP (k=3)) r2=T (r.last,r3)∧Jz (tP (k=4)) r3=T (r.value,x):=by
 rw[Yl]at h;match h1:Jz (QS k) b with|none=>rw[h1]at h;cases h|T (n,r1)=>rw[h1]at h;replace h:VT k n r1=T (r,x):=h;rw[VT]at h;match h2:Jz (QS k) r1 with|none=>rw[h2]at h;cases h|T (q,r2)=>rw[h2]at h;replace h:VW k n q r2=T (r,x):=h;rw[VW]at h;match h3:Jz (tP (k=3)) r2 with|none=>rw[h3]at h;cases h|T (l,r3)=>rw[h3]at h;replace h:VU k n q l r3=T (r,x):=h;rw[VU]at h;match h4:Jz (tP (k=4)) r3 with|none=>rw[h4]at h;cases h|T (v,r4)=>rw[h4]at h;(obtain⟨rfl,rfl⟩:(⟨k,n,q,l,v⟩:Rq)=r∧r4=x:=by simpa using h);exact⟨rfl,r1,r2,r3,rfl,h2,h3,h4⟩
theorem iO{k:Int}{b r1 r2 r3 x n q l v:List UInt8}(h1:Jz (QS k) b=T (n,r1))(h2:Jz (QS k) r1=T (q,r2))(h3:Jz (tP (k=3)) r2=T (l,r3))(h4:Jz (tP (k=4)) r3=T (v,x)):Yl k b=T (⟨k,n,q,l,v⟩,x):=by
 rw[Yl,h1];show VT _ _ _=_;rw[VT,h2];show VW _ _ _ _=_;rw[VW,h3];show VU _ _ _ _ _=_;rw[VU,h4]
theorem Eh{k:Int}{b x:List UInt8}{r:Rq}(h:Yl k b=T (r,x)):b=zL r++x∧r.kind=k:=by
 obtain⟨a,g,i,j,c,d,e,f⟩:=vW h;refine⟨?_,a⟩;rw[zL,a,Gu c,Gu d,Gu e,Gu f];simp[tJ]
theorem Oh{k:Int}{b y:List UInt8}{r:Rq}(h:Yl k b=T (r,y))(x:List UInt8):Yl k (b++x)=T (r,y++x):=by
 obtain⟨f,g,i,j,a,c,d,e⟩:=vW h;have:=iO (uE a x) (uE c x) (uE d x) (uE e x);rw[this,<-f]
def UT(b:List UInt8):Int:=((b.getD 0 0).toNat:Int)
def XO(b:List UInt8):Int:=if 4000<b.length then 1 else if b.length=0then 14 else if 1<=UT b∧UT b<=8then(match Yl (UT b) (b.drop 1)with|none=>14|T (r,x)=>if x.length=0then Yp r else 4)else 5
def Y6(b:List UInt8):Rq:=if XO b=0then(match Yl (UT b) (b.drop 1)with|T (r,_)=>r|none=>GM)else GM
theorem MR{r:Rq}(h:JG r)(x:List UInt8):UT (Jk r++x)=r.kind∧(Jk r++x).drop 1=zL r++x:=by
 have a:=h.kind;refine⟨?_,rfl⟩;show(((tK r.kind.toNat).toNat:Nat):Int)=r.kind;simp;omega
theorem Um(c:Bool)(p:List UInt8):(Xq c p).length<=p.length+1:=by
 cases c with|true=>exact sM _|false=>exact Nat.zero_le _
theorem Pb{r:Rq}(h:JG r):(Jk r).length<=78∧1<=(Jk r).length:=by
 have f:=Um (QS r.kind) r.name;have g:=Um (QS r.kind) r.key;have i:=Um (tP (r.kind=3)) r.last;have j:=Um (tP (r.kind=4)) r.value;have a:r.name.length<=8:=by by_cases e:QS r.kind=tC;(·exact(h.name e).2);·rw[h.noName (by simpa using e)];simp
 have b:r.key.length<=16:=by by_cases e:QS r.kind=tC;(·exact(h.key e).2);·rw[h.noKey (by simpa using e)];simp
 have c:r.last.length<=16:=by by_cases e:r.kind=3;(·exact(h.last e).2);·rw[h.noLast e];simp
 have d:=h.value;have e:(Jk r).length=1+(Xq (QS r.kind) r.name).length+(Xq (QS r.kind) r.key).length+(Xq (tP (r.kind=3)) r.last).length+(Xq (tP (r.kind=4)) r.value).length:=by rw[Jk,zL,List.length_cons,tF,tF,tF];omega
 omega
theorem Na{r:Rq}(h:JG r):XO (Jk r)=0∧Y6 (Jk r)=r:=by
 have d:=Pb h;obtain⟨a,b⟩:=MR h [];rw[sH]at a b;have c:=ME h [];have e:XO (Jk r)=0:=by rw[XO,if_neg (by omega),if_neg (by omega),a,if_pos h.kind,b,c];show(if([]:List UInt8).length=0then Yp r else 4)=0;rw[if_pos (by simp)];exact(Vk r).2 h
 refine⟨e,?_⟩;rw[Y6,if_pos e,a,b,c]
theorem pM{r:Rq}(h:JG r)(k:Nat)(hk:k<(Jk r).length):XO ((Jk r).take k)=14:=by
 have j:=Pb h;have e:((Jk r).take k).length=k:=by rw[List.length_take];omega
 rw[XO,if_neg (by omega)];by_cases c:k=0;·rw[if_pos (by omega)]
 ·rw[if_neg (by omega)];have l:(Jk r).take k++(Jk r).drop k=Jk r:=tL _ _;(have a:UT ((Jk r).take k)=r.kind:=by obtain⟨b,_⟩:=MR h [];rw[sH]at b;rw[<-b];match k,c with|k+1,_=>rfl);rw[a,if_pos h.kind];match hD:Yl r.kind (((Jk r).take k).drop 1)with|none=>rfl|T (r',y)=>have f:=Oh hD ((Jk r).drop k);(have g:((Jk r).take k).drop 1++(Jk r).drop k=zL r:=by match k,c with|k+1,_=>show(zL r).take k++(zL r).drop k=zL r;exact tL _ _);rw[g]at f;have d:=ME h [];rw[sH,f]at d;(have i:y++(Jk r).drop k=[]:=by have:=congrArg (fun o=>o.map Prod.snd) d;simpa using this);have:=congrArg List.length i;rw[tF,List.length_drop]at this;simp at this;omega
theorem FU{b:List UInt8}(h:XO b=0):Yp (Y6 b)=0∧Jk (Y6 b)=b:=by
 have j:=h;rw[XO]at h;by_cases f:4000<b.length;·rw[if_pos f]at h;cases h
 ·rw[if_neg f]at h;by_cases a:b.length=0;(·rw[if_pos a]at h;cases h);·rw[if_neg a]at h;by_cases g:1<=UT b∧UT b<=8;(·rw[if_pos g]at h;match hD:Yl (UT b) (b.drop 1)with|none=>rw[hD]at h;cases h|T (r,x)=>rw[hD]at h;replace h:(if x.length=0then Yp r else 4)=0:=h;by_cases d:x.length=0;(·rw[if_pos d]at h;(have k:Y6 b=r:=by rw[Y6,if_pos j,hD]);rw[k];refine⟨h,?_⟩;obtain⟨e,i⟩:=Eh hD;rw[tG d,sH]at e;rw[Jk,<-e,i];match b,a with|c::b,_=>show tK ((c.toNat:Nat):Int).toNat::b=c::b;simp);·rw[if_neg d]at h;cases h);·rw[if_neg g]at h;cases h
theorem uD{b:List UInt8}(h:XO b≠0):Y6 b=GM:=by
 rw[Y6,if_neg h]
def UG(r:Rq):Int:=if Yp r=0then(if r.kind=2∨r.kind=3then 0 else 7)else Yp r
def ZC(r:Rq):Rd:=if UG r=0then⟨r.name,r.key,tP (r.kind=3),r.last⟩else Zj
def YZ(r:Rq):Int:=if Yp r=0then(if r.kind=4∨r.kind=5then 0 else 7)else Yp r
def QY(r:Rq):Q6:=if YZ r=0then⟨r.name,r.key,r.value,tP (r.kind=5)⟩else Qp
theorem fG{r:Rq}(h:UG r=0):XM (ZC r)=0:=by
 have f:=h;unfold UG at h;by_cases b:Yp r=0;·rw[if_pos b]at h;have d:=(Vk r).1 b;by_cases a:r.kind=2∨r.kind=3;(·(have e:QS r.kind=tC:=by rcases a with a|a<;>rw[a]<;>decide);rw[ZC,if_pos f,Mi];refine⟨d.name e,d.key e,?_⟩;show if tP (r.kind=3)=tC then _ else _;by_cases c:r.kind=3;(·rw[if_pos (by simpa using c)];exact d.last c);·rw[if_neg (by simpa using c)];exact d.noLast c);·rw[if_neg a]at h;cases h
 ·rw[if_neg b]at h;exact absurd h b
theorem Mr{r:Rq}(h:YZ r=0):QA (QY r)=0:=by
 have f:=h;unfold YZ at h;by_cases b:Yp r=0;·rw[if_pos b]at h;have c:=(Vk r).1 b;by_cases a:r.kind=4∨r.kind=5;(·(have e:QS r.kind=tC:=by rcases a with a|a<;>rw[a]<;>decide);rw[QY,if_pos f,XV];refine⟨c.name e,c.key e,?_⟩;show if tP (r.kind=5)=tC then _ else _;by_cases d:r.kind=5;(·rw[if_pos (by simpa using d)];exact c.noValue (by omega));·rw[if_neg (by simpa using d)];exact c.value);·rw[if_neg a]at h;cases h
 ·rw[if_neg b]at h;exact absurd h b
theorem Bf{r:Rq}(h:JG r):UG r=(if r.kind=2∨r.kind=3then 0 else 7)∧YZ r=(if r.kind=4∨r.kind=5then 0 else 7):=by
 have:=(Vk r).2 h;exact⟨by rw[UG,if_pos this],by rw[YZ,if_pos this]⟩
def dR(l:List Ac):List UInt8:=l.flatMap fun a=>rN a++[10]
def Uz:Nat->List Ac->Option (Nat×Int)|_,[]=>V|n,a::l=>if Jd a=0then Uz (n+1) l else T (n,Jd a)
def GZ(l:List Ac):Int:=if 100000<l.length then 1 else match Uz 0 l with|none=>0|T (_,e)=>e
def TG(l:List Ac):Nat:=if 100000<l.length then 0 else match Uz 0 l with|none=>0|T (i,_)=>i
def TH(l:List Ac):List UInt8:=if GZ l=0then dR l else[]
theorem MS:∀(l:List Ac)(n:Nat),Uz n l=V↔∀a∈l,Xx a|[],_=>by simp[Uz]|a::l,n=>by rw[Uz];by_cases b:Jd a=0;(·rw[if_pos b,MS l (n+1)];simp only[tY,forall_eq_or_imp];exact⟨fun h=>⟨(Pa a).1 b,h⟩,fun h=>h.2⟩);·rw[if_neg b];exact⟨fun h=>(by cases h),fun h=>absurd ((Pa a).2 (h a (by simp))) b⟩
theorem I7(l:List Ac)(m:Nat)(hm:m<l.length):Uz m (l.drop m)=if Jd (l.getD m Vf)=0then Uz (m+1) (l.drop (m+1))else T (m,Jd (l.getD m Vf)):=by
 rw[sQ hm,Uz,show l[m]=l.getD m Vf by simp[hm]]
theorem rT{l:List Ac}(h:∀a∈l,Xx a)(hl:l.length<=100000):GZ l=0∧TG l=0∧TH l=dR l:=by
 have b:=(MS l 0).2 h;have c:GZ l=0:=by rw[GZ,if_neg (by omega),b]
 exact⟨c,by rw[TG,if_neg (by omega),b],by rw[TH,if_pos c]⟩
theorem IG{l:List Ac}(h:100000<l.length):GZ l=1∧TG l=0∧TH l=[]:=by
 have e:GZ l=1:=by rw[GZ,if_pos h]
 exact⟨e,by rw[TG,if_pos h],by rw[TH,e,if_neg (by decide)]⟩
theorem Ef{l:List Ac}(h:l.length<=100000)(hb:Uz 0 l=V):GZ l=0∧TG l=0∧TH l=dR l:=by
 have e:GZ l=0:=by rw[GZ,if_neg (by omega),hb]
 exact⟨e,by rw[TG,if_neg (by omega),hb],by rw[TH,if_pos e]⟩
theorem gH{l:List Ac}(h:l.length<=100000){i:Nat}{e:Int}(hb:Uz 0 l=T (i,e))(he:e≠0):GZ l=e∧TG l=i∧TH l=[]:=by
 have a:GZ l=e:=by rw[GZ,if_neg (by omega),hb]
 exact⟨a,by rw[TG,if_neg (by omega),hb],by rw[TH,a,if_neg he]⟩
theorem mS{l:List Ac}{m:Nat}(hm:m<l.length)(hb:Uz 0 l=Uz m (l.drop m)):(Jd (l.getD m Vf)=0->Uz 0 l=Uz (m+1) (l.drop (m+1)))∧(Jd (l.getD m Vf)≠0->Uz 0 l=T (m,Jd (l.getD m Vf))):=by
 rw[hb,I7 l m hm];exact⟨fun h=>by rw[if_pos h],fun h=>by rw[if_neg h]⟩
def JY(w:tA)(v:tE)(r:Rq):Prop:=∃vn vk vl vv,v=.agg #[tR .i64 r.kind,vn,vk,vl,vv]∧Qe w vn r.name∧Qe w vk r.key∧Qe w vl r.last∧Qe w vv r.value
theorem JY.grown{w w':tA}{v:tE}{r:Rq}(h:JY w v r)(hg:tB w w' V):JY w' v r:=by
 obtain⟨g,e,f,i,rfl,a,b,c,d⟩:=h;exact⟨g,e,f,i,rfl,a.grown hg,b.grown hg,c.grown hg,d.grown hg⟩
theorem JY.agg{w:tA}{v:tE}{r:Rq}(h:JY w v r):∃n1 n2 k1 k2 l1 l2 v1 v2,v=.agg #[tR .i64 r.kind,tN n1 r.name.length n2,tN k1 r.key.length k2,tN l1 r.last.length l2,tN v1 r.value.length v2]:=by
 obtain⟨g,e,f,i,rfl,a,b,c,d⟩:=h;obtain⟨n1,n2,rfl⟩:=a.shape;obtain⟨k1,k2,rfl⟩:=b.shape;obtain⟨l1,l2,rfl⟩:=c.shape;obtain⟨v1,v2,rfl⟩:=d.shape;exact⟨n1,n2,k1,k2,l1,l2,v1,v2,rfl⟩
theorem JY.parts{w:tA}{r:Rq}{x a b c d:tE}(h:JY w (.agg #[x,a,b,c,d]) r):x=tR .i64 r.kind∧Qe w a r.name∧Qe w b r.key∧Qe w c r.last∧Qe w d r.value:=by
 obtain⟨m,k,l,n,e,f,g,i,j⟩:=h;simp only[Value.agg.injEq,Array.mk.injEq,List.cons.injEq,and_true]at e;obtain⟨rfl,rfl,rfl,rfl,rfl⟩:=e;exact⟨rfl,f,g,i,j⟩
theorem PM(w:tA):JY w (.agg #[tR .i64 0,tN V 0 0,tN V 0 0,tN V 0 0,tN V 0 0]) GM:=⟨_,_,_,_,rfl,Qw w,Qw w,Qw w,Qw w⟩
structure kG(r:Rq):Prop where kind:-9223372036854775808<=r.kind∧r.kind<=9223372036854775807name:r.name.length<=140737488355328key:r.key.length<=140737488355328last:r.last.length<=140737488355328value:r.value.length<=140737488355328
theorem kJ{r:Rq}(h:JG r):kG r:=by
 have a:=h.kind;have b:=h.value;have c:r.name.length<=8:=by by_cases e:QS r.kind=tC;(·exact(h.name e).2);·rw[h.noName (by simpa using e)];simp
 have d:r.key.length<=16:=by by_cases e:QS r.kind=tC;(·exact(h.key e).2);·rw[h.noKey (by simpa using e)];simp
 have f:r.last.length<=16:=by by_cases e:r.kind=3;(·exact(h.last e).2);·rw[h.noLast e];simp
 exact⟨by omega,by omega,by omega,by omega,by omega⟩
theorem Qq{W w:tA}{b:Nat}{x y z u s:tE}{t:TypeId}(hg:tB W w V)(h:W.heap[b]?=T (tQ #[x,y,z,u,s] t)):(w.cell? ⟨b,0,V⟩=T x∧w.cell? ⟨b,1,V⟩=T y∧w.cell? ⟨b,2,V⟩=T z∧w.cell? ⟨b,3,V⟩=T u∧w.cell? ⟨b,4,V⟩=T s)∧(w.frozen? ⟨b,0,V⟩=tH∧w.frozen? ⟨b,1,V⟩=tH∧w.frozen? ⟨b,2,V⟩=tH∧w.frozen? ⟨b,3,V⟩=tH∧w.frozen? ⟨b,4,V⟩=tH)∧w.heap[b]?=T (tQ #[x,y,z,u,s] t):=by
 have a:w.heap[b]?=T (tQ #[x,y,z,u,s] t):=by rw[hg.block b (tS.1 h).1 (by simp)];exact h
 refine⟨⟨?_,?_,?_,?_,?_⟩,⟨?_,?_,?_,?_,?_⟩,a⟩;all_goals simp[sL,World.frozen?,a]
theorem Yw{w:tA}{b i:Nat}{cs:Array tE}{t:TypeId}{fz:Nat×Nat}{u:tE}(h:w.heap[b]?=T (tQ cs t fz)):(tM w ⟨b,i,V⟩ u).heap[b]?=T (tQ (cs.setIfInBounds i u) t fz):=by
 simp only[tM,tW,if_true,h,Option.map_some];rfl
theorem xN{w:tA}{b c i:Nat}{o:Obj}{u:tE}(h:w.heap[b]?=T o)(hne:b≠c):(tM w ⟨c,i,V⟩ u).heap[b]?=T o:=by
 simp only[tM,tW];rw[if_neg (fun e=>hne e.symm)];exact h
abbrev cU(w:tA)(b:Nat)(x y z u s:tE):tA:=((((tM w ⟨b,0,V⟩ x).setCell ⟨b,1,V⟩ y).setCell ⟨b,2,V⟩ z).setCell ⟨b,3,V⟩ u).setCell ⟨b,4,V⟩ s
theorem PQ{w:tA}{b:Nat}{x y z u s:tE}{t:TypeId}(h:w.heap[b]?=T (tQ #[x,y,z,u,s] t))(x' y' z' u' s':tE):(cU w b x' y' z' u' s').heap[b]?=T (tQ #[x',y',z',u',s'] t):=Yw (Yw (Yw (Yw (Yw h))))
theorem yC{w W:tA}{b:Nat}(hg:tB w W V)(hb:w.heap.size<=b)(x y z u s:tE):tB w (cU W b x y z u s) V:=Qc (Qc (Qc (Qc (Qc hg _ hb _ _) _ hb _ _) _ hb _ _) _ hb _ _) _ hb _ _
theorem IY(W:tA)(b:Nat)(x y z u s:tE):tB W (cU W b x y z u s) (T b):=Qg (Qg (Qg (Qg (Qg (Qb W (T b)) _ _) _ _) _ _) _ _) _ _
abbrev GJ(w:tA)(b:Nat)(x y z u:tE):tA:=(((tM w ⟨b,0,V⟩ x).setCell ⟨b,1,V⟩ y).setCell ⟨b,2,V⟩ z).setCell ⟨b,3,V⟩ u
theorem Yh{w:tA}{b:Nat}{x y z u:tE}{t:TypeId}(h:w.heap[b]?=T (tQ #[x,y,z,u] t))(x' y' z' u':tE):(GJ w b x' y' z' u').heap[b]?=T (tQ #[x',y',z',u'] t):=Yw (Yw (Yw (Yw h)))
theorem Xf{w W:tA}{b:Nat}(hg:tB w W V)(hb:w.heap.size<=b)(x y z u:tE):tB w (GJ W b x y z u) V:=Qc (Qc (Qc (Qc hg _ hb _ _) _ hb _ _) _ hb _ _) _ hb _ _
theorem Yu(W:tA)(b:Nat)(x y z u:tE):tB W (GJ W b x y z u) (T b):=Qg (Qg (Qg (Qg (Qb W (T b)) _ _) _ _) _ _) _ _
theorem Za.later{base:Nat}{w w':tA}{v:tE}{bs:List UInt8}(h:Za base w v bs){b:Nat}(hg:tB w w' (T b))(hb:b<base):Za base w' v bs:=by
 refine h.grown hg (.inr fun e=>?_);have:=(h.lt b e).1;omega
def ML(i:Nat):Nat:=[0,0,3,7,11,3,0,0,3].getD i 0
def UA(w:tA):Prop:=∀i,i<9->w.cell? ⟨0,i,V⟩=T (tR .u8 ((ML i:Nat):Int))
theorem UA.grown{w w':tA}(h:UA w)(hg:tB w w' V):UA w':=fun i hi=>hg.cell (h i hi) (by
 simp)
def QQ(k:Int):Nat->Bool|0=>QS k|1=>QS k|2=>tP (k=3)|_=>tP (k=4)
theorem mV(k j:Nat)(hk:k<9)(hj:j<4):(bits BinOp.and IntKind.u8 ((ML k:Nat):Int) ((2^j:Nat):Int)!=0)=QQ (k:Int) j:=(by
 decide+kernel:∀(k:Fin 9)(j:Fin 4),(bits BinOp.and IntKind.u8 ((ML k.1:Nat):Int) ((2^j.1:Nat):Int)!=0)=QQ (k.1:Int) j.1) ⟨k,hk⟩ ⟨j,hj⟩
def Kt(r:Rq):List UInt8:=if Yp r=0then Jk r else[]
def eG:Prop:=∀(w:tA)(v:tE)(r:Rq),UA w->JY w v r->kG r->Calls tI 11 #[v] w fun e w'=>∃x,e=.returned (.tuple #[x,tR .i64 (Yp r)])∧Qh 0 w' x (Kt r)∧tB w w' V
def YE(w:tA)(v:tE)(r:Rd):Prop:=∃vn vk vl,v=.agg #[vn,vk,.bool r.wide,vl]∧Qe w vn r.name∧Qe w vk r.key∧Qe w vl r.last
theorem YE.grown{w w':tA}{v:tE}{r:Rd}(h:YE w v r)(hg:tB w w' V):YE w' v r:=by
 obtain⟨f,d,e,rfl,a,b,c⟩:=h;exact⟨f,d,e,rfl,a.grown hg,b.grown hg,c.grown hg⟩
theorem YE.agg{w:tA}{v:tE}{r:Rd}(h:YE w v r):∃na nc ka kc la lc,v=.agg #[tN na r.name.length nc,tN ka r.key.length kc,.bool r.wide,tN la r.last.length lc]:=by
 obtain⟨f,d,e,rfl,a,b,c⟩:=h;obtain⟨na,nc,rfl⟩:=a.shape;obtain⟨ka,kc,rfl⟩:=b.shape;obtain⟨la,lc,rfl⟩:=c.shape;exact⟨na,nc,ka,kc,la,lc,rfl⟩
theorem YE.parts{w:tA}{r:Rd}{x y g z:tE}(h:YE w (.agg #[x,y,g,z]) r):Qe w x r.name∧Qe w y r.key∧g=.bool r.wide∧Qe w z r.last:=by
 obtain⟨i,d,f,e,a,b,c⟩:=h;simp only[Value.agg.injEq,Array.mk.injEq,List.cons.injEq,and_true]at e;obtain⟨rfl,rfl,rfl,rfl⟩:=e;exact⟨a,b,rfl,c⟩
structure Ta(r:Rd):Prop where name:r.name.length<=140737488355328key:r.key.length<=140737488355328last:r.last.length<=140737488355328
structure VN where
  bit : Int
  right : Bool
  other : List UInt8
structure GU where
  empty : Bool
  steps : List VN
  pair : Pr
def QT:VN:=⟨0,tH,[]⟩
def VA:GU:=⟨tH,[],([],[])⟩
instance:Inhabited VN:=⟨QT⟩
instance:Inhabited GU:=⟨VA⟩
def Jq(k q:List UInt8)(l:List VN)(i:Nat):Prop:=(0<=(l.getD i QT).bit∧(l.getD i QT).bit<=144)∧(l.getD i QT).other.length=32∧(0<i->(l.getD (i-1) QT).bit<(l.getD i QT).bit)∧ZG k (l.getD i QT).bit.toNat=(l.getD i QT).right∧ZG q (l.getD i QT).bit.toNat=(l.getD i QT).right
instance(k q:List UInt8)(l:List VN)(i:Nat):Decidable (Jq k q l i):=by
 unfold Jq;infer_instance
def o7(k:List UInt8)(p:GU):Prop:=(p.empty=tC∧p.steps=[]∧p.pair.1=[]∧p.pair.2=[])∨(p.empty=tH∧QK p.pair=0∧∀i,i<p.steps.length->Jq k p.pair.1 p.steps i)
open Classical in noncomputable def Yg(k:List UInt8)(p:GU):Int:=if Qn k.length=0then(if o7 k p then 0 else 4)else Qn k.length
theorem Ev{k:List UInt8}{p:GU}(h:Qn k.length≠0):Yg k p=Qn k.length:=by
 rw[Yg,if_neg h]
theorem vC{k:List UInt8}{p:GU}(h:Qn k.length=0)(hm:o7 k p):Yg k p=0:=by
 rw[Yg,if_pos h,if_pos hm]
theorem xI{k:List UInt8}{p:GU}(h:Qn k.length=0)(hm:¬o7 k p):Yg k p=4:=by
 rw[Yg,if_pos h,if_neg hm]
theorem OI{k:List UInt8}{p:GU}(h:Yg k p=0):Qn k.length=0∧o7 k p:=by
 by_cases a:Qn k.length=0;·by_cases b:o7 k p;(·exact⟨a,b⟩);·rw[xI a b]at h;cases h
 ·rw[Ev a]at h;exact absurd h a
def UW(l:PL):Nat->Int|0=>999|1=>999|m+2=>if Kb (l.getD 0 ([],[])).1 (l.getD (m+1) ([],[])).1<UW l (m+1)then Kb (l.getD 0 ([],[])).1 (l.getD (m+1) ([],[])).1 else UW l (m+1)
def Qv(l:PL):Int:=UW l l.length
def Ji(l:PL)(b:Nat)(x:Bool):PL:=l.filter fun q=>ZG q.1 b==x
theorem B9(l:PL)(b:Nat)(x:Bool):(Ji l b x).length<=l.length:=List.length_filter_le _ _
theorem Xt{l:PL}(h:Zd l)(b:Nat)(x:Bool):Zd (Ji l b x):=⟨Nat.le_trans (B9 l b x) h.room,fun p a=>h.pairs p (List.mem_filter.1 a).1,List.Pairwise.filter _ h.rises⟩
theorem Ad{l:PL}(h:Zd l)(i j:Nat)(hij:i<j)(hj:j<l.length):0<=Kb (l.getD i ([],[])).1 (l.getD j ([],[])).1:=by
 have d:=Uh l h.rises i j hij hj;have b:=(h.pairs l[i] (sS (by omega))).1;have c:=(h.pairs l[j] (sS hj)).1;rw[show l[i]=l.getD i ([],[])by simp[show i<l.length by omega]]at b;rw[show l[j]=l.getD j ([],[])by simp[hj]]at c;have:=Lq (l.getD i ([],[])).1 (l.getD j ([],[])).1 b.2 c.2;have a:=Ft d;by_cases e:Kb (l.getD i ([],[])).1 (l.getD j ([],[])).1<0;·exact absurd (this.1 e) a
 ·omega
theorem Tm{l:PL}(h:Zd l):∀m,m<=l.length->0<=UW l m∧(2<=m->UW l m<=144)∧UW l m<=999|0,_=>⟨by simp[UW],by omega,by simp[UW]⟩|1,_=>⟨by simp[UW],by omega,by simp[UW]⟩|m+2,hm=>by have d:=Tm h (m+1) (by omega);have b:=Ad h 0 (m+1) (by omega) (by omega);have c:=Tr (l.getD 0 ([],[])).1 (l.getD (m+1) ([],[])).1;rw[UW];by_cases a:Kb (l.getD 0 ([],[])).1 (l.getD (m+1) ([],[])).1<UW l (m+1);(·rw[if_pos a];omega);·rw[if_neg a];omega
theorem Xk{l:PL}(h:Zd l)(h2:2<=l.length):0<=Qv l∧Qv l<=144:=by
 have:=Tm h l.length (sM _);exact⟨this.1,this.2.1 h2⟩
theorem Nz{l:PL}(_h:Zd l):∀m,2<=m->m<=l.length->∃j,0<j∧j<m∧UW l m=Kb (l.getD 0 ([],[])).1 (l.getD j ([],[])).1|0,h,_=>by omega|1,h,_=>by omega|m+2,_,hm=>by rw[UW];by_cases a:Kb (l.getD 0 ([],[])).1 (l.getD (m+1) ([],[])).1<UW l (m+1);(·rw[if_pos a];exact⟨m+1,by omega,by omega,rfl⟩);·rw[if_neg a];by_cases b:m=0;(·subst b;have f:=Tr (l.getD 0 ([],[])).1 (l.getD (0+1) ([],[])).1;simp only[UW]at a;omega);·obtain⟨j,c,e,d⟩:=Nz _h (m+1) (by omega) (by omega);exact⟨j,c,by omega,d⟩
theorem vH{l:PL}(h:Zd l)(h2:2<=l.length):∀x,(Ji l (Qv l).toNat x).length<l.length:=by
 obtain⟨j,n,b,g⟩:=Nz h l.length h2 (sM _);have o:=Xk h h2;have d:ZG (l.getD 0 ([],[])).1 (Qv l).toNat≠ZG (l.getD j ([],[])).1 (Qv l).toNat:=by rcases Kh (l.getD 0 ([],[])).1 (l.getD j ([],[])).1with⟨e,_⟩|⟨m,e,_,_,d⟩;(·rw[<-g]at e;unfold Qv at o;omega);·(have:(Qv l).toNat=m:=by unfold Qv;omega);rw[this];exact d
 intro x;by_cases i:(Ji l (Qv l).toNat x).length<l.length;·exact i
 ·(have k:(Ji l (Qv l).toNat x).length=l.length:=by have:=B9 l (Qv l).toNat x;omega);have a:=List.length_filter_eq_length_iff.1 k;have c:=a l[0] (sS (by omega));have f:=a l[j] (sS b);rw[show l[0]=l.getD 0 ([],[])by simp[show 0<l.length by omega]]at c;rw[show l[j]=l.getD j ([],[])by simp[b]]at f;simp only[beq_iff_eq]at c f;exact absurd (c.trans f.symm) d
def Ka(l:PL)(b:Nat):Nat:=(l.takeWhile fun q=>!ZG q.1 b).length
theorem jJ(l:PL):∀m j,0<j->j<m->m<=l.length->UW l m<=Kb (l.getD 0 ([],[])).1 (l.getD j ([],[])).1|0,j,_,h,_=>by omega|1,j,h0,h,_=>by omega|m+2,j,h0,h,hm=>by rw[UW];by_cases a:Kb (l.getD 0 ([],[])).1 (l.getD (m+1) ([],[])).1<UW l (m+1);(·rw[if_pos a];by_cases e:j=m+1;(·subst e;exact Int.le_refl _);·have:=jJ l (m+1) j h0 (by omega) (by omega);omega);·rw[if_neg a];by_cases e:j=m+1;(·subst e;omega);·exact jJ l (m+1) j h0 (by omega) (by omega)
theorem zI{l:PL}(h:Zd l)(h2:2<=l.length)(j:Nat)(hj:j<l.length)(b:Nat)(hb:b<(Qv l).toNat):ZG (l.getD 0 ([],[])).1 b=ZG (l.getD j ([],[])).1 b:=by
 by_cases c:j=0;·subst c;rfl
 ·have f:=jJ l l.length j (by omega) hj (sM _);have g:=Xk h h2;rcases Kh (l.getD 0 ([],[])).1 (l.getD j ([],[])).1with⟨e,a⟩|⟨m,e,d,a,_⟩;(·exact a b (by omega));·exact a b (by unfold Qv at hb;omega)
theorem Dd{l:PL}(h:Zd l)(h2:2<=l.length)(i j:Nat)(hij:i<j)(hj:j<l.length)(hi:ZG (l.getD i ([],[])).1 (Qv l).toNat=tC):ZG (l.getD j ([],[])).1 (Qv l).toNat=tC:=by
 have g:=Uh l h.rises i j hij hj;have n:=Ad h i j hij hj;rcases Kh (l.getD i ([],[])).1 (l.getD j ([],[])).1with⟨e,_⟩|⟨m,e,k,c,b⟩;·omega
 ·(have f:(Qv l).toNat<=m:=by by_cases a:m<(Qv l).toNat;(·exact absurd ((zI h h2 i (by omega) m a).symm.trans (zI h h2 j hj m a)) b);·omega);by_cases d:(Qv l).toNat=m;(·rw[d];have:=NA _ _ m c b;rw[this];exact g);·rw[<-c _ (by omega)];exact hi
theorem Tc{l:PL}(h:Zd l)(h2:2<=l.length):ZG (l.getD 0 ([],[])).1 (Qv l).toNat=tH∧ZG (l.getD (l.length-1) ([],[])).1 (Qv l).toNat=tC:=by
 obtain⟨j,c,d,f⟩:=Nz h l.length h2 (sM _);have o:=Xk h h2;have i:=Uh l h.rises 0 j c d;rcases Kh (l.getD 0 ([],[])).1 (l.getD j ([],[])).1with⟨e,_⟩|⟨m,e,q,p,g⟩;·rw[<-f]at e;unfold Qv at o;omega
 ·(have b:(Qv l).toNat=m:=by unfold Qv;omega);have n:=NA _ _ m p g;(have a:ZG (l.getD j ([],[])).1 m=tC:=by rw[n];exact i);refine⟨?_,?_⟩;(·rw[b];cases hx:ZG (l.getD 0 ([],[])).1 m with|false=>rfl|true=>exact absurd (hx.trans a.symm) g);·by_cases k:j=l.length-1;(·rw[<-k,b];exact a);·exact Dd h h2 j (l.length-1) (by omega) (by omega) (by rw[b];exact a)
theorem M6{l:PL}(h:Zd l)(h2:2<=l.length):Kb (l.getD 0 ([],[])).1 (l.getD (l.length-1) ([],[])).1=Qv l:=by
 have e:=Xk h h2;obtain⟨a,c⟩:=Tc h h2;rw[Bi _ _ (Qv l).toNat (by omega) (fun b d=>zI h h2 _ (by omega) b d) (by rw[a,c];simp)];omega
theorem WD:∀(l:PL)(b j:Nat),j<Ka l b->ZG (l.getD j ([],[])).1 b=tH|[],b,j,h=>by simp[Ka]at h|p::r,b,j,h=>by cases hk:ZG p.1 b with|true=>simp[Ka,hk]at h|false=>cases j with|zero=>simpa using hk|succ j=>have:=WD r b j (by unfold Ka at h⊢;rw[tT (p:=fun q:Pr=>!ZG q.1 b) (by simp[hk])]at h;simpa using h);simpa using this
theorem Sd:∀(l:PL)(b:Nat),Ka l b<l.length->ZG (l.getD (Ka l b) ([],[])).1 b=tC|[],b,h=>by simp at h|p::r,b,h=>by cases hk:ZG p.1 b with|true=>simp[Ka,hk]|false=>(have e:Ka (p::r) b=Ka r b+1:=by unfold Ka;rw[tT (p:=fun q:Pr=>!ZG q.1 b) (by simp[hk])];simp);rw[e]at h⊢;have:=Sd r b (by simpa using h);simpa using this
theorem qY{l:PL}(h:Zd l)(h2:2<=l.length)(j:Nat)(hj:j<l.length):ZG (l.getD j ([],[])).1 (Qv l).toNat=tP (Ka l (Qv l).toNat<=j):=by
 by_cases a:j<Ka l (Qv l).toNat;·rw[decide_eq_false (by omega)];exact WD l _ j a
 ·rw[decide_eq_true (by omega)];have b:=Sd l (Qv l).toNat (by omega);by_cases e:j=Ka l (Qv l).toNat;(·rw[e];exact b);·exact Dd h h2 _ j (by omega) hj b
theorem U6{l:PL}(h:Zd l)(h2:2<=l.length):0<Ka l (Qv l).toNat∧Ka l (Qv l).toNat<l.length:=by
 obtain⟨a,b⟩:=Tc h h2;rw[qY h h2 0 (by omega)]at a;rw[qY h h2 _ (by omega)]at b;simp at a b;omega
theorem vR{l:PL}(h:Zd l)(h2:2<=l.length):Ji l (Qv l).toNat tH=l.take (Ka l (Qv l).toNat):=by
 have g:=U6 h h2;have f:=fun j c=>qY h h2 j c;generalize(Qv l).toNat=b at*;generalize Ka l b=n at*;have e:l=l.take n++l.drop n:=(tL n l).symm;rw[Ji];conv=>lhs;rw[e]
 rw[sY,tU.2,sZ.2,sH];·intro q d;obtain⟨j,c,rfl⟩:=tD.1 d;(have a:n+j<l.length:=by simp at c;omega);rw[List.getElem_drop,show l[n+j]=l.getD (n+j) ([],[])by simp[a],f _ a];simp
 ·intro q d;obtain⟨j,c,rfl⟩:=tD.1 d;(have a:j<n:=by simp at c;omega);rw[sR,show l[j]'(by omega)=l.getD j ([],[])by simp[show j<l.length by omega],f _ (by omega)];simp[a]
theorem F4{l:PL}(h:Zd l)(h2:2<=l.length):Ji l (Qv l).toNat tC=l.drop (Ka l (Qv l).toNat):=by
 have g:=U6 h h2;have f:=fun j c=>qY h h2 j c;generalize(Qv l).toNat=b at*;generalize Ka l b=n at*;have e:l=l.take n++l.drop n:=(tL n l).symm;rw[Ji];conv=>lhs;rw[e]
 rw[sY,sZ.2,tU.2,List.nil_append];·intro q d;obtain⟨j,c,rfl⟩:=tD.1 d;(have a:n+j<l.length:=by simp at c;omega);rw[List.getElem_drop,show l[n+j]=l.getD (n+j) ([],[])by simp[a],f _ a];simp
 ·intro q d;obtain⟨j,c,rfl⟩:=tD.1 d;(have a:j<n:=by simp at c;omega);rw[sR,show l[j]'(by omega)=l.getD j ([],[])by simp[show j<l.length by omega],f _ (by omega)];simp[a]
def U(x:BitVec 64):Int:=(x.toNat:Int)
theorem kV(x:BitVec 64):sN 64 (U x)=x:=by
 unfold U;rw[BitVec.ofInt_natCast];simp
theorem vI(x:BitVec 64):IntKind.u64.wrap (x.toNat:Int)=U x:=by
 rw[IntKind.wrap_u64];unfold U;have:=x.isLt;omega
theorem Zv(x y:BitVec 64):bits .xor .u64 (U x) (U y)=U (x^^^y):=by
 show IntKind.u64.wrap ((sN 64 (U x)^^^sN 64 (U y)).toNat:Int)=_;rw[kV,kV,vI]
theorem MF(x y:BitVec 64):bits .or .u64 (U x) (U y)=U (x|||y):=by
 show IntKind.u64.wrap ((sN 64 (U x)|||sN 64 (U y)).toNat:Int)=_;rw[kV,kV,vI]
theorem K2(x y:BitVec 64):bits .andNot .u64 (U x) (U y)=U (x&&&~~~y):=by
 show IntKind.u64.wrap ((sN 64 (U x)&&&~~~sN 64 (U y)).toNat:Int)=_;rw[kV,kV,vI]
theorem Ki(x:BitVec 64)(k:Nat):IntKind.u64.wrap (U x*2^k)=U (x<<<k):=by
 rw[IntKind.wrap_u64];unfold U;rw[BitVec.toNat_shiftLeft,Nat.shiftLeft_eq];have e:((x.toNat:Int)*2^k)=((x.toNat*2^k:Nat):Int):=by simp
 rw[e];omega
theorem Db(x:BitVec 64)(k:Nat):U x/2^k=U (x>>>k):=by
 unfold U;rw[BitVec.toNat_ushiftRight,Nat.shiftRight_eq_div_pow];simp
theorem pH(k:Int)(h0:0<=k)(h:k<64):bits .and .u64 k 63=k:=by
 obtain⟨n,rfl⟩:=Int.eq_ofNat_of_zero_le h0;show IntKind.u64.wrap ((sN 64 (n:Int)&&&sN 64 63).toNat:Int)=_;rw[BitVec.ofInt_natCast,BitVec.toNat_and];have a:(BitVec.ofNat 64 n).toNat=n:=by rw[BitVec.toNat_ofNat];omega
 have b:(sN 64 63).toNat=2^6-1:=by decide
 rw[a,b,Nat.and_two_pow_sub_one_eq_mod,IntKind.wrap_u64];omega
def jD(x:BitVec 64)(k:Nat):BitVec 64:=(x<<<k)|||(x>>>(64-k))
section
theorem Im(x:BitVec 64)(k:Int)(h0:0<=k)(h:k<64)(w:tA):Calls tI 134 #[tR .u64 (U x),tR .i64 k] w fun e w'=>e=.returned (tR .u64 (U (jD x k.toNat)))∧w'=w:=by
 have a:=pH k h0 h;go_enter Tryz.func134,Tryz.ntmps134;go_wp2;go_ret;refine⟨?_,rfl⟩;rw[show(64-k).toNat=64-k.toNat by omega,Ki,Db,MF];rfl
def Kz(st:List (BitVec 64)):Array tE:=(st.map fun x=>tR .u64 (U x)).toArray
structure Yc (n : Nat) (w : tA) (b : Nat) (st : List (BitVec 64)) : Prop where
  len : st.length = n
  blk : ∃ t, w.heap[b]? = T (tQ (Kz st) t (0, 0))
section
variable{n:Nat}{w:tA}{b:Nat}{st:List (BitVec 64)}
theorem Yc.cell(h:Yc n w b st)(i:Nat)(hi:i<n):w.cell? ⟨b,i,V⟩=T (tR .u64 (U (st.getD i 0))):=by
 obtain⟨t,a⟩:=h.blk;simp[sL,a,Kz,List.getElem?_map,List.getElem?_eq_getElem (show i<st.length by have:=h.len;omega)]
theorem Yc.frozen(h:Yc n w b st)(i:Nat):w.frozen? ⟨b,i,V⟩=tH:=by
 obtain⟨t,a⟩:=h.blk;simp[World.frozen?,a]
theorem Yc.lt(h:Yc n w b st):b<w.heap.size:=by
 obtain⟨t,a⟩:=h.blk;exact(tS.1 a).1
theorem CZ(st:List (BitVec 64))(i:Nat)(x:BitVec 64):(Kz st).setIfInBounds i (tR .u64 (U x))=Kz (st.set i x):=by
 simp[Kz]
theorem Yc.set(h:Yc n w b st)(i:Nat)(x:BitVec 64):Yc n (tM w ⟨b,i,V⟩ (tR .u64 (U x))) b (st.set i x):=by
 obtain⟨t,a⟩:=h.blk;refine⟨by simp[h.len],t,?_⟩;simp only[tM,tW,if_true,a,Option.map_some];simp[CZ]
theorem Yc.setOther(h:Yc n w b st)(c:Nat)(hc:b≠c)(i:Nat)(v:tE):Yc n (tM w ⟨c,i,V⟩ v) b st:=by
 obtain⟨t,a⟩:=h.blk;exact⟨h.len,t,by rw[Below.heap_setCell _ _ _ _ hc];exact a⟩
theorem Yc.drewN(h:Yc n w b st)(k:Nat):Yc n (w.drewN k) b st:=⟨h.len,h.blk⟩
theorem Yc.drew(h:Yc n w b st):Yc n w.drew b st:=⟨h.len,h.blk⟩
theorem Yc.alloc(h:Yc n w b st)(o:Obj):Yc n (w.alloc o) b st:=by
 obtain⟨t,a⟩:=h.blk;exact⟨h.len,t,by rw[Below.heap_alloc _ _ _ h.lt];exact a⟩
theorem Yc.grown(h:Yc n w b st){w':tA}{r:Option Nat}(hg:tB w w' r)(hr:T b≠r):Yc n w' b st:=by
 obtain⟨t,a⟩:=h.blk;exact⟨h.len,t,by rw[hg.block b h.lt hr];exact a⟩
theorem Yc.new(w:tA)(t:TypeId)(st:List (BitVec 64))(hl:st.length=n):Yc n (w.alloc (tQ (Kz st) t)) w.heap.size st:=⟨hl,t,heap_alloc_new w _⟩
end
abbrev St:=Yc 25
def WJ(st:List (BitVec 64))(n:Nat):List (BitVec 64):=let a:=st.getD n 0;let b:=st.getD (n+1) 0;let c:=st.getD (n+2) 0;let d:=st.getD (n+3) 0;let e:=st.getD (n+4) 0;((((st.set n (a^^^(c&&&~~~b))).set (n+1) (b^^^(d&&&~~~c))).set (n+2) (c^^^(e&&&~~~d))).set (n+3) (d^^^(a&&&~~~e))).set (n+4) (e^^^(b&&&~~~a))
def Gn(st:List (BitVec 64)):Nat->List (BitVec 64)|0=>st|k+1=>WJ (Gn st k) (5*k)
theorem bZ(w:tA)(b:Nat)(st:List (BitVec 64))(h:St w b st):Calls tI 107 #[.pointer (T ⟨b,0,V⟩)] w fun e w'=>e=.returned (.tuple #[])∧St w' b (Gn st 5)∧tB w w' (T b):=by
 go_enter Tryz.func107,Tryz.ntmps107;go_wp2;go_loopw[2](fun y wr=>∃k:Nat,k<=5∧y=tR .i64 ((5*k:Nat):Int)∧St wr b (Gn st k)∧tB w wr (T b))(fun y _=>25-(intOf y).toNat);case atStart=>exact⟨0,by omega,rfl,h,Qb _ _⟩
 case round=>obtain⟨k,z,rfl,a,f⟩:=hrel;by_cases q:k<5;(·generalize hn:5*k=n;have d:Hid (5*k=n):=hn;clear hn;(have p:n+4<25:=by have:=d.out;omega);have c:=a.cell;have x:=a.frozen;have r:=c n (by omega);have s:=c (n+1) (by omega);have t:=c (n+2) (by omega);have u:=c (n+3) (by omega);have v:=c (n+4) (by omega);clear c;generalize hS:Gn st k=S at*;have o:Hid (Gn st k=S):=hS;clear hS;generalize hA:S.getD n 0=A at*;generalize hB:S.getD (n+1) 0=B at*;generalize hC:S.getD (n+2) 0=C at*;generalize hD:S.getD (n+3) 0=D at*;generalize hE:S.getD (n+4) 0=E at*;have g:Hid (S.getD n 0=A):=hA;have i:Hid (S.getD (n+1) 0=B):=hB;have j:Hid (S.getD (n+2) 0=C):=hC;have l:Hid (S.getD (n+3) 0=D):=hD;have m:Hid (S.getD (n+4) 0=E):=hE;clear hA hB hC hD hE;(have F:(n:Int)+4<25:=by omega);go_wp2;go_quiet(fail);go_wp2;go_roundw;(case rel=>refine⟨k+1,by omega,by have:=d.out;congr 1;omega,?_,?_⟩;(·rw[K2,K2,K2,K2,K2,Zv,Zv,Zv,Zv,Zv];(have e:Gn st (k+1)=((((S.set n (A^^^(C&&&~~~B))).set (n+1) (B^^^(D&&&~~~C))).set (n+2) (C^^^(E&&&~~~D))).set (n+3) (D^^^(A&&&~~~E))).set (n+4) (E^^^(B&&&~~~A)):=by simp only[Gn,WJ,o.out,d.out,g.out,i.out,j.out,l.out,m.out]);rw[e];exact(((((a.drewN nq).set n _).set (n+1) _).set (n+2) _).set (n+3) _).set (n+4) _);·exact Qg (Qg (Qg (Qg (Qg (Qr f nq) n _) (n+1) _) (n+2) _) (n+3) _) (n+4) _);case measure=>simp[intOf];omega);·(obtain rfl:k=5:=by omega);go_wp2;go_end0;exact⟨rfl,a,f⟩
end
def Wk(st:List (BitVec 64))(x:Nat):BitVec 64:=st.getD x 0^^^st.getD (x+5) 0^^^st.getD (x+10) 0^^^st.getD (x+15) 0^^^st.getD (x+20) 0
def VR(st:List (BitVec 64)):Nat->List (BitVec 64)|0=>[0,0,0,0,0]|k+1=>(VR st k).set k (Wk st k)
def gM(c:List (BitVec 64)):List (BitVec 64):=[c.getD 4 0^^^jD (c.getD 1 0) 1,c.getD 0 0^^^jD (c.getD 2 0) 1,c.getD 1 0^^^jD (c.getD 3 0) 1,c.getD 2 0^^^jD (c.getD 4 0) 1,c.getD 3 0^^^jD (c.getD 0 0) 1]
def Ro(d st:List (BitVec 64))(k:Nat):List (BitVec 64):=let y:=d.getD k 0;((((st.set k (st.getD k 0^^^y)).set (k+5) (st.getD (k+5) 0^^^y)).set (k+10) (st.getD (k+10) 0^^^y)).set (k+15) (st.getD (k+15) 0^^^y)).set (k+20) (st.getD (k+20) 0^^^y)
def uT(d st:List (BitVec 64)):Nat->List (BitVec 64)|0=>st|k+1=>Ro d (uT d st k) k
theorem gF(w:tA)(b:Nat)(st:List (BitVec 64))(h:St w b st):Calls tI 105 #[.pointer (T ⟨b,0,V⟩)] w fun e w'=>e=.returned (.tuple #[])∧St w' b (uT (gM (VR st 5)) st 5)∧tB w w' (T b):=by
 have q:b≠w.heap.size:=Nat.ne_of_lt h.lt;have L:=h;go_enter Tryz.func105,Tryz.ntmps105;go_wp2_with fail;go_loopw[6](fun i wr=>∃k:Nat,k<=5∧i=tR .i64 (k:Int)∧St wr b st∧Yc 5 wr w.heap.size (VR st k)∧tB w wr (T b))(fun i _=>5-(intOf i).toNat);case atStart=>exact⟨0,by omega,rfl,h.alloc _,Yc.new w 228 [0,0,0,0,0] rfl,Qt (Qb _ _) _⟩
 case round=>obtain⟨k,N,rfl,a,c,j⟩:=hrel;by_cases g:k<5;(·have A:=a.cell k (by omega);have B:=a.cell (k+5) (by omega);have C:=a.cell (k+10) (by omega);have D:=a.cell (k+15) (by omega);have E:=a.cell (k+20) (by omega);have F:=c.cell k g;have M:=c.frozen k;generalize hx0:st.getD k 0=x0 at*;generalize hx1:st.getD (k+5) 0=x1 at*;generalize hx2:st.getD (k+10) 0=x2 at*;generalize hx3:st.getD (k+15) 0=x3 at*;generalize hx4:st.getD (k+20) 0=x4 at*;(have p:Hid (Wk st k=x0^^^x1^^^x2^^^x3^^^x4):=by show Wk st k=_;simp only[Wk,hx0,hx1,hx2,hx3,hx4]);generalize hcc:VR st k=cc at*;have n:Hid (VR st k=cc):=hcc;generalize hy:cc.getD k 0=y at*;clear hx0 hx1 hx2 hx3 hx4 hcc hy h;(have O:(k:Int)+20<25:=by omega);(have P:(k:Int)<5:=by omega);go_wp2_with fail;go_region;(all_goals go_wp2);go_roundw;(case rel=>rw[Zv,Zv,Zv,Zv];have v:=a.lt;have x:=c.lt;refine⟨k+1,by omega,by go_num,(a.setOther _ q _ _).drew,?_,Ql (Qc j _ (sM _) _ _)⟩;simp only[VR,n.out,p.out];exact(c.set k _).drew);case measure=>simp[intOf];omega);·(obtain rfl:k=5:=by omega);have G:=c.cell 0 (by omega);have H:=c.cell 1 (by omega);have I:=c.cell 2 (by omega);have J:=c.cell 3 (by omega);have K:=c.cell 4 (by omega);generalize hcc:VR st 5=cc at*;have n:Hid (VR st 5=cc):=hcc;generalize hx0:cc.getD 0 0=x0 at*;generalize hx1:cc.getD 1 0=x1 at*;generalize hx2:cc.getD 2 0=x2 at*;generalize hx3:cc.getD 3 0=x3 at*;generalize hx4:cc.getD 4 0=x4 at*;(have t:Hid (gM cc=[x4^^^jD x1 1,x0^^^jD x2 1,x1^^^jD x3 1,x2^^^jD x4 1,x3^^^jD x0 1]):=by show gM cc=_;simp only[gM,hx0,hx1,hx2,hx3,hx4]);clear hcc hx0 hx1 hx2 hx3 hx4 h;have r:=c.lt;go_upto_region 6with fail;go_cut[4](fun Q s=>Q=.pointer (T ⟨wr.heap.size,0,V⟩)∧St s b st∧Yc 5 s wr.heap.size (gM cc)∧tB w s (T b));(case first=>go_region_held3(fun w'=>w'.cell? ⟨w.heap.size,0,V⟩=T (tR .u64 (U x0))∧w'.cell? ⟨w.heap.size,1,V⟩=T (tR .u64 (U x1))∧w'.cell? ⟨w.heap.size,2,V⟩=T (tR .u64 (U x2))∧w'.cell? ⟨w.heap.size,3,V⟩=T (tR .u64 (U x3))∧w'.cell? ⟨w.heap.size,4,V⟩=T (tR .u64 (U x4)))(go_keep)(first|(go_at_call 134;refine(Im _ (1:Int) (by omega) (by omega) _).mono ?_;rintro e w'⟨rfl,rfl⟩));all_goals(go_wp2_with fail;go_meet;case rel=>(rw[t.out,Zv,Zv,Zv,Zv,Zv];exact⟨rfl,(a.alloc _).drew,(Yc.new wr 228 [x4^^^jD x1 1,x0^^^jD x2 1,x1^^^jD x3 1,x2^^^jD x4 1,x3^^^jD x0 1] rfl).drew,Ql (Qt j _)⟩)));case rest=>obtain⟨rfl,f,l,m⟩:=hcut;clear G H I J K a c j;(have d:b≠wr.heap.size:=by have:=L.lt;omega);generalize hD:gM cc=dd at*;have o:Hid (gM cc=dd):=hD;clear hD t;generalize hdn:wr.heap.size=db at*;clear hdn r;go_wp2_with fail;go_loopw[76](fun i wr=>∃k:Nat,k<=5∧i=tR .i64 (k:Int)∧St wr b (uT dd st k)∧Yc 5 wr db dd∧tB w wr (T b))(fun i _=>5-(intOf i).toNat);(case atStart=>exact⟨0,by omega,rfl,f,l,m⟩);case round=>clear f l m;obtain⟨k,N,rfl,a,u,j⟩:=hrel;by_cases g:k<5;(·have A:=a.cell k (by omega);have B:=a.cell (k+5) (by omega);have C:=a.cell (k+10) (by omega);have D:=a.cell (k+15) (by omega);have E:=a.cell (k+20) (by omega);have F:=u.cell k g;have M:=a.frozen;generalize hS:uT dd st k=S at*;have z:Hid (uT dd st k=S):=hS;generalize hy:dd.getD k 0=y at*;generalize hx0:S.getD k 0=x0 at*;generalize hx1:S.getD (k+5) 0=x1 at*;generalize hx2:S.getD (k+10) 0=x2 at*;generalize hx3:S.getD (k+15) 0=x3 at*;generalize hx4:S.getD (k+20) 0=x4 at*;(have p:Hid (Ro dd S k=((((S.set k (x0^^^y)).set (k+5) (x1^^^y)).set (k+10) (x2^^^y)).set (k+15) (x3^^^y)).set (k+20) (x4^^^y)):=by show Ro dd S k=_;simp only[Ro,hy,hx0,hx1,hx2,hx3,hx4]);clear hS hy hx0 hx1 hx2 hx3 hx4;(have O:(k:Int)+20<25:=by omega);(have P:(k:Int)<5:=by omega);go_wp2_with fail;go_region;go_wp2_with fail;go_region;go_wp2_with fail;go_region;go_wp2_with fail;go_region;go_wp2_with fail;go_region;go_wp2_with fail;go_roundw;(case rel=>rw[Zv,Zv,Zv,Zv,Zv];refine⟨k+1,by omega,by go_num,?_,?_,?_⟩;(·simp only[uT,z.out,p.out];exact(((((a.set k _).set (k+5) _).set (k+10) _).set (k+15) _).set (k+20) _).drew.drew.drew.drew.drew);(·exact(((((u.setOther b d.symm k _).setOther b d.symm (k+5) _).setOther b d.symm (k+10) _).setOther b d.symm (k+15) _).setOther b d.symm (k+20) _).drew.drew.drew.drew.drew);·exact Ql (Ql (Ql (Ql (Ql (Qg (Qg (Qg (Qg (Qg j k _) (k+5) _) (k+10) _) (k+15) _) (k+20) _))))));case measure=>simp[intOf];omega);·(obtain rfl:k=5:=by omega);go_wp2;go_end0;refine⟨rfl,?_,j⟩;rw[n.out,o.out];exact a
def JT:List Nat:=[10,7,11,17,18,3,5,16,8,21,24,4,15,23,19,13,12,2,20,14,22,9,6,1]
def Kv:List Nat:=[1,3,6,10,15,21,28,36,45,55,2,14,27,41,56,8,25,43,62,18,39,61,20,44]
def JW:List (BitVec 64):=[0x0000000000000001,0x0000000000008082,0x800000000000808a,0x8000000080008000,0x000000000000808b,0x0000000080000001,0x8000000080008081,0x8000000000008009,0x000000000000008a,0x0000000000000088,0x0000000080008009,0x000000008000000a,0x000000008000808b,0x800000000000008b,0x8000000000008089,0x8000000000008003,0x8000000000008002,0x8000000000000080,0x000000000000800a,0x800000008000000a,0x8000000080008081,0x8000000000008080,0x0000000080000001,0x8000000080008008]
theorem lP(k:Nat)(h:k<24):JT.getD k 0<25:=(by
 decide:∀k:Fin 24,JT.getD k.1 0<25) ⟨k,h⟩
theorem cX(k:Nat)(h:k<24):Kv.getD k 0<64:=(by
 decide:∀k:Fin 24,Kv.getD k.1 0<64) ⟨k,h⟩
structure Yf(w:tA):Prop where nums:∀i,i<24->w.cell? ⟨2,i,V⟩=T (tR .u64 (U (JW.getD i 0)))walk:∀i,i<24->w.cell? ⟨3,i,V⟩=T (tR .i64 ((JT.getD i 0:Nat):Int))turns:∀i,i<24->w.cell? ⟨4,i,V⟩=T (tR .i64 ((Kv.getD i 0:Nat):Int))
theorem Yf.grown{w w':tA}{b:Nat}(h:Yf w)(hg:tB w w' (T b))(hb:5<=b):Yf w':=⟨fun i a=>hg.cell (h.nums i a) (by
 simp;omega),fun i a=>hg.cell (h.walk i a) (by
 simp;omega),fun i a=>hg.cell (h.turns i a) (by
 simp;omega)⟩
def Km(st:List (BitVec 64)):Nat->List (BitVec 64)×BitVec 64|0=>(st,st.getD 1 0)|k+1=>((Km st k).1.set (JT.getD k 0) (jD (Km st k).2 (Kv.getD k 0)),(Km st k).1.getD (JT.getD k 0) 0)
theorem eX(w:tA)(b:Nat)(hb:5<=b)(st:List (BitVec 64))(h:St w b st)(ht:Yf w):Calls tI 106 #[.pointer (T ⟨b,0,V⟩)] w fun e w'=>e=.returned (.tuple #[])∧St w' b (Km st 24).1∧tB w w' (T b):=by
 have q:=h.cell 1 (by omega);go_enter Tryz.func106,Tryz.ntmps106;go_wp2;go_loopw[2,10](fun m i wr=>∃k:Nat,k<=24∧i=tR .i64 (k:Int)∧m=tR .u64 (U (Km st k).2)∧St wr b (Km st k).1∧tB w wr (T b))(fun _ i _=>24-(intOf i).toNat);case atStart=>exact⟨0,by omega,rfl,by simp[Km],h,Qb _ _⟩
 case round=>obtain⟨k,t,rfl,rfl,d,g⟩:=hrel;clear q;by_cases a:k<24;(·have f:=ht.grown g hb;have r:=lP k a;have u:=cX k a;have x:=f.walk k a;have y:=f.turns k a;have c:=d.cell (JT.getD k 0) r;have s:=d.frozen;generalize hS:(Km st k).1=S at*;have j:Hid ((Km st k).1=S):=hS;generalize hM:(Km st k).2=M at*;have n:Hid ((Km st k).2=M):=hM;generalize hW:JT.getD k 0=W at*;have l:Hid (JT.getD k 0=W):=hW;generalize hR:Kv.getD k 0=R at*;have o:Hid (Kv.getD k 0=R):=hR;clear hS hM hW hR;generalize hX:S.getD W 0=X at*;have p:Hid (S.getD W 0=X):=hX;clear hX f ht h;(have v:(W:Int)<25:=by omega);go_wp2_with fail;go_region_with(go_at_call 134;refine(Im M (R:Int) (by omega) (by omega) _).mono ?_;rintro e w'⟨rfl,rfl⟩);(all_goals go_wp2);go_roundw;(case rel=>refine⟨k+1,by omega,by go_num,?_,?_,Ql (Qg g _ _)⟩;(·simp only[Km,j.out,l.out,p.out]);·simp only[Km,j.out,n.out,l.out,o.out];exact(d.set W _).drew);case measure=>simp[intOf];omega);·(obtain rfl:k=24:=by omega);go_wp2;go_end0;exact⟨rfl,d,g⟩
def SU(st:List (BitVec 64))(n:BitVec 64):List (BitVec 64):=let r:=Gn (Km (uT (gM (VR st 5)) st 5) 24).1 5;r.set 0 (r.getD 0 0^^^n)
theorem bQ(w:tA)(b:Nat)(hb:5<=b)(st:List (BitVec 64))(n:BitVec 64)(h:St w b st)(ht:Yf w):Calls tI 82 #[.pointer (T ⟨b,0,V⟩),tR .u64 (U n)] w fun e w'=>e=.returned (.tuple #[])∧St w' b (SU st n)∧tB w w' (T b):=by
 go_enter Tryz.func82,Tryz.ntmps82;go_wp2_with fail;refine(gF _ b st h).mono ?_;rintro e k⟨rfl,c,g1⟩;go_wp2_with fail;refine(eX _ b hb _ c (ht.grown g1 hb)).mono ?_;rintro e l⟨rfl,d,g2⟩;go_wp2_with fail;refine(bZ _ b _ d).mono ?_;rintro e m⟨rfl,a,g3⟩;have g:=Qa g1 (Qa g2 g3);clear g1 g2 g3 c d h ht;have f:Hid (SU st n=(Gn (Km (uT (gM (VR st 5)) st 5) 24).1 5).set 0 ((Gn (Km (uT (gM (VR st 5)) st 5) 24).1 5).getD 0 0^^^n)):=rfl;generalize Gn (Km (uT (gM (VR st 5)) st 5) 24).1 5=S at*;have i:=a.cell 0 (by omega);have j:=a.frozen 0;generalize hx:S.getD 0 0=x at*;clear hx;go_wp2_with fail;go_region;go_wp2_with fail;go_end0;refine⟨rfl,?_,Ql (Qg g 0 _)⟩;rw[f.out,Zv];exact(a.set 0 _).drew
def vF{α:Type}(p:α->Bool):List α->Option Nat|[]=>V|a::l=>if p a=tC then T 0 else(vF p l).map (·+1)
def ZU{α:Type}(p:α->Bool)(l:List α):Int:=match vF p l with|T i=>(i:Int)|none=>-1
theorem RK{α:Type}(p:α->Bool)(d:α):∀(l:List α)(m:Nat),m<l.length->(l.take m).any p=tH->p (l.getD m d)=tC->vF p l=T m|[],_,h,_,_=>by simp at h|a::l,0,_,_,h=>by have b:p a=tC:=h;rw[vF,if_pos b]|a::l,m+1,h0,h1,h2=>by rw[sU,List.any_cons,Bool.or_eq_false_iff]at h1;rw[vF,if_neg (by rw[h1.1];decide),RK p d l m (by simpa using h0) h1.2 (by simpa using h2)];rfl
theorem Tv{α:Type}(p:α->Bool):∀(l:List α),l.any p=tH->vF p l=V|[],_=>rfl|a::l,h=>by rw[List.any_cons,Bool.or_eq_false_iff]at h;rw[vF,if_neg (by rw[h.1];decide),Tv p l h.2];rfl
theorem xJ{α:Type}(p:α->Bool)(d:α)(l:List α)(m:Nat)(h:m<l.length)(h1:(l.take m).any p=tH)(h2:p (l.getD m d)=tC):ZU p l=(m:Int):=by
 rw[ZU,RK p d l m h h1 h2]
theorem Ul{α:Type}(p:α->Bool)(l:List α)(h:l.any p=tH):ZU p l=-1:=by
 rw[ZU,Tv p l h]
theorem Vz{α:Type}(p:α->Bool)(d:α):∀(l:List α),l.any p=tC->∃m,m<l.length∧(l.take m).any p=tH∧p (l.getD m d)=tC∧ZU p l=(m:Int)|[],h=>by simp at h|a::l,h=>by by_cases b:p a=tC;(·exact⟨0,by simp,by simp,b,xJ p d (a::l) 0 (by simp) (by simp) b⟩);·(have g:p a=tH:=by simpa using b);rw[List.any_cons,g,Bool.false_or]at h;obtain⟨m,k,i,j,_⟩:=Vz p d l h;(have c:m+1<(a::l).length:=by simp;omega);(have e:((a::l).take (m+1)).any p=tH:=by rw[sU,List.any_cons,g,i];rfl);(have f:p ((a::l).getD (m+1) d)=tC:=by simpa using j);exact⟨m+1,c,e,f,xJ p d _ _ c e f⟩
theorem vT{α:Type}(p:α->Bool)(l:List α):(ZU p l==-1)=!(l.any p):=by
 cases h:l.any p with|false=>rw[Ul p l h];rfl|true=>cases l with|nil=>simp at h|cons a l=>obtain⟨m,_,_,_,e⟩:=Vz p a (a::l) h;rw[e];(have:((m:Int)==-1)=tH:=by simp);rw[this];rfl
theorem Em{α:Type}(p:α->Bool)(l:List α):tP (0<=ZU p l)=l.any p:=by
 cases h:l.any p with|false=>rw[Ul p l h];rfl|true=>cases l with|nil=>simp at h|cons a l=>obtain⟨m,_,_,_,e⟩:=Vz p a (a::l) h;rw[e];simp
theorem Ju(w:tA)(v1 v2:tE)(b1 b2:List UInt8)(h1:Qe w v1 b1)(h2:Qe w v2 b2):Calls tI 25 #[v1,v2] w fun e w'=>e=.returned (.bool (tP (b1=b2)))∧w'=w:=by
 have a:=xB w v1 b1 h1;have b:=xB w v2 b2 h2;go_enter Tryz.func25,Tryz.ntmps25;go_wp2;go_ret;refine⟨?_,rfl⟩;have e:((vL b1).toList==(vL b2).toList)=tP (b1=b2):=by rw[Tk,Tk];by_cases h:b1=b2<;>simp[h]
 rw[<-e];rfl
theorem Fl(p:Q6):QM [] [p]=QA p:=by
 have b:Q7 []=0:=(Z6 []).2 Kg;rw[QM,if_pos b,if_neg (by simp),ZA];by_cases h:QA p=0;·have a:=yT Kg h Ow (by omega);have c:(QZ [] p).length<=1:=To [] p;rw[if_neg (by omega)]at a;rw[if_pos h,if_pos a,ZA,h]
 ·rw[if_neg h]
def Rv:Prop:=∀(w:tA)(a:Option Addr)(n cap:Nat),Calls tI 30 #[tN a n cap] w fun e w'=>e=.returned (tR .i64 (Qn n))∧tB w w' V
theorem YD:Rv:=by
 intro w a n cap;by_cases c:1<=n;·by_cases d:n<=16;(·rw[Qn,if_pos ⟨c,d⟩];(have b:¬(n:Int)<1:=by omega);(have e:¬(n:Int)>16:=by omega);go_enter Tryz.func30,Tryz.ntmps30;go_wp2;go_ret;exact⟨rfl,Qb _ _⟩);·rw[Qn,if_neg (by omega)];(have b:¬(n:Int)<1:=by omega);(have e:(n:Int)>16:=by omega);go_enter Tryz.func30,Tryz.ntmps30;go_wp2;go_ret;exact⟨rfl,Qb _ _⟩
 ·rw[Qn,if_neg (by omega)];(have b:(n:Int)<1:=by omega);go_enter Tryz.func30,Tryz.ntmps30;go_wp2;go_ret;exact⟨rfl,Qb _ _⟩
def Zy(l:PL)(k:List UInt8):Nat:=(l.takeWhile fun p=>YP p.1 k).length
def qV(l:PL)(k:List UInt8):Bool:=tP (Zy l k<l.length∧(l.getD (Zy l k) ([],[])).1=k)
def X0(l:PL)(k:List UInt8):Nat:=if qV l k=tC then Zy l k+1 else Zy l k
theorem jV(l:PL)(k:List UInt8):Zy l k<=l.length:=by
 induction l with|nil=>simp[Zy]|cons p r ih=>unfold Zy at ih⊢;rw[List.takeWhile_cons];cases h:YP p.1 k with|true=>simpa using ih|false=>simp
theorem dV:∀(l:PL)(k:List UInt8)(i:Nat),i<=l.length->(∀j,j<i->YP (l.getD j ([],[])).1 k=tC)->(i<l.length->YP (l.getD i ([],[])).1 k=tH)->Zy l k=i|[],k,i,h,_,_=>by(obtain rfl:i=0:=by simpa using h);rfl|p::r,k,0,_,_,h2=>by have:=h2 (by simp);simp only[sJ]at this;simp[Zy,this]|p::r,k,i+1,h,h1,h2=>by have a:=h1 0 (by omega);simp only[sJ]at a;have:=dV r k i (by simpa using h) (fun j c=>by simpa using h1 (j+1) (by omega)) (fun b=>by simpa using h2 (by simpa using b));unfold Zy at this⊢;rw[tT (p:=fun p:Pr=>YP p.1 k) a];simpa using this
theorem Dv:∀(l:PL)(k:List UInt8)(j:Nat),j<Zy l k->YP (l.getD j ([],[])).1 k=tC|[],k,j,h=>by simp[Zy]at h|p::r,k,j,h=>by cases hk:YP p.1 k with|false=>simp[Zy,hk]at h|true=>cases j with|zero=>simpa using hk|succ j=>unfold Zy at h;rw[tT (p:=fun p:Pr=>YP p.1 k) hk]at h;have:=Dv r k j (by unfold Zy;simpa using h);simpa using this
theorem D4:∀(l:PL)(k:List UInt8),Zy l k<l.length->YP (l.getD (Zy l k) ([],[])).1 k=tH|[],k,h=>by simp at h|p::r,k,h=>by cases hk:YP p.1 k with|false=>simp[Zy,hk]|true=>(have e:Zy (p::r) k=Zy r k+1:=by unfold Zy;rw[tT (p:=fun p:Pr=>YP p.1 k) hk];simp);rw[e]at h⊢;have:=D4 r k (by simpa using h);simpa using this
theorem Fg(l:PL)(k:List UInt8)(hr:KZ l)(j:Nat)(hj:j<l.length):YP (l.getD j ([],[])).1 k=tP (j<Zy l k):=by
 by_cases h:j<Zy l k;·rw[decide_eq_true h];exact Dv l k j h
 ·rw[decide_eq_false h];have a:=D4 l k (by omega);by_cases e:j=Zy l k;(·rw[e];exact a);·cases hk:YP (l.getD j ([],[])).1 k with|false=>rfl|true=>have:=KD _ _ _ (Uh l hr (Zy l k) j (by omega) hj) hk;rw[this]at a;cases a
theorem Fd{l:PL}{k:List UInt8}(h:qV l k=tC):Zy l k<l.length∧(l.getD (Zy l k) ([],[])).1=k:=by
 simpa only[qV,decide_eq_true_eq]using h
theorem kO(l:PL)(k:List UInt8):Zy l k<=X0 l k∧X0 l k<=l.length∧X0 l k<=Zy l k+1:=by
 have:=jV l k;unfold X0;by_cases h:qV l k=tC;·rw[if_pos h];have:=(Fd h).1;omega
 ·rw[if_neg h];omega
theorem Rx(l:PL)(k:List UInt8)(hr:KZ l)(j:Nat)(hj:j<l.length)(he:(l.getD j ([],[])).1=k):qV l k=tC∧j=Zy l k:=by
 have a:Zy l k=j:=by refine dV l k j (by omega) (fun i b=>?_) (fun _=>?_);(·rw[<-he];exact Uh l hr i j b hj);·rw[he];exact XX k
 refine⟨?_,a.symm⟩;rw[qV,a];exact decide_eq_true ⟨hj,he⟩
theorem iG(l:PL)(k:List UInt8)(hr:KZ l):Yx l k=if qV l k=tC then T (l.getD (Zy l k) ([],[])).2 else V:=by
 by_cases h:qV l k=tC;·rw[if_pos h];obtain⟨b,c⟩:=Fd h;refine Lu l k _ b (fun j a e=>?_) c;have:=Dv l k j a;rw[e,XX]at this;cases this
 ·rw[if_neg h];exact Ep l k fun j a e=>h (Rx l k hr j a e).1
theorem By(l:PL)(p:Pr):J5 l p=l.take (Zy l p.1)++([p]++l.drop (X0 l p.1)):=by
 rw[Ij l p (Zy l p.1) (jV l p.1) (fun j a=>Dv l p.1 j a) (D4 l p.1)];by_cases h:Zy l p.1<l.length∧(l.getD (Zy l p.1) ([],[])).1=p.1;·rw[if_pos h,X0,if_pos (by rw[qV];exact decide_eq_true h),List.set_eq_take_append_cons_drop,if_pos h.1];rfl
 ·rw[if_neg h,X0,if_neg (by rw[qV];simpa using h)]
theorem cN(l:PL)(p:Pr):(J5 l p).length=Zy l p.1+1+(l.length-X0 l p.1):=by
 rw[By];have a:=jV l p.1;simp;omega
theorem bU(l:PL)(p:Pr)(hl:l.length<=60):(60<(J5 l p).length)↔(Zy l p.1=X0 l p.1∧l.length=60):=by
 rw[cN];have:=kO l p.1;omega
theorem Ak(l:PL)(f:Pr->Bool)(n:Nat)(hn:n<=l.length)(h1:∀j,j<n->f (l.getD j ([],[]))=tH)(h2:∀j,n<=j->j<l.length->f (l.getD j ([],[]))=tC):l.filter f=l.drop n:=by
 have e:l=l.take n++l.drop n:=(tL n l).symm;have d:(l.take n).filter f=[]:=by rw[sZ];intro q c;obtain⟨j,b,rfl⟩:=tD.1 c;(have a:j<n:=by simp at b;omega);have:=h1 j a;rw[sR];rw[show l[j]'(by omega)=l.getD j ([],[])by simp[show j<l.length by omega],this];simp
 have g:(l.drop n).filter f=l.drop n:=by rw[tU];intro q c;obtain⟨j,b,rfl⟩:=tD.1 c;(have a:n+j<l.length:=by simp at b;omega);rw[List.getElem_drop,show l[n+j]=l.getD (n+j) ([],[])by simp[a]];exact h2 _ (by omega) a
 conv=>lhs;rw[e]
 rw[sY,d,g,List.nil_append]
theorem Av(l:PL)(f:Pr->Bool)(n:Nat)(hn:n<=l.length)(h1:∀j,j<n->f (l.getD j ([],[]))=tC)(h2:∀j,n<=j->j<l.length->f (l.getD j ([],[]))=tH):l.filter f=l.take n:=by
 have e:l=l.take n++l.drop n:=(tL n l).symm;have g:(l.drop n).filter f=[]:=by rw[sZ];intro q c;obtain⟨j,b,rfl⟩:=tD.1 c;(have a:n+j<l.length:=by simp at b;omega);rw[List.getElem_drop,show l[n+j]=l.getD (n+j) ([],[])by simp[a],h2 _ (by omega) a];simp
 have d:(l.take n).filter f=l.take n:=by rw[tU];intro q c;obtain⟨j,b,rfl⟩:=tD.1 c;(have a:j<n:=by simp at b;omega);rw[sR,show l[j]'(by omega)=l.getD j ([],[])by simp[show j<l.length by omega]];exact h1 j a
 conv=>lhs;rw[e]
 rw[sY,d,g,sH]
theorem dZ(l:PL)(k:List UInt8)(hr:KZ l):yN l k=l.take (Zy l k)++l.drop (X0 l k):=by
 by_cases h:qV l k=tC;·obtain⟨f,g⟩:=Fd h;(have e:l=l.take (Zy l k)++(l.getD (Zy l k) ([],[])::l.drop (Zy l k+1)):=by(conv=>lhs;rw[<-tL (Zy l k) l,sQ f]);simp[f]);have c:∀j,j<l.length->j≠Zy l k->(l.getD j ([],[])).1≠k:=fun j a n e=>n (Rx l k hr j a e).2;(have i:(l.take (Zy l k)).filter (fun q=>!(q.1==k))=l.take (Zy l k):=by rw[tU];intro q d;obtain⟨j,a,rfl⟩:=tD.1 d;(have b:j<Zy l k:=by simp at a;omega);rw[sR,show l[j]'(by omega)=l.getD j ([],[])by simp[show j<l.length by omega]];simpa using c j (by omega) (by omega));(have m:(l.drop (Zy l k+1)).filter (fun q=>!(q.1==k))=l.drop (Zy l k+1):=by rw[tU];intro q d;obtain⟨j,a,rfl⟩:=tD.1 d;(have b:Zy l k+1+j<l.length:=by simp at a;omega);rw[List.getElem_drop,show l[Zy l k+1+j]=l.getD (Zy l k+1+j) ([],[])by simp[b]];simpa using c _ b (by omega));rw[X0,if_pos h,yN];(conv=>lhs;rw[e]);rw[sY,List.filter_cons_of_neg (by simpa using g),i,m]
 ·rw[X0,if_neg h,tL,yN,tU];intro q d;obtain⟨j,a,rfl⟩:=tD.1 d;have:=fun e=>h (Rx l k hr j a e).1;rw[show l.getD j ([],[])=l[j]by simp[a]]at this;simpa using this
theorem TJ(l:PL)(k:List UInt8)(hr:KZ l)(j:Nat)(hj:j<l.length):YP k (l.getD j ([],[])).1=tP (X0 l k<=j):=by
 have a:=Fg l k hr j hj;have g:=kO l k;by_cases c:j<Zy l k;·rw[decide_eq_true c]at a;rw[IM _ _ a,decide_eq_false (by omega)]
 ·rw[decide_eq_false c]at a;by_cases e:(l.getD j ([],[])).1=k;(·obtain⟨d,f⟩:=Rx l k hr j hj e;rw[e,XX,X0,if_pos d,decide_eq_false (by omega)]);·rw[U8 _ _ a e];by_cases h:qV l k=tC;(·rw[X0,if_pos h,decide_eq_true (by by_cases b:j=Zy l k;(·exact absurd (by rw[b];exact(Fd h).2) e);·omega)]);·rw[X0,if_neg h,decide_eq_true (by omega)]
theorem SZ(l:PL)(f t:List UInt8)(hr:KZ l):VQ l f t=(l.take (max (Zy l f) (X0 l t))).drop (Zy l f):=by
 have k:=jV l f;have d:=kO l t;have e:VQ l f t=(l.filter fun q=>!YP t q.1).filter fun q=>!YP q.1 f:=by rw[VQ,List.filter_filter]
 rw[e,Av l _ (X0 l t) d.2.1 (fun j a=>by rw[TJ l t hr j (by omega),decide_eq_false (by omega)];rfl) (fun j a b=>by rw[TJ l t hr j b,decide_eq_true a];rfl)];have h:∀(n:Nat),n<=l.length->(l.take n).filter (fun q=>!YP q.1 f)=(l.take n).drop (Zy l f):=by intro n m;by_cases g:Zy l f<=n;(·refine Ak _ _ _ (by simp;omega) (fun j a=>?_) (fun j a b=>?_);(·(have:(l.take n).getD j ([],[])=l.getD j ([],[]):=by simp[show j<n by omega]);rw[this,Fg l f hr j (by omega),decide_eq_true a];rfl);·(have c:j<n:=by simp at b;omega);(have:(l.take n).getD j ([],[])=l.getD j ([],[]):=by simp[c]);rw[this,Fg l f hr j (by omega),decide_eq_false (by omega)];rfl);·rw[sI (by simp;omega),sZ];intro q i;obtain⟨j,a,rfl⟩:=tD.1 i;(have c:j<n:=by simp at a;omega);rw[sR,show l[j]'(by omega)=l.getD j ([],[])by simp[show j<l.length by omega],Fg l f hr j (by omega),decide_eq_true (by omega)];simp
 rw[h _ d.2.1];by_cases g:Zy l f<=X0 l t;·rw[Nat.max_eq_right g]
 ·rw[Nat.max_eq_left (by omega),sI (by simp;omega),sI (by simp;omega)]
theorem Dg:∀(t:FL)(p:Tn)(k:Nat),k<=t.length->(∀j,j<k->YP (t.getD j ([],[])).1 p.1=tC)->(k<t.length->YP (t.getD k ([],[])).1 p.1=tH)->YU t p=if k<t.length∧(t.getD k ([],[])).1=p.1then t.set k p else t.take k++([p]++t.drop k)|[],p,k,a,_,_=>by(obtain rfl:k=0:=by simpa using a);simp[YU]|q::r,p,0,_,_,h2=>by have h:=h2 (by simp);simp only[sJ]at h;rw[YU,if_neg (by rw[h];simp)];by_cases e:q.1=p.1;(·rw[if_pos e,if_pos ⟨by simp,by simpa using e⟩];simp);·rw[if_neg e,if_neg (fun h=>e (by simpa using h.2))];simp|q::r,p,k+1,a,h1,h2=>by have h:=h1 0 (by omega);simp only[sJ]at h;rw[YU,if_pos h,Dg r p k (by simpa using a) (fun j b=>by simpa using h1 (j+1) (by omega)) (fun a=>by simpa using h2 (by simpa using a))];by_cases e:k<r.length∧(r.getD k ([],[])).1=p.1;(·rw[if_pos e,if_pos ⟨by simpa using e.1,by simpa using e.2⟩];simp);·rw[if_neg e,if_neg (fun h=>e ⟨by simpa using h.1,by simpa using h.2⟩)];simp
def QD(l:FL)(k:List UInt8):Nat:=(l.takeWhile fun p=>YP p.1 k).length
def Ku(l:FL)(k:List UInt8):Bool:=tP (QD l k<l.length∧(l.getD (QD l k) ([],[])).1=k)
def QN(l:FL)(k:List UInt8):Nat:=if Ku l k=tC then QD l k+1 else QD l k
theorem PG(l:FL)(k:List UInt8):QD l k<=l.length:=by
 induction l with|nil=>simp[QD]|cons p r ih=>unfold QD at ih⊢;rw[List.takeWhile_cons];cases h:YP p.1 k with|true=>simpa using ih|false=>simp
theorem CX:∀(l:FL)(k:List UInt8)(i:Nat),i<=l.length->(∀j,j<i->YP (l.getD j ([],[])).1 k=tC)->(i<l.length->YP (l.getD i ([],[])).1 k=tH)->QD l k=i|[],k,i,h,_,_=>by(obtain rfl:i=0:=by simpa using h);rfl|p::r,k,0,_,_,h2=>by have:=h2 (by simp);simp only[sJ]at this;simp[QD,this]|p::r,k,i+1,h,h1,h2=>by have a:=h1 0 (by omega);simp only[sJ]at a;have:=CX r k i (by simpa using h) (fun j c=>by simpa using h1 (j+1) (by omega)) (fun b=>by simpa using h2 (by simpa using b));unfold QD at this⊢;rw[tT (p:=fun p:Tn=>YP p.1 k) a];simpa using this
theorem Py:∀(l:FL)(k:List UInt8)(j:Nat),j<QD l k->YP (l.getD j ([],[])).1 k=tC|[],k,j,h=>by simp[QD]at h|p::r,k,j,h=>by cases hk:YP p.1 k with|false=>simp[QD,hk]at h|true=>cases j with|zero=>simpa using hk|succ j=>unfold QD at h;rw[tT (p:=fun p:Tn=>YP p.1 k) hk]at h;have:=Py r k j (by unfold QD;simpa using h);simpa using this
theorem F1:∀(l:FL)(k:List UInt8),QD l k<l.length->YP (l.getD (QD l k) ([],[])).1 k=tH|[],k,h=>by simp at h|p::r,k,h=>by cases hk:YP p.1 k with|false=>simp[QD,hk]|true=>(have e:QD (p::r) k=QD r k+1:=by unfold QD;rw[tT (p:=fun p:Tn=>YP p.1 k) hk];simp);rw[e]at h⊢;have:=F1 r k (by simpa using h);simpa using this
theorem Oq(l:FL)(k:List UInt8)(hr:XT l)(j:Nat)(hj:j<l.length):YP (l.getD j ([],[])).1 k=tP (j<QD l k):=by
 by_cases h:j<QD l k;·rw[decide_eq_true h];exact Py l k j h
 ·rw[decide_eq_false h];have a:=F1 l k (by omega);by_cases e:j=QD l k;(·rw[e];exact a);·cases hk:YP (l.getD j ([],[])).1 k with|false=>rfl|true=>have:=KD _ _ _ (Gb l hr (QD l k) j (by omega) hj) hk;rw[this]at a;cases a
theorem kT{l:FL}{k:List UInt8}(h:Ku l k=tC):QD l k<l.length∧(l.getD (QD l k) ([],[])).1=k:=by
 simpa only[Ku,decide_eq_true_eq]using h
theorem FP(l:FL)(k:List UInt8):QD l k<=QN l k∧QN l k<=l.length∧QN l k<=QD l k+1:=by
 have:=PG l k;unfold QN;by_cases h:Ku l k=tC;·rw[if_pos h];have:=(kT h).1;omega
 ·rw[if_neg h];omega
theorem Td(l:FL)(k:List UInt8)(hr:XT l)(j:Nat)(hj:j<l.length)(he:(l.getD j ([],[])).1=k):Ku l k=tC∧j=QD l k:=by
 have a:QD l k=j:=by refine CX l k j (by omega) (fun i b=>?_) (fun _=>?_);(·rw[<-he];exact Gb l hr i j b hj);·rw[he];exact XX k
 refine⟨?_,a.symm⟩;rw[Ku,a];exact decide_eq_true ⟨hj,he⟩
theorem Ot(l:FL)(k:List UInt8)(hr:XT l):Ua l k=if Ku l k=tC then T (l.getD (QD l k) ([],[])).2 else V:=by
 by_cases h:Ku l k=tC;·rw[if_pos h];obtain⟨b,c⟩:=kT h;refine Nm l k _ b (fun j a e=>?_) c;have:=Py l k j a;rw[e,XX]at this;cases this
 ·rw[if_neg h];exact EI l k fun j a e=>h (Td l k hr j a e).1
theorem Nl(l:FL)(p:Tn):YU l p=l.take (QD l p.1)++([p]++l.drop (QN l p.1)):=by
 rw[Dg l p (QD l p.1) (PG l p.1) (fun j a=>Py l p.1 j a) (F1 l p.1)];by_cases h:QD l p.1<l.length∧(l.getD (QD l p.1) ([],[])).1=p.1;·rw[if_pos h,QN,if_pos (by rw[Ku];exact decide_eq_true h),List.set_eq_take_append_cons_drop,if_pos h.1];rfl
 ·rw[if_neg h,QN,if_neg (by rw[Ku];simpa using h)]
theorem Hy(l:FL)(p:Tn):(YU l p).length=QD l p.1+1+(l.length-QN l p.1):=by
 rw[Nl];have a:=PG l p.1;simp;omega
theorem Et(l:FL)(p:Tn)(hl:l.length<=8):(8<(YU l p).length)↔(QD l p.1=QN l p.1∧l.length=8):=by
 rw[Hy];have:=FP l p.1;omega
theorem Lj(l:FL)(k:List UInt8)(hr:XT l):qL l k=l.take (QD l k)++l.drop (QN l k):=by
 by_cases h:Ku l k=tC;·obtain⟨f,g⟩:=kT h;(have e:l=l.take (QD l k)++(l.getD (QD l k) ([],[])::l.drop (QD l k+1)):=by(conv=>lhs;rw[<-tL (QD l k) l,sQ f]);simp[f]);have c:∀j,j<l.length->j≠QD l k->(l.getD j ([],[])).1≠k:=fun j a n e=>n (Td l k hr j a e).2;(have i:(l.take (QD l k)).filter (fun q=>!(q.1==k))=l.take (QD l k):=by rw[tU];intro q d;obtain⟨j,a,rfl⟩:=tD.1 d;(have b:j<QD l k:=by simp at a;omega);rw[sR,show l[j]'(by omega)=l.getD j ([],[])by simp[show j<l.length by omega]];simpa using c j (by omega) (by omega));(have m:(l.drop (QD l k+1)).filter (fun q=>!(q.1==k))=l.drop (QD l k+1):=by rw[tU];intro q d;obtain⟨j,a,rfl⟩:=tD.1 d;(have b:QD l k+1+j<l.length:=by simp at a;omega);rw[List.getElem_drop,show l[QD l k+1+j]=l.getD (QD l k+1+j) ([],[])by simp[b]];simpa using c _ b (by omega));rw[QN,if_pos h,qL];(conv=>lhs;rw[e]);rw[sY,List.filter_cons_of_neg (by simpa using g),i,m]
 ·rw[QN,if_neg h,tL,qL,tU];intro q d;obtain⟨j,a,rfl⟩:=tD.1 d;have:=fun e=>h (Td l k hr j a e).1;rw[show l.getD j ([],[])=l[j]by simp[a]]at this;simpa using this
theorem oG(l:FL)(k:List UInt8)(hr:XT l):Xw l k=if Ku l k=tC then(l.getD (QD l k) ([],[])).2 else[]:=by
 unfold Xw;rw[Ot l k hr];by_cases h:Ku l k=tC;·rw[if_pos h,if_pos h];rfl
 ·rw[if_neg h,if_neg h];rfl
theorem Bk(l:FL)(k:List UInt8)(hr:XT l):((l.take (QN l k)).drop (QD l k)=[]∧Xw l k=[]∧QN l k=QD l k)∨(∃t,(l.take (QN l k)).drop (QD l k)=[t]∧Xw l k=t.2∧QN l k=QD l k+1):=by
 rw[oG l k hr];by_cases h:Ku l k=tC;·right;obtain⟨a,b⟩:=kT h;refine⟨l.getD (QD l k) ([],[]),?_,by rw[if_pos h],by rw[QN,if_pos h]⟩;rw[QN,if_pos h,List.take_succ_eq_append_getElem a,List.drop_append_of_le_length (by simp;omega),sI (by simp;omega),List.nil_append];simp[a]
 ·left;refine⟨?_,by rw[if_neg h],by rw[QN,if_neg h]⟩;rw[QN,if_neg h,sI (by simp;omega)]
def iV:Prop:=∀(w:tA)(a:Option Addr)(n cap:Nat),Calls tI 14 #[tN a n cap] w fun e w'=>e=.returned (tR .i64 (Qs n))∧tB w w' V
def Ir:Prop:=∀(w:tA)(v:tE)(r:Rq),UA w->JY w v r->kG r->Calls tI 17 #[v] w fun e w'=>e=.returned (tR .i64 (Yp r))∧tB w w' V
end Go.Proofs.YtcieibjgedmdlaaGreatDoor
