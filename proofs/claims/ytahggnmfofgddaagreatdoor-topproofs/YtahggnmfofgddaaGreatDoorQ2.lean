/-
  Texts of this proof, joined, with few blanks: AcM0, PairM0, PairB, WrMem, CmtMem, TapeA, TapeB, TapeK, HistF, HistC, TxnF, TxnG, SrvF, SrvI, SrvO, TopF, TenMem, CmtSet, RdMem, StepMem, SvK, SvG, CmtTy, CmtRow, CmtRowD, TxNote, TxM, TxnL, TxCheck, TCCheck, PairStepQ, PairSlice, FCCheck, FCApply, TxMs, RqRd, WrCkF, TxLook, FCGet, FindM, SrvS, SrvM, SrvN, TxClash, TpEnc, TpCheck, BSlice, CmtFit, TxScan, TCRange, FCRange, BitC, PartC, TxWrite, RqWt, HsKept, RqDe, TapeH, WrDtF, AcMem, PCCheck, RdrF, RdrMem, FrameB, GearM, TpSync, TpCrash, TapTy, LnCk, LineH, WrEnF.
-/
import Derived.Deep.AppendLies
import Derived.Test.YtahggnmfofgddaaGreatDoorQ1
import Derived.Laws.AppendOwnNone
import Derived.Maps.AppendAt
import Derived.Deep.RegionWith
import Derived.Handy
import Derived.ProofKit
import Derived.OpenShut
import Derived.ShutString
import Derived.ChangeOld
import Derived.Deep.DeepHandedRow
import Derived.SizedLaws
import Derived.Test.YtahggnmfofgddaaGreatDoorRows
set_option maxRecDepth 100000
set_option maxHeartbeats 8000000
open Array renaming getElem?_eq_some_iff->tI,getElem?_modify->tV,getElem?_toList->pD
open Bool renaming true->N,false->O,and_eq_true->rS,or_eq_false_iff->rU
open Classical renaming byContradiction->sS
open Decidable renaming decide->tR
open Go renaming World->F,Value->H,TypeId->tW,undef->sJ,sliced->sR,Calls->sV,Addr->rC,Operand->rH,Oper->rJ,info_parts->r8,yielded->pF,maxLen->pK,heap_alloc_new->oT
open Go.Addr.mk renaming injEq->rP
open Go.Ending renaming returned->tE
open Go.Instr renaming slice->rX
open Go.IntKind renaming i64->tA,u8->pE
open Go.Obj renaming cells->S
open Go.Obj.cells renaming injEq->tX
open Go.Proofs.Tryz renaming prog->M
open Go.Region renaming wanted->sD
open Go.Result renaming andThen->rO
open Go.Value renaming slice->J,int->Y,bool->tL,tuple->sE,agg->sQ,ownBlock->pL
open Go.Value.slice renaming injEq->tG
open Go.World renaming grownBy->L,setCell->tD,cell?->tS,cell?_of_block->sK,ownsRow_nil->sL,grownBy_alloc->sM,news_of_block->rA,cell?_setCell_other->r7,frozen?->pA,cell?_setCell_same'->pM
open Go.World.ownsRow renaming kept->tU,lt->sH
open Int renaming toNat_natCast->rD,emod_lt_of_pos->pT,emod_nonneg->oQ
open List renaming length_append->tC,eq_nil_of_length_eq_zero->tJ,mem_cons->tK,not_mem_nil->tM,flatMap_cons->tP,mem_append->tY,length_singleton->tZ,getElem?_take->sB,take_length->sC,getElem?_eq_some_iff->sI,getElem_mem->sP,drop_eq_getElem_cons->sW,mem_cons_of_mem->sY,take_succ_eq_append_getElem->sZ,length_cons->rB,any_eq_true->rF,flatMap_nil->rG,take_succ_cons->rI,append_nil->rK,mem_cons_self->rM,pairwise_cons->rN,length_set->rV,length_pos_iff->rW,length_take->pB,any_cons->pH,take_set->pI,getElem?_append_left->pN,take_append_drop->pO,getElem?_append->pP,drop_succ_cons->pQ,set_cons_succ->pR,nodup_append->pS,cons_append->pU,length_drop->pV,length_nil->pY,nil_append->pZ,nodup_cons->oM,mem_filter->oN,take_take->oO,drop_zero->oR
open Nat renaming lt_of_lt_of_le->tH,le_trans->tN,zero_le->tQ,le_refl->sA,zero_add->sN,succ_mul->pC,mul_le_mul_right->pG,sub_zero->pJ,le_of_lt_succ->pW,min_eq_left->oP,sub_self->oS
open Option renaming none->G,some->I,map_some->rT
open Option.some renaming injEq->tB,inj->oU
open Prod.mk renaming injEq->rY
open UInt8 renaming ofNat->sU,toNat_inj->pX
namespace Go.Proofs.YtahggnmfofgddaaGreatDoor
open Go.RowKit
def WZ(w:F)(v:H)(a:Ac):Prop:=∃vd,v=sQ #[Y tA a.kind,Y tA a.sess,Y tA a.keep,vd]∧Qe w vd a.data
theorem WZ.grown{w w':F}{v:H}{a:Ac}(h:WZ w v a)(hg:L w w' G):WZ w' v a:=by
 obtain⟨vd,rfl,h1⟩:=h;exact⟨vd,rfl,h1.grown hg⟩
theorem WZ.agg{w:F}{v:H}{a:Ac}(h:WZ w v a):∃da dc,v=sQ #[Y tA a.kind,Y tA a.sess,Y tA a.keep,J da a.data.length dc]∧Qe w (J da a.data.length dc) a.data:=by
 obtain⟨vd,rfl,h1⟩:=h;obtain⟨da,dc,rfl⟩:=h1.shape;exact⟨da,dc,rfl,h1⟩
def By(w:F)(b o:Nat)(a:Ac):Prop:=∃vd,w.cell? ⟨b,o,G⟩=I (Y tA a.kind)∧w.cell? ⟨b,o+1,G⟩=I (Y tA a.sess)∧w.cell? ⟨b,o+2,G⟩=I (Y tA a.keep)∧w.cell? ⟨b,o+3,G⟩=I vd∧Qe w vd a.data
theorem By.grown{w w':F}{b o:Nat}{a:Ac}(h:By w b o a)(hg:L w w' G):By w' b o a:=by
 obtain⟨vd,c1,c2,c3,c4,h1⟩:=h;exact⟨vd,hg.cell c1 (by simp),hg.cell c2 (by simp),hg.cell c3 (by simp),hg.cell c4 (by simp),h1.grown hg⟩
def Yf(w:F)(v:H)(l:List Ac):Prop:=∃a cap,v=J a l.length cap∧l.length<=cap∧((l=[]∧(a=G->cap=0))∨∃b o,a=I ⟨b,o,G⟩∧∀i,i<l.length->By w b (o+i*4) (l.getD i Yz))
theorem Ew(w:F):Yf w (J G 0 0) []:=⟨G,0,rfl,sA _,.inl ⟨rfl,fun _=>rfl⟩⟩
theorem Yf.shape{w:F}{v:H}{l:List Ac}(h:Yf w v l):∃a cap,v=J a l.length cap:=by
 obtain⟨a,cap,rfl,_⟩:=h;exact⟨a,cap,rfl⟩
theorem Yf.grown{w w':F}{v:H}{l:List Ac}(h:Yf w v l)(hg:L w w' G):Yf w' v l:=by
 obtain⟨a,cap,rfl,hc,h⟩:=h;refine⟨a,cap,rfl,hc,?_⟩;rcases h with h|⟨b,o,rfl,h⟩;·exact .inl h
 ·exact .inr ⟨b,o,rfl,fun i hi=>(h i hi).grown hg⟩
theorem Yf.at{w:F}{a:Option rC}{n cap:Nat}{l:List Ac}(h:Yf w (J a n cap) l)(i:Nat)(hi:i<l.length):∃b o,a=I ⟨b,o,G⟩∧By w b (o+i*4) (l.getD i Yz):=by
 obtain⟨a',cap',e,hc,h⟩:=h;simp only[tG]at e;obtain⟨rfl,rfl,rfl⟩:=e;rcases h with⟨rfl,_⟩|⟨b,o,rfl,h⟩;·simp at hi
 ·exact⟨b,o,rfl,h i hi⟩
structure SP(a:Ac):Prop where kind:-9223372036854775808<=a.kind∧a.kind<=9223372036854775807sess:-9223372036854775808<=a.sess∧a.sess<=9223372036854775807keep:-9223372036854775808<=a.keep∧a.keep<=9223372036854775807data:a.data.length<=140737488355328
structure Eh (l : List Ac) : Prop where
  many : l.length * 48 <= 140737488355328
  each : ∀ i, i < l.length -> SP (l.getD i Yz)
theorem Hp{a:Ac}(h:Js a):SP a:=by
 have h0:=h.kind;have h1:=h.data;have h2:0<=a.sess∧a.sess<=7:=by by_cases e:a.kind=1;(·exact h.sess e);·rw[h.noSess e];omega
 have h3:0<=a.keep∧a.keep<=200000:=by by_cases e:a.kind=3;(·exact h.keep e);·rw[h.noKeep e];omega
 exact⟨by omega,by omega,by omega,by omega⟩
abbrev AV:=Ac×H
def S9:AV:=(Yz,sJ)
def GQ(us:List AV):List H:=us.flatMap fun x=>[Y tA x.1.kind,Y tA x.1.sess,Y tA x.1.keep,x.2]
theorem Dj(a b:List AV):GQ (a++b)=GQ a++GQ b:=by
 simp[GQ]
theorem Mr:∀(us:List AV)(i:Nat),i<us.length->(GQ us)[i*4]?=I (Y tA (us.getD i S9).1.kind)∧(GQ us)[i*4+1]?=I (Y tA (us.getD i S9).1.sess)∧(GQ us)[i*4+2]?=I (Y tA (us.getD i S9).1.keep)∧(GQ us)[i*4+3]?=I (us.getD i S9).2|[],i,h=>by simp at h|x::us,0,_=>⟨rfl,rfl,rfl,rfl⟩|x::us,i+1,h=>by have:=Mr us i (by simpa using h);rw[show(i+1)*4=i*4+4by omega];exact this
theorem gT:(35:Nat)≠5:=by
 decide
def Gt(rb:Nat)(w:F)(v:H)(l:List Ac):Prop:=∃us:List AV,us.map (·.1)=l∧w.ownsRow rb 35 4 v l.length (GQ us)∧∀x∈us,Qj 0 w x.2 x.1.data
theorem aN(rb:Nat)(w:F):Gt rb w (J G 0 0) []:=⟨[],rfl,sL _ _ _ _,fun x hx=>by
 simp at hx⟩
theorem Gt.row{rb:Nat}{w:F}{v:H}{l:List Ac}(h:Gt rb w v l):v.ownBlock=G∨∃g cur fz,v.ownBlock=I g∧rb<=g∧w.heap[g]?=I (S cur 35 fz):=by
 obtain⟨us,_,h,_⟩:=h;rcases h.2with⟨rfl,_⟩|⟨g,cap,cur,rfl,hb,hg,_⟩;·exact .inl rfl
 ·exact .inr ⟨g,cur,_,rfl,hb,hg⟩
theorem Gt.lt{rb:Nat}{w:F}{v:H}{l:List Ac}(h:Gt rb w v l):∀k,v.ownBlock=I k->rb<=k∧k<w.heap.size:=by
 obtain⟨us,_,h,_⟩:=h;exact sH h
theorem Gt.grownNone{rb:Nat}{w w':F}{v:H}{l:List Ac}(h:Gt rb w v l)(hg:L w w' G):Gt rb w' v l:=by
 obtain⟨us,h1,h2,h3⟩:=h;refine⟨us,h1,tU h2 hg ?_,fun x hx=>(h3 x hx).keptT hg (.inl rfl)⟩;cases hv:v.ownBlock with|none=>exact .inl rfl|some k=>exact .inr (by simp)
theorem Gt.alloc{rb:Nat}{w:F}{v:H}{l:List Ac}(h:Gt rb w v l)(o:Obj):Gt rb (w.alloc o) v l:=h.grownNone (sM _ _ _)
theorem Gt.shape{rb:Nat}{w:F}{v:H}{l:List Ac}(h:Gt rb w v l):∃a cap,v=J a l.length cap:=by
 obtain⟨us,_,h,_⟩:=h;rcases h.2with⟨rfl,h0⟩|⟨g,cap,cur,rfl,_⟩;·exact⟨G,0,by rw[h0]⟩
 ·exact⟨_,cap,rfl⟩
theorem Ii{us:List AV}{l:List Ac}(h:us.map (·.1)=l)(i:Nat)(hi:i<l.length):(us.getD i S9).1=l.getD i Yz∧us.getD i S9∈us:=by
 subst h;have hi':i<us.length:=by simpa using hi
 refine⟨by simp[hi'],?_⟩;rw[show us.getD i S9=us[i]by simp[hi']];exact sP hi'
theorem Gt.list{rb:Nat}{w:F}{v:H}{l:List Ac}(h:Gt rb w v l):Yf w v l:=by
 obtain⟨us,hl,hr,h3⟩:=h;rcases hr.2with⟨rfl,h0⟩|⟨g,cap,cur,rfl,hb,hg,hn,hm,hs,ht⟩;·have:l=[]:=tJ h0;rw[this];exact Ew w
 ·(have hcell:∀j u,(GQ us)[j]?=I u->w.cell? ⟨g,j,G⟩=I u:=by intro j u hj;(have hlt:j<l.length*4:=by have:=(sI.1 hj).1;rw[hr.1]at this;exact this);(have e2:(cur.toList.take (l.length*4))[j]?=(GQ us)[j]?:=by rw[ht]);rw[sB,if_pos hlt,hj]at e2;simp[tS,hg];simpa using e2);refine⟨_,cap,rfl,hn,.inr ⟨g,0,rfl,fun i hi=>?_⟩⟩;obtain⟨e1,e2⟩:=Ii hl i hi;(have hlen:us.length=l.length:=by rw[<-hl];simp);obtain⟨c1,c2,c3,c4⟩:=Mr us i (by omega);have hp:=h3 _ e2;rw[e1]at c1 c2 c3 hp;rw[sN];exact⟨_,hcell _ _ c1,hcell _ _ c2,hcell _ _ c3,hcell _ _ c4,hp.1⟩
theorem Ax{rb:Nat}{w W w1:F}{v:H}{l:List Ac}(h:L w W G)(ho:Gt rb W v l)(hb:w.heap.size<=rb)(hg:L W w1 v.ownBlock):L w w1 G:=⟨hg.os.trans h.os,hg.tape.trans h.tape,hg.output.trans h.output,tN h.size hg.size,fun i hi hn=>(hg.block i (tH hi h.size) (fun e=>by
 have:=(ho.lt i e.symm).1;omega)).trans (h.block i hi hn)⟩
theorem mD:(M.info? 35).map (fun i=>(i.zero,i.size,i.bytes))=I (I (sQ #[Y tA 0,Y tA 0,Y tA 0,J G 0 0]),4,48):=by
 kernel_rfl
def Dl(w:F)(v:H)(p:Pr):Prop:=∃vk vv,v=sQ #[vk,vv]∧Qe w vk p.1∧Qe w vv p.2
theorem Dl.grown{w w':F}{v:H}{p:Pr}(h:Dl w v p)(hg:L w w' G):Dl w' v p:=by
 obtain⟨vk,vv,rfl,h1,h2⟩:=h;exact⟨vk,vv,rfl,h1.grown hg,h2.grown hg⟩
def Fo(w:F)(b o:Nat)(p:Pr):Prop:=∃vk vv,w.cell? ⟨b,o,G⟩=I vk∧w.cell? ⟨b,o+1,G⟩=I vv∧Qe w vk p.1∧Qe w vv p.2
theorem Fo.grown{w w':F}{b o:Nat}{p:Pr}(h:Fo w b o p)(hg:L w w' G):Fo w' b o p:=by
 obtain⟨vk,vv,c1,c2,h1,h2⟩:=h;exact⟨vk,vv,hg.cell c1 (by simp),hg.cell c2 (by simp),h1.grown hg,h2.grown hg⟩
def Qq(w:F)(v:H)(l:PL):Prop:=∃a cap,v=J a l.length cap∧l.length<=cap∧((l=[]∧(a=G->cap=0))∨∃b o,a=I ⟨b,o,G⟩∧∀i,i<l.length->Fo w b (o+i*2) (l.getD i ([],[])))
theorem XN(w:F):Qq w (J G 0 0) []:=⟨G,0,rfl,sA _,.inl ⟨rfl,fun _=>rfl⟩⟩
theorem Qq.grown{w w':F}{v:H}{l:PL}(h:Qq w v l)(hg:L w w' G):Qq w' v l:=by
 obtain⟨a,cap,rfl,hc,h⟩:=h;refine⟨a,cap,rfl,hc,?_⟩;rcases h with h|⟨b,o,rfl,h⟩;·exact .inl h
 ·exact .inr ⟨b,o,rfl,fun i hi=>(h i hi).grown hg⟩
theorem Qq.shape{w:F}{v:H}{l:PL}(h:Qq w v l):∃a cap,v=J a l.length cap:=by
 obtain⟨a,cap,rfl,_⟩:=h;exact⟨a,cap,rfl⟩
theorem Qq.at{w:F}{a:Option rC}{n cap:Nat}{l:PL}(h:Qq w (J a n cap) l)(i:Nat)(hi:i<l.length):∃b o,a=I ⟨b,o,G⟩∧Fo w b (o+i*2) (l.getD i ([],[])):=by
 obtain⟨a',cap',e,hc,h⟩:=h;simp only[tG]at e;obtain⟨rfl,rfl,rfl⟩:=e;rcases h with⟨rfl,_⟩|⟨b,o,rfl,h⟩;·simp at hi
 ·exact⟨b,o,rfl,h i hi⟩
theorem Qj.kept{base:Nat}{w w':F}{v:H}{bs:List UInt8}(h:Qj base w v bs){row:Option Nat}(hg:L w w' row)(hrow:row=G∨∃g cur fz,row=I g∧base<=g∧w.heap[g]?=I (S cur 44 fz)):Qj base w' v bs:=by
 obtain⟨hs,ho⟩:=h;rcases ho with rfl|⟨b,hb,hlt,hc⟩;·obtain⟨a,cap,rfl,hc,h⟩:=hs;refine⟨⟨a,cap,rfl,hc,?_⟩,.inl rfl⟩;rcases h with h|⟨b,o,rfl,h⟩;(·exact .inl h);·exact .inr ⟨b,o,rfl,fun i hi=>by simp at hi⟩
 ·(have hne:I b≠row:=by intro e;rcases hrow with rfl|⟨g,cur,fz,rfl,hbg,hgc⟩;(·cases e);·cases e;rcases hc with hc|⟨cur2,fz2,hc⟩;(·omega);·rw[hc]at hgc;simp at hgc);have hblk:=hg.block b hlt hne;refine⟨?_,.inr ⟨b,hb,tH hlt hg.size,?_⟩⟩;(·obtain⟨a,cap,rfl,hcp,h⟩:=hs;refine⟨a,cap,rfl,hcp,?_⟩;rcases h with h|⟨b',o,rfl,h⟩;(·exact .inl h);·refine .inr ⟨b',o,rfl,fun i hi=>?_⟩;simp[pL]at hb;subst hb;exact hg.cell (h i hi) (by simpa using hne));·rcases hc with hc|⟨cur,fz,hc⟩;(·exact .inl hc);·exact .inr ⟨cur,fz,by rw[hblk];exact hc⟩
def flat(vs:List (H×H)):List H:=vs.flatMap fun x=>[x.1,x.2]
theorem KV(vs:List (H×H)):(flat vs).length=vs.length*2:=by
 induction vs with|nil=>rfl|cons x r ih=>simp only[flat,tP,tC,rB,pY]at ih⊢;omega
theorem Ki(a b:List (H×H)):flat (a++b)=flat a++flat b:=by
 simp[flat]
theorem yM:∀(vs:List (H×H))(i:Nat),i<vs.length->(flat vs)[i*2]?=I (vs.getD i (sJ,sJ)).1∧(flat vs)[i*2+1]?=I (vs.getD i (sJ,sJ)).2|[],i,h=>by simp at h|x::r,0,_=>by simp[flat]|x::r,i+1,h=>by have:=yM r i (by simpa using h);rw[show(i+1)*2=i*2+2by omega,show i*2+2+1=(i*2+1)+2by omega];simpa[flat]using this
def G6(base:Nat)(w:F)(v:H)(l:PL):Prop:=∃vs:List (H×H),vs.length=l.length∧w.ownsRow base 44 2 v l.length (flat vs)∧∀i,i<l.length->Qj base w (vs.getD i (sJ,sJ)).1 (l.getD i ([],[])).1∧Qj base w (vs.getD i (sJ,sJ)).2 (l.getD i ([],[])).2
theorem G6.row{base:Nat}{w:F}{v:H}{l:PL}(h:G6 base w v l):v.ownBlock=G∨∃g cur fz,v.ownBlock=I g∧base<=g∧w.heap[g]?=I (S cur 44 fz):=by
 obtain⟨vs,_,h,_⟩:=h;rcases h.2with⟨rfl,_⟩|⟨g,cap,cur,rfl,hb,hg,_⟩;·exact .inl rfl
 ·exact .inr ⟨g,cur,_,rfl,hb,hg⟩
theorem G6.lt{base:Nat}{w:F}{v:H}{l:PL}(h:G6 base w v l):∀k,v.ownBlock=I k->base<=k∧k<w.heap.size:=by
 obtain⟨vs,_,h,_⟩:=h;exact sH h
theorem G6.grownNone{base:Nat}{w w':F}{v:H}{l:PL}(h:G6 base w v l)(hg:L w w' G):G6 base w' v l:=by
 obtain⟨vs,h1,h2,h3⟩:=h;refine⟨vs,h1,tU h2 hg ?_,fun i hi=>⟨((h3 i hi).1).kept hg (.inl rfl),((h3 i hi).2).kept hg (.inl rfl)⟩⟩;cases hv:v.ownBlock with|none=>exact .inl rfl|some k=>exact .inr (by simp)
theorem G6.alloc{base:Nat}{w:F}{v:H}{l:PL}(h:G6 base w v l)(o:Obj):G6 base (w.alloc o) v l:=h.grownNone (sM _ _ _)
theorem G6.shape{base:Nat}{w:F}{v:H}{l:PL}(h:G6 base w v l):∃a cap,v=J a l.length cap:=by
 obtain⟨vs,_,h,_⟩:=h;rcases h.2with⟨rfl,h0⟩|⟨g,cap,cur,rfl,_⟩;·exact⟨G,0,by rw[h0]⟩
 ·exact⟨_,cap,rfl⟩
theorem i8{base:Nat}{w W w1:F}{v:H}{l:PL}(h:L w W G)(ho:G6 base W v l)(hb:w.heap.size<=base)(hg:L W w1 v.ownBlock):L w w1 G:=⟨hg.os.trans h.os,hg.tape.trans h.tape,hg.output.trans h.output,tN h.size hg.size,fun i hi hn=>(hg.block i (tH hi h.size) (fun e=>by
 have:=(ho.lt i e.symm).1;omega)).trans (h.block i hi hn)⟩
theorem Ba:(M.info? 44).map (fun i=>(i.zero,i.size,i.bytes))=I (I (sQ #[J G 0 0,J G 0 0]),2,48):=by
 kernel_rfl
theorem Ju{α:Type}(a b:List α)(i:Nat)(d:α):(a++b).getD i d=if i<a.length then a.getD i d else b.getD (i-a.length) d:=by
 by_cases h:i<a.length;·rw[if_pos h];simp[pP,h]
 ·rw[if_neg h];simp[pP,h]
theorem jZ(vs:List (H×H))(k:Nat):flat (vs.take k)=(flat vs).take (k*2):=by
 induction vs generalizing k with|nil=>simp[flat]|cons x r ih=>cases k with|zero=>simp[flat]|succ k=>rw[rI,show(k+1)*2=k*2+2by omega];have:=ih k;simp only[flat,tP,pU,pZ,rI]at this⊢;rw[this]
theorem Nq(vs:List (H×H))(k:Nat):flat (vs.drop k)=(flat vs).drop (k*2):=by
 induction vs generalizing k with|nil=>simp[flat]|cons x r ih=>cases k with|zero=>simp[flat]|succ k=>rw[pQ,show(k+1)*2=k*2+2by omega];have:=ih k;simp only[flat,tP,pU,pZ,pQ]at this⊢;rw[this]
theorem G6.cells{base:Nat}{w:F}{g n cap:Nat}{vs:List (H×H)}{l:PL}(hr:w.ownsRow base 44 2 (J (I ⟨g,0,G⟩) n cap) l.length (flat vs)):∀j u,(flat vs)[j]?=I u->w.cell? ⟨g,j,G⟩=I u:=by
 intro j u hj;rcases hr.2with⟨e,_⟩|⟨g',cap',cur,e,hb,hg,hn,hm,hs,ht⟩;·cases e
 ·simp only[tG,tB,rP]at e;obtain⟨⟨rfl,_⟩,_,_⟩:=e;(have hlt:j<l.length*2:=by have:=(sI.1 hj).1;rw[hr.1]at this;exact this);(have e2:(cur.toList.take (l.length*2))[j]?=(flat vs)[j]?:=by rw[ht]);rw[sB,if_pos hlt,hj]at e2;simp[tS,hg];simpa using e2
theorem Za.setOther{base:Nat}{w:F}{v:H}{bs:List UInt8}(h:Za base w v bs)(c i:Nat)(x:H)(hc:c<base):Za base (tD w ⟨c,i,G⟩ x) v bs:=by
 refine h.grown (row:=I c) (Qh (Qb _ _) i x) ?_;cases hv:v.ownBlock with|none=>exact .inl rfl|some k=>have:=(h.lt k hv).1;exact .inr (by simp;omega)
theorem JL{W w:F}{b:Nat}{x y:H}{t:tW}(hg:L W w G)(h:W.heap[b]?=I (S #[x,y] t))(u v:H):(tD w ⟨b,0,G⟩ u).cell? ⟨b,0,G⟩=I u∧((tD w ⟨b,0,G⟩ u).setCell ⟨b,1,G⟩ v).cell? ⟨b,1,G⟩=I v:=by
 have hb:w.heap[b]?=I (S #[x,y] t):=by rw[hg.block b (tI.1 h).1 (by simp)];exact h
 have c0:w.cell? ⟨b,0,G⟩=I x:=by simp[tS,hb]
 have c1:w.cell? ⟨b,1,G⟩=I y:=by simp[tS,hb]
 refine⟨pM _ _ _ (by rw[c0];rfl),pM _ _ _ ?_⟩;rw[r7 _ _ _ _ (by simp),c1];rfl
theorem GU{base:Nat}{W:F}{pb:Nat}{x y:H}(h:W.heap[pb]?=I (S #[x,y] 44))(hb:base<=pb)(u v:H):((tD W ⟨pb,0,G⟩ u).setCell ⟨pb,1,G⟩ v).heap[pb]?=I (S #[u,v] 44)∧(∀z bs,Qj base W z bs->Qj base ((tD W ⟨pb,0,G⟩ u).setCell ⟨pb,1,G⟩ v) z bs)∧∀w0:F,w0.heap.size<=pb->L w0 W G->L w0 ((tD W ⟨pb,0,G⟩ u).setCell ⟨pb,1,G⟩ v) G:=by
 refine⟨?_,fun z bs hz=>?_,fun w0 h0 hg=>Qc (Qc hg _ h0 _ _) _ h0 _ _⟩;·simp only[tD,tV,if_true,h,rT];first|rfl|simp
 ·exact hz.kept (Qh (Qh (Qb _ _) _ _) _ _) (.inr ⟨pb,_,_,rfl,hb,h⟩)
def KQ(rb pb:Nat)(w:F)(v:H)(l:PL):Prop:=∃vs:List (H×H),vs.length=l.length∧w.ownsRow rb 44 2 v l.length (flat vs)∧∀i,i<l.length->Qj pb w (vs.getD i (sJ,sJ)).1 (l.getD i ([],[])).1∧Qj pb w (vs.getD i (sJ,sJ)).2 (l.getD i ([],[])).2
theorem Ap(rb pb:Nat)(w:F):KQ rb pb w (J G 0 0) []:=⟨[],rfl,sL _ _ _ _,fun i hi=>by
 simp at hi⟩
theorem KQ.p{rb pb:Nat}{w:F}{v:H}{l:PL}(h:KQ rb pb w v l)(hb:pb<=rb):G6 pb w v l:=by
 obtain⟨vs,h1,h2,h3⟩:=h;refine⟨vs,h1,⟨h2.1,?_⟩,h3⟩;rcases h2.2with h|⟨g,cap,cur,h1,h2,h3⟩;·exact .inl h
 ·exact .inr ⟨g,cap,cur,h1,tN hb h2,h3⟩
theorem KQ.row{rb base:Nat}{w:F}{v:H}{l:PL}(h:KQ rb base w v l)(hb:base<=rb):v.ownBlock=G∨∃g cur fz,v.ownBlock=I g∧base<=g∧w.heap[g]?=I (S cur 44 fz):=(h.p hb).row
theorem KQ.lt{rb pb:Nat}{w:F}{v:H}{l:PL}(h:KQ rb pb w v l):∀k,v.ownBlock=I k->rb<=k∧k<w.heap.size:=by
 obtain⟨vs,_,h,_⟩:=h;exact sH h
theorem KQ.grownNone{rb pb:Nat}{w w':F}{v:H}{l:PL}(h:KQ rb pb w v l)(hg:L w w' G):KQ rb pb w' v l:=by
 obtain⟨vs,h1,h2,h3⟩:=h;refine⟨vs,h1,tU h2 hg ?_,fun i hi=>⟨((h3 i hi).1).kept hg (.inl rfl),((h3 i hi).2).kept hg (.inl rfl)⟩⟩;cases hv:v.ownBlock with|none=>exact .inl rfl|some k=>exact .inr (by simp)
theorem KQ.alloc{rb pb:Nat}{w:F}{v:H}{l:PL}(h:KQ rb pb w v l)(o:Obj):KQ rb pb (w.alloc o) v l:=h.grownNone (sM _ _ _)
theorem KQ.shape{rb pb:Nat}{w:F}{v:H}{l:PL}(h:KQ rb pb w v l):∃a cap,v=J a l.length cap:=by
 obtain⟨vs,_,h,_⟩:=h;rcases h.2with⟨rfl,h0⟩|⟨g,cap,cur,rfl,_⟩;·exact⟨G,0,by rw[h0]⟩
 ·exact⟨_,cap,rfl⟩
theorem Eg{rb pb:Nat}{w W w1:F}{v:H}{l:PL}(h:L w W G)(ho:KQ rb pb W v l)(hb:w.heap.size<=rb)(hg:L W w1 v.ownBlock):L w w1 G:=⟨hg.os.trans h.os,hg.tape.trans h.tape,hg.output.trans h.output,tN h.size hg.size,fun i hi hn=>(hg.block i (tH hi h.size) (fun e=>by
 have:=(ho.lt i e.symm).1;omega)).trans (h.block i hi hn)⟩
def mB(base:Nat)(w:F)(b o:Nat)(p:Pr):Prop:=∃vk vv,w.cell? ⟨b,o,G⟩=I vk∧w.cell? ⟨b,o+1,G⟩=I vv∧Qj base w vk p.1∧Qj base w vv p.2
def QP(base:Nat)(w:F)(v:H)(l:PL):Prop:=∃a cap,v=J a l.length cap∧l.length<=cap∧((l=[]∧(a=G->cap=0))∨∃b o,a=I ⟨b,o,G⟩∧(b<base∨∃cur fz,w.heap[b]?=I (S cur 44 fz))∧∀i,i<l.length->mB base w b (o+i*2) (l.getD i ([],[])))
theorem QP.list{base:Nat}{w:F}{v:H}{l:PL}(h:QP base w v l):Qq w v l:=by
 obtain⟨a,cap,rfl,hc,h⟩:=h;refine⟨a,cap,rfl,hc,?_⟩;rcases h with h|⟨b,o,rfl,_,h⟩;·exact .inl h
 ·refine .inr ⟨b,o,rfl,fun i hi=>?_⟩;obtain⟨vk,vv,c1,c2,h1,h2⟩:=h i hi;exact⟨vk,vv,c1,c2,h1.1,h2.1⟩
theorem Qq.pairsB{w w':F}{v:H}{l:PL}(h:Qq w v l)(hg:L w w' G)(base:Nat)(hb:w.heap.size<=base):QP base w' v l:=by
 obtain⟨a,cap,rfl,hc,h⟩:=h;refine⟨a,cap,rfl,hc,?_⟩;rcases h with h|⟨b,o,rfl,h⟩;·exact .inl h
 ·by_cases h0:l=[];(·exact .inl ⟨h0,fun e=>by cases e⟩);·have hl:0<l.length:=rW.2 h0;refine .inr ⟨b,o,rfl,.inl ?_,fun i hi=>?_⟩;(·obtain⟨vk,vv,c1,_⟩:=h 0 hl;exact tH (UO c1) hb);·obtain⟨vk,vv,c1,c2,h1,h2⟩:=h i hi;exact⟨vk,vv,hg.cell c1 (by simp),hg.cell c2 (by simp),h1.part hg base hb,h2.part hg base hb⟩
theorem G6.pairsB{base:Nat}{w:F}{v:H}{l:PL}(h:G6 base w v l):QP base w v l:=by
 obtain⟨vs,hl,hr,h3⟩:=h;have hr':=hr;rcases hr.2with⟨rfl,h0⟩|⟨g,cap,cur,rfl,hb,hg,hn,hm,hs,ht⟩;·have:l=[]:=tJ h0;subst this;exact⟨G,0,rfl,sA _,.inl ⟨rfl,fun _=>rfl⟩⟩
 ·refine⟨_,cap,rfl,hn,.inr ⟨g,0,rfl,.inr ⟨cur,_,hg⟩,fun i hi=>?_⟩⟩;have hf:=yM vs i (by omega);refine⟨(vs.getD i (sJ,sJ)).1,(vs.getD i (sJ,sJ)).2,?_,?_,(h3 i hi).1,(h3 i hi).2⟩;(·have:=G6.cells hr' _ _ hf.1;rw[sN];exact this);·have:=G6.cells hr' _ _ hf.2;rw[sN];exact this
theorem QP.kept{base:Nat}{w w':F}{v:H}{l:PL}(h:QP base w v l){row:Option Nat}(hg:L w w' row)(hrow:row=G∨∃g cur t fz,row=I g∧base<=g∧w.heap[g]?=I (S cur t fz)∧t≠5∧t≠44):QP base w' v l:=by
 obtain⟨a,cap,rfl,hc,h⟩:=h;refine⟨a,cap,rfl,hc,?_⟩;rcases h with h|⟨b,o,rfl,hb,h⟩;·exact .inl h
 ·by_cases h0:l=[];(·exact .inl ⟨h0,fun e=>by cases e⟩);·have hl:0<l.length:=rW.2 h0;(have hlt:b<w.heap.size:=by obtain⟨vk,vv,c1,_⟩:=h 0 hl;exact UO c1);(have hne:I b≠row:=by intro e;rcases hrow with rfl|⟨g,cur,t,fz,rfl,hbg,hgc,ht,ht2⟩;(·cases e);·cases e;rcases hb with hb|⟨cur2,fz2,hb⟩;(·omega);·rw[hb]at hgc;simp only[tB,tX]at hgc;exact ht2 hgc.2.1.symm);(have hrow':row=G∨∃g cur t fz,row=I g∧base<=g∧w.heap[g]?=I (S cur t fz)∧t≠5:=by rcases hrow with h|⟨g,cur,t,fz,h1,h2,h3,h4,_⟩;(·exact .inl h);·exact .inr ⟨g,cur,t,fz,h1,h2,h3,h4⟩);refine .inr ⟨b,o,rfl,?_,fun i hi=>?_⟩;(·rcases hb with hb|⟨cur,fz,hb⟩;(·exact .inl hb);·exact .inr ⟨cur,fz,by rw[hg.block b hlt hne];exact hb⟩);·obtain⟨vk,vv,c1,c2,h1,h2⟩:=h i hi;exact⟨vk,vv,hg.cell c1 (by simpa using hne),hg.cell c2 (by simpa using hne),h1.keptT hg hrow',h2.keptT hg hrow'⟩
theorem QP.grown{base:Nat}{w w':F}{v:H}{l:PL}(h:QP base w v l)(hg:L w w' G):QP base w' v l:=h.kept hg (.inl rfl)
theorem yY{base:Nat}{w:F}{v:H}{l:PL}(h:QP base w v l):v.oneCell'=N:=by
 obtain⟨a,cap,rfl,_⟩:=h;rfl
theorem YJ(base:Nat)(w:F):QP base w (J G 0 0) []:=⟨G,0,rfl,sA _,.inl ⟨rfl,fun _=>rfl⟩⟩
theorem QP.shape{base:Nat}{w:F}{v:H}{l:PL}(h:QP base w v l):∃a cap,v=J a l.length cap:=by
 obtain⟨a,cap,rfl,_⟩:=h;exact⟨a,cap,rfl⟩
theorem QP.mono{base base':Nat}{w:F}{v:H}{l:PL}(h:QP base w v l)(hb:base<=base'):QP base' w v l:=by
 obtain⟨a,cap,rfl,hc,h⟩:=h;refine⟨a,cap,rfl,hc,?_⟩;rcases h with h|⟨b,o,rfl,h1,h2⟩;·exact .inl h
 ·refine .inr ⟨b,o,rfl,?_,fun i hi=>?_⟩;(·rcases h1 with h1|h1;(·exact .inl (by omega));·exact .inr h1);·obtain⟨vk,vv,c1,c2,p1,p2⟩:=h2 i hi;exact⟨vk,vv,c1,c2,p1.mono hb,p2.mono hb⟩
theorem KQ.pairsB{rb:Nat}{w:F}{v:H}{l:PL}(h:KQ rb 0 w v l):QP 0 w v l:=(h.p (tQ _)).pairsB
theorem QP.up{w:F}{v:H}{l:PL}(h:QP 0 w v l)(base:Nat):QP base w v l:=h.mono (tQ _)
abbrev WV:=Zi×H×H×H
def AI:WV:=(Qr,sJ,sJ,sJ)
def Jg(us:List WV):List H:=us.flatMap fun x=>[x.2.1,x.2.2.1,tL x.1.gone,x.2.2.2]
theorem Ia(us:List WV):(Jg us).length=us.length*4:=by
 induction us with|nil=>rfl|cons x r ih=>simp only[Jg,tP,tC,rB,pY]at ih⊢;omega
theorem vL(a b:List WV):Jg (a++b)=Jg a++Jg b:=by
 simp[Jg]
theorem Mv:∀(us:List WV)(i:Nat),i<us.length->(Jg us)[i*4]?=I (us.getD i AI).2.1∧(Jg us)[i*4+1]?=I (us.getD i AI).2.2.1∧(Jg us)[i*4+2]?=I (tL (us.getD i AI).1.gone)∧(Jg us)[i*4+3]?=I (us.getD i AI).2.2.2|[],i,h=>by simp at h|x::r,0,_=>by simp[Jg]|x::r,i+1,h=>by have:=Mv r i (by simpa using h);rw[show(i+1)*4=i*4+4by omega,show i*4+4+1=(i*4+1)+4by omega,show i*4+4+2=(i*4+2)+4by omega,show i*4+4+3=(i*4+3)+4by omega];simpa[Jg]using this
theorem uY:(172:Nat)≠5:=by
 decide
theorem W9{us:List WV}{l:List Zi}(h:us.map (·.1)=l)(i:Nat)(hi:i<l.length):(us.getD i AI).1=l.getD i Qr∧us.getD i AI∈us:=by
 subst h;have hi':i<us.length:=by simpa using hi
 refine⟨by simp[hi'],?_⟩;rw[show us.getD i AI=us[i]by simp[hi']];exact sP hi'
theorem dY:(M.info? 172).map (fun i=>(i.zero,i.size,i.bytes))=I (I (sQ #[J G 0 0,J G 0 0,tL O,J G 0 0]),4,80):=by
 kernel_rfl
theorem EM(w:F)(vn vk vv:H)(p:Zi)(h1:Qe w vn p.name)(h2:Qe w vk p.key)(h3:Qe w vv p.value)(t:tW):QS (w.alloc (S #[vn,vk,tL p.gone,vv] t)) (J (I ⟨w.heap.size,0,G⟩) 1 1) [p]:=by
 refine⟨_,1,rfl,by simp,.inr ⟨w.heap.size,0,rfl,fun i hi=>?_⟩⟩;match i,hi with|0,_=>exact⟨vn,vk,vv,by simp,by simp,by simp,by simp,h1.alloc _,h2.alloc _,h3.alloc _⟩
def aX(base:Nat)(w:F)(b o:Nat)(p:Zi):Prop:=∃vn vk vv,w.cell? ⟨b,o,G⟩=I vn∧w.cell? ⟨b,o+1,G⟩=I vk∧w.cell? ⟨b,o+2,G⟩=I (tL p.gone)∧w.cell? ⟨b,o+3,G⟩=I vv∧Qj base w vn p.name∧Qj base w vk p.key∧Qj base w vv p.value
def Xx(base:Nat)(w:F)(v:H)(l:List Zi):Prop:=∃a cap,v=J a l.length cap∧l.length<=cap∧((l=[]∧(a=G->cap=0))∨∃b o,a=I ⟨b,o,G⟩∧(b<base∨∃cur fz,w.heap[b]?=I (S cur 172 fz))∧∀i,i<l.length->aX base w b (o+i*4) (l.getD i Qr))
theorem CD(base:Nat)(w:F):Xx base w (J G 0 0) []:=⟨G,0,rfl,sA _,.inl ⟨rfl,fun _=>rfl⟩⟩
theorem Xx.shape{base:Nat}{w:F}{v:H}{l:List Zi}(h:Xx base w v l):∃a cap,v=J a l.length cap:=by
 obtain⟨a,cap,rfl,_⟩:=h;exact⟨a,cap,rfl⟩
theorem Xx.oneCell{base:Nat}{w:F}{v:H}{l:List Zi}(h:Xx base w v l):v.oneCell'=N:=by
 obtain⟨a,cap,rfl,_⟩:=h;rfl
theorem Xx.list{base:Nat}{w:F}{v:H}{l:List Zi}(h:Xx base w v l):QS w v l:=by
 obtain⟨a,cap,rfl,hc,h⟩:=h;refine⟨a,cap,rfl,hc,?_⟩;rcases h with h|⟨b,o,rfl,_,h⟩;·exact .inl h
 ·refine .inr ⟨b,o,rfl,fun i hi=>?_⟩;obtain⟨vn,vk,vv,c1,c2,c3,c4,h1,h2,h3⟩:=h i hi;exact⟨vn,vk,vv,c1,c2,c3,c4,h1.1,h2.1,h3.1⟩
theorem Xx.kept{base:Nat}{w w':F}{v:H}{l:List Zi}(h:Xx base w v l){row:Option Nat}(hg:L w w' row)(hrow:row=G∨∃g cur t fz,row=I g∧base<=g∧w.heap[g]?=I (S cur t fz)∧t≠5∧t≠172):Xx base w' v l:=by
 obtain⟨a,cap,rfl,hc,h⟩:=h;refine⟨a,cap,rfl,hc,?_⟩;rcases h with h|⟨b,o,rfl,hb,h⟩;·exact .inl h
 ·by_cases h0:l=[];(·exact .inl ⟨h0,fun e=>by cases e⟩);·have hl:0<l.length:=rW.2 h0;(have hlt:b<w.heap.size:=by obtain⟨vn,vk,vv,c1,_⟩:=h 0 hl;exact UO c1);(have hne:I b≠row:=by intro e;rcases hrow with rfl|⟨g,cur,t,fz,rfl,hbg,hgc,ht,ht2⟩;(·cases e);·cases e;rcases hb with hb|⟨cur2,fz2,hb⟩;(·omega);·rw[hb]at hgc;simp only[tB,tX]at hgc;exact ht2 hgc.2.1.symm);(have hrow':row=G∨∃g cur t fz,row=I g∧base<=g∧w.heap[g]?=I (S cur t fz)∧t≠5:=by rcases hrow with h|⟨g,cur,t,fz,h1,h2,h3,h4,_⟩;(·exact .inl h);·exact .inr ⟨g,cur,t,fz,h1,h2,h3,h4⟩);refine .inr ⟨b,o,rfl,?_,fun i hi=>?_⟩;(·rcases hb with hb|⟨cur,fz,hb⟩;(·exact .inl hb);·exact .inr ⟨cur,fz,by rw[hg.block b hlt hne];exact hb⟩);·obtain⟨vn,vk,vv,c1,c2,c3,c4,h1,h2,h3⟩:=h i hi;exact⟨vn,vk,vv,hg.cell c1 (by simpa using hne),hg.cell c2 (by simpa using hne),hg.cell c3 (by simpa using hne),hg.cell c4 (by simpa using hne),h1.keptT hg hrow',h2.keptT hg hrow',h3.keptT hg hrow'⟩
theorem Xx.grown{base:Nat}{w w':F}{v:H}{l:List Zi}(h:Xx base w v l)(hg:L w w' G):Xx base w' v l:=h.kept hg (.inl rfl)
def Kn(w:F)(v:H)(c:XO):Prop:=∃vs,v=sQ #[Y tA c.turn,vs]∧QS w vs c.writes
theorem Kn.grown{w w':F}{v:H}{c:XO}(h:Kn w v c)(hg:L w w' G):Kn w' v c:=by
 obtain⟨vs,rfl,h⟩:=h;exact⟨vs,rfl,h.grown hg⟩
theorem Kn.agg{w:F}{v:H}{c:XO}(h:Kn w v c):∃a cap,v=sQ #[Y tA c.turn,J a c.writes.length cap]:=by
 obtain⟨vs,rfl,h⟩:=h;obtain⟨a,cap,rfl⟩:=h.shape;exact⟨a,cap,rfl⟩
theorem Kn.writes{w:F}{c:XO}{x y:H}(h:Kn w (sQ #[x,y]) c):x=Y tA c.turn∧QS w y c.writes:=by
 obtain⟨vs,e,h⟩:=h;injection e with e;injection e with e;injection e with e1 e;injection e with e2 e;exact⟨e1,e2▸h⟩
structure Mi(c:XO):Prop where turn:-9223372036854775808<=c.turn∧c.turn<=9223372036854775807writes:vC c.writes
structure Gz where
  data : List UInt8
  synced : Int
def GG:Gz:=⟨[],0⟩
def Ug(w:F)(v:H)(t:Gz):Prop:=∃vd,v=sQ #[vd,Y tA t.synced]∧Qe w vd t.data
theorem Ug.grown{w w':F}{v:H}{t:Gz}(h:Ug w v t)(hg:L w w' G):Ug w' v t:=by
 obtain⟨vd,rfl,h⟩:=h;exact⟨vd,rfl,h.grown hg⟩
theorem Ug.agg{w:F}{v:H}{t:Gz}(h:Ug w v t):∃a cap,v=sQ #[J a t.data.length cap,Y tA t.synced]:=by
 obtain⟨vd,rfl,h⟩:=h;obtain⟨a,cap,rfl⟩:=h.shape;exact⟨a,cap,rfl⟩
theorem Ug.data{w:F}{t:Gz}{x y:H}(h:Ug w (sQ #[x,y]) t):Qe w x t.data∧y=Y tA t.synced:=by
 obtain⟨vd,e,h⟩:=h;injection e with e;injection e with e;injection e with e1 e;injection e with e2 e;exact⟨e1▸h,e2⟩
structure yV(t:Gz):Prop where data:t.data.length<=140737488355328synced:-9223372036854775808<=t.synced∧t.synced<=9223372036854775807
def YI(w:F)(v:H)(t:Gz):Prop:=∃vd,v=sQ #[vd,Y tA t.synced]∧Qj 0 w vd t.data
theorem YI.is{w:F}{v:H}{t:Gz}(h:YI w v t):Ug w v t:=by
 obtain⟨vd,rfl,h⟩:=h;exact⟨vd,rfl,h.slice⟩
theorem Gs(w:F):YI w (sQ #[J G 0 0,Y tA 0]) GG:=⟨_,rfl,Qz w,.inl rfl⟩
def G5(t:Gz):Bool:=tR (t.data.length<=200000)&&tR (0<=t.synced∧t.synced<=(t.data.length:Int))
theorem KZ(t:Gz):G5 t=N↔t.data.length<=200000∧0<=t.synced∧t.synced<=(t.data.length:Int):=by
 unfold G5;rw[rS,decide_eq_true_iff,decide_eq_true_iff]
def Ro(c:XO):List UInt8:=if Zb c=0then Zn c else[]
def Eo(t:Gz):Int:=if G5 t=N then 0 else 6
def KM(t:Gz):Gz:=if G5 t=N then⟨t.data,(t.data.length:Int)⟩else GG
def UG(t:Gz)(keep:Int):Int:=if G5 t=N then(if keep<0then 2 else 0)else 6
def XD(t:Gz)(keep:Int):Nat:=if keep<(t.data.length:Int)-t.synced then(t.synced+keep).toNat else t.data.length
def XA(t:Gz)(keep:Int):Gz:=if UG t keep=0then⟨t.data.take (XD t keep),(XD t keep:Int)⟩else GG
def VX(D:List UInt8->List UInt8)(t:Gz)(c:XO):Int:=if G5 t=N then(if Zb c=0then(if 200000<t.data.length+(ZP D c).length then 11 else 0)else Zb c)else 6
def xQ(D:List UInt8->List UInt8)(t:Gz)(c:XO):Gz:=if VX D t c=0then⟨t.data++ZP D c,t.synced⟩else GG
def Na(t:Gz):Int:=if G5 t=N then 0 else 6
def jE(D:List UInt8->List UInt8)(t:Gz):List XO:=if G5 t=N then(K2 D 1 t.data).1 else[]
def yA(D:List UInt8->List UInt8)(t:Gz):Gz:=if G5 t=N then⟨t.data.take (Cj D t.data),if t.synced>(Cj D t.data:Int)then(Cj D t.data:Int)else t.synced⟩else GG
theorem Ab{D:List UInt8->List UInt8}(hD:∀x,(D x).length=4){c:XO}(hc:Zb c=0):6<=(ZP D c).length∧(ZP D c).length<=600:=by
 have h1:=Fl hD c;have h2:=Vl hc;omega
theorem AH(D:List UInt8->List UInt8)(cs:List XO)(i:Nat)(h:i<cs.length):Q7 D (cs.take (i+1))=Q7 D (cs.take i)++ZP D (cs.getD i Zr):=by
 rw[sZ h,V1,Fg,show cs[i]=cs.getD i Zr by simp[h]]
theorem lK{D:List UInt8->List UInt8}{t:Gz}(hm:G5 t=N){cs:List XO}{r:List UInt8}{n:Nat}(h:K2 D 1 t.data=(cs,r))(hn:Cj D t.data=n):Na t=0∧jE D t=cs∧yA D t=⟨t.data.take n,if t.synced>(n:Int)then(n:Int)else t.synced⟩:=by
 refine⟨by rw[Na,if_pos hm],by rw[jE,if_pos hm,h],by rw[yA,if_pos hm,hn]⟩
theorem bN{D:List UInt8->List UInt8}(hD:∀x,(D x).length=4){cs:List XO}(h:z9 1 cs)(k:Nat)(s:Int)(hk:k<=(Q7 D cs).length)(hs:0<=s∧s<=(k:Int))(hl:(Q7 D cs).length<=200000):∃j,j<=cs.length∧(Q7 D (cs.take j)).length<=k∧(j<cs.length->k<(Q7 D (cs.take (j+1))).length)∧Na ⟨(Q7 D cs).take k,s⟩=0∧jE D ⟨(Q7 D cs).take k,s⟩=cs.take j∧yA D ⟨(Q7 D cs).take k,s⟩=⟨Q7 D (cs.take j),if s>((Q7 D (cs.take j)).length:Int)then((Q7 D (cs.take j)).length:Int)else s⟩:=by
 obtain⟨j,h1,h2,h3,h4,h5⟩:=BR hD h k;have hkl:((Q7 D cs).take k).length=k:=by simp;omega
 have hm:G5 ⟨(Q7 D cs).take k,s⟩=N:=(KZ _).2 ⟨by show((Q7 D cs).take k).length<=_;omega,by show 0<=s∧s<=(((Q7 D cs).take k).length:Int);omega⟩;have hn:Cj D ((Q7 D cs).take k)=(Q7 D (cs.take j)).length:=by rw[Cj,h2,hkl];show k-(((Q7 D cs).take k).drop _).length=_;rw[pV,hkl];omega
 obtain⟨a,b,c⟩:=lK hm h2 hn;refine⟨j,h1,h3,h5,a,b,?_⟩;rw[c];have e:((Q7 D cs).take k).take (Q7 D (cs.take j)).length=Q7 D (cs.take j):=by rw[oO,oP h3];(conv=>lhs;rw[<-pO j cs,V1]);rw[show(cs.take j++cs.drop j).take j=cs.take j by rw[pO]];exact List.take_left' rfl
 show(⟨((Q7 D cs).take k).take _,_⟩:Gz)=_;rw[e]
def aO:FL->Nat->List XO->Int|_,_,[]=>0|f,i,c::cs=>if Zb c=0then(if c.turn=((i+1:Nat):Int)then(if Q4 f c.writes=0then aO (XC f c.writes) (i+1) cs else Q4 f c.writes)else 3)else Zb c
def zG:FL->List XO->FL|f,[]=>f|f,c::cs=>zG (XC f c.writes) cs
theorem Pv:∀(a b:List XO)(f:FL),zG f (a++b)=zG (zG f a) b|[],_,_=>rfl|_::a,b,_=>Pv a b _
theorem S5(cs:List XO)(f:FL)(c:XO):zG f (cs++[c])=XC (zG f cs) c.writes:=by
 rw[Pv];rfl
def Pi:FL->Nat->List XO->Prop|_,_,[]=>True|f,i,c::cs=>Zb c=0∧c.turn=((i+1:Nat):Int)∧Q4 f c.writes=0∧Pi (XC f c.writes) (i+1) cs
theorem Pi.take:∀{cs:List XO}{f:FL}{i:Nat}(_:Pi f i cs)(j:Nat),Pi f i (cs.take j)|[],_,_,_,j=>by rw[List.take_nil];trivial|_::_,_,_,_,0=>trivial|_::_,_,_,h,j+1=>⟨h.1,h.2.1,h.2.2.1,Pi.take h.2.2.2 j⟩
theorem Pi.at:∀{cs:List XO}{f:FL}{i:Nat}(_:Pi f i cs)(j:Nat)(_:j<cs.length),Zb (cs.getD j Zr)=0∧(cs.getD j Zr).turn=((i+j+1:Nat):Int)∧Q4 (zG f (cs.take j)) (cs.getD j Zr).writes=0|[],_,_,_,j,hj=>by simp at hj|c::cs,f,i,h,0,_=>⟨h.1,h.2.1,h.2.2.1⟩|c::cs,f,i,h,j+1,hj=>by have:=Pi.at h.2.2.2 j (by simpa using hj);rw[show i+(j+1)+1=i+1+j+1by omega];simpa[zG]using this
theorem Tp{l:FL}(h:ZN l)(ws:List Zi):ZN (XC l ws):=by
 unfold XC;by_cases h0:Q4 l ws=0;·rw[if_pos h0];unfold Q4 at h0;rw[if_pos ((Xd l).2 h)]at h0;by_cases h10:10<ws.length;(·rw[if_pos h10]at h0;omega);·rw[if_neg h10]at h0;exact Pm ws l h h0
 ·rw[if_neg h0];exact UV
theorem VR:∀(cs:List XO)(f:FL),ZN f->ZN (zG f cs)|[],_,h=>h|c::cs,_,h=>VR cs _ (Tp h c.writes)
def Z9(n t:Int):Bool:=tR (0<=t∧t<=n∧n-t<6)
def Ef(a b:Zi):Prop:=a.name=b.name∧a.key=b.key
def Mg(l:List Zi):Prop:=l.Pairwise fun a b=>¬Ef a b
def XP(a b:Rd):Bool:=a.wide==b.wide&&(tR (a.name=b.name)&&(tR (a.key=b.key)&&tR (a.last=b.last)))
theorem zP(a b:Rd):XP a b=N↔a=b:=by
 obtain⟨n,k,w,l⟩:=a;obtain⟨n2,k2,w2,l2⟩:=b;simp only[XP,rS,decide_eq_true_iff,beq_iff_eq,Rd.mk.injEq];exact⟨fun⟨h1,h2,h3,h4⟩=>⟨h2,h3,h1,h4⟩,fun⟨h1,h2,h3,h4⟩=>⟨h3,h1,h2,h4⟩⟩
def ZY(a b:Zi):Bool:=tR (a.name=b.name)&&tR (a.key=b.key)
theorem z8(a b:Zi):ZY a b=N↔Ef a b:=by
 simp only[ZY,rS,decide_eq_true_iff];exact Iff.rfl
def qS:List Rd->List Rd->Int|_,[]=>0|p,r::rs=>if XM r=0then(if p.any (fun q=>XP q r)=N then 3 else qS (p++[r]) rs)else XM r
def yQ:List Zi->List Zi->Int|_,[]=>0|p,w::ws=>if QD w=0then(if p.any (fun q=>ZY q w)=N then 3 else yQ (p++[w]) ws)else QD w
theorem Rh:∀(rs p:List Rd),qS p rs=0↔(∀r∈rs,XM r=0)∧(∀r∈rs,r∉p)∧rs.Nodup|[],p=>by simp[qS]|r::rs,p=>by have ih:=Rh rs (p++[r]);rw[qS];by_cases h1:XM r=0;(·rw[if_pos h1];by_cases h2:p.any (fun q=>XP q r)=N;(·rw[if_pos h2];refine⟨fun h=>by omega,fun h=>?_⟩;obtain⟨q,hq,he⟩:=rF.1 h2;rw[(zP q r).1 he]at hq;exact absurd hq (h.2.1 r (rM ..)));·rw[if_neg h2,ih];have hr:r∉p:=fun hm=>h2 (rF.2 ⟨r,hm,(zP r r).2 rfl⟩);constructor;(·rintro⟨a,b,c⟩;refine⟨fun x hx=>?_,fun x hx=>?_,oM.2 ⟨fun hm=>b r hm (by simp),c⟩⟩;(·rcases tK.1 hx with rfl|hx;(·exact h1);·exact a x hx);·rcases tK.1 hx with rfl|hx;(·exact hr);·exact fun hm=>b x hx (tY.2 (.inl hm)));·rintro⟨a,b,c⟩;have c':=oM.1 c;refine⟨fun x hx=>a x (sY _ hx),fun x hx hm=>?_,c'.2⟩;rcases tY.1 hm with hm|hm;(·exact b x (sY _ hx) hm);·simp only[tK,tM,or_false]at hm;subst hm;exact c'.1 hx);·rw[if_neg h1];exact⟨fun h=>absurd h h1,fun h=>absurd (h.1 r (rM ..)) h1⟩
theorem D0:∀(ws p:List Zi),yQ p ws=0↔(∀w∈ws,QD w=0)∧(∀w∈ws,∀q∈p,¬Ef q w)∧Mg ws|[],p=>by simp[yQ,Mg]|w::ws,p=>by have ih:=D0 ws (p++[w]);rw[yQ];by_cases h1:QD w=0;(·rw[if_pos h1];by_cases h2:p.any (fun q=>ZY q w)=N;(·rw[if_pos h2];refine⟨fun h=>by omega,fun h=>?_⟩;obtain⟨q,hq,he⟩:=rF.1 h2;exact absurd ((z8 q w).1 he) (h.2.1 w (rM ..) q hq));·rw[if_neg h2,ih];have hr:∀q∈p,¬Ef q w:=fun q hm e=>h2 (rF.2 ⟨q,hm,(z8 q w).2 e⟩);constructor;(·rintro⟨a,b,c⟩;refine⟨fun x hx=>?_,fun x hx q hq=>?_,rN.2 ⟨fun x hx=>b x hx w (by simp),c⟩⟩;(·rcases tK.1 hx with rfl|hx;(·exact h1);·exact a x hx);·rcases tK.1 hx with rfl|hx;(·exact hr q hq);·exact b x hx q (tY.2 (.inl hq)));·rintro⟨a,b,c⟩;have c':=rN.1 c;refine⟨fun x hx=>a x (sY _ hx),fun x hx q hm=>?_,c'.2⟩;rcases tY.1 hm with hm|hm;(·exact b x (sY _ hx) q hm);·simp only[tK,tM,or_false]at hm;subst hm;exact c'.1 x hx);·rw[if_neg h1];exact⟨fun h=>absurd h h1,fun h=>absurd (h.1 w (rM ..)) h1⟩
structure Tx where
  start : Int
  reads : List Rd
  writes : List Zi
def To:Tx:=⟨0,[],[]⟩
def GN(t:Tx):Int:=if 0<=t.start∧t.start<=1048576then(if 20<t.reads.length∨10<t.writes.length then 1 else(if qS [] t.reads=0then yQ [] t.writes else qS [] t.reads))else 2
structure zK (t : Tx) : Prop where
  start : 0 <= t.start ∧ t.start <= 1048576
  reads : t.reads.length <= 20
  writes : t.writes.length <= 10
  each : ∀ r ∈ t.reads, XM r = 0
  once : t.reads.Nodup
  wrs : ∀ w ∈ t.writes, QD w = 0
  apart : Mg t.writes
theorem uV(t:Tx):GN t=0↔zK t:=by
 unfold GN;by_cases h1:0<=t.start∧t.start<=1048576;·rw[if_pos h1];by_cases h2:20<t.reads.length∨10<t.writes.length;(·rw[if_pos h2];exact⟨fun h=>by omega,fun h=>by have:=h.reads;have:=h.writes;omega⟩);·rw[if_neg h2];by_cases h3:qS [] t.reads=0;(·rw[if_pos h3,D0];have h3':=(Rh _ _).1 h3;exact⟨fun h=>⟨h1,by omega,by omega,h3'.1,h3'.2.2,h.1,h.2.2⟩,fun h=>⟨h.wrs,fun _ _ _ hq=>by simp at hq,h.apart⟩⟩);·rw[if_neg h3];exact⟨fun h=>absurd h h3,fun h=>absurd ((Rh _ _).2 ⟨h.each,fun _ _ hq=>by simp at hq,h.once⟩) h3⟩
 ·rw[if_neg h1];exact⟨fun h=>by omega,fun h=>absurd h.start h1⟩
def E9(t:Tx)(r:Rd):Bool:=t.reads.any (fun q=>XP q r)
theorem aU(t:Tx)(r:Rd):E9 t r=N↔r∈t.reads:=by
 unfold E9;rw[rF];exact⟨fun⟨q,hq,e⟩=>(zP q r).1 e▸hq,fun h=>⟨r,h,(zP r r).2 rfl⟩⟩
def Xu(t:Tx)(r:Rd):Int:=if GN t=0then(if XM r=0then(if E9 t r=N then 0 else(if t.reads.length=20then 11 else 0))else XM r)else GN t
def Yk(t:Tx)(r:Rd):Tx:=if Xu t r=0then(if E9 t r=N then t else⟨t.start,t.reads++[r],t.writes⟩)else To
theorem iS{t:Tx}(h:zK t){r:Rd}(hr:XM r=0):Xu t r=if E9 t r=N then 0 else(if t.reads.length=20then 11 else 0):=by
 rw[Xu,if_pos ((uV t).2 h),if_pos hr]
theorem gM{t:Tx}(h:zK t){r:Rd}(hr:XM r=0)(he:Xu t r=0):zK (Yk t r):=by
 rw[Yk,if_pos he];by_cases hh:E9 t r=N;·rw[if_pos hh];exact h
 ·rw[if_neg hh];rw[iS h hr,if_neg hh]at he;have hm:r∉t.reads:=fun e=>hh ((aU t r).2 e);(have h20:t.reads.length≠20:=fun e=>by rw[if_pos e]at he;omega);refine⟨h.start,?_,h.writes,fun x hx=>?_,?_,h.wrs,h.apart⟩;(·have:=h.reads;simp;omega);(·rcases tY.1 hx with hx|hx;(·exact h.each x hx);·simp only[tK,tM,or_false]at hx;rw[hx];exact hr);·rw[pS];refine⟨h.once,by simp,fun a ha b hb e=>?_⟩;simp only[tK,tM,or_false]at hb;subst hb;subst e;exact hm ha
def Tk(l:List Zi)(w:Zi):Bool:=l.any (fun q=>ZY q w)
def xZ:List Zi->Zi->List Zi|[],w=>[w]|a::l,w=>if ZY a w=N then w::l else a::xZ l w
def Xp(t:Tx)(w:Zi):Int:=if GN t=0then(if QD w=0then(if Tk t.writes w=N then 0 else(if t.writes.length=10then 11 else 0))else QD w)else GN t
def YQ(t:Tx)(w:Zi):Tx:=if Xp t w=0then⟨t.start,t.reads,xZ t.writes w⟩else To
theorem Cu:∀(l:List Zi)(w:Zi),(xZ l w).length=if Tk l w=N then l.length else l.length+1|[],w=>rfl|a::l,w=>by rw[xZ,Tk,pH];by_cases h:ZY a w=N;(·rw[if_pos h,h];rfl);·rw[if_neg h,rB,Cu l w];(have hf:ZY a w=O:=by simpa using h);rw[hf,Bool.false_or];show _=if Tk l w=N then _ else _;by_cases h2:Tk l w=N;(·rw[if_pos h2,if_pos h2];rfl);·rw[if_neg h2,if_neg h2];rfl
theorem Ru:∀(l:List Zi)(w x:Zi),x∈xZ l w->x=w∨x∈l|[],w,x,h=>by simpa[xZ]using h|a::l,w,x,h=>by rw[xZ]at h;by_cases h1:ZY a w=N;(·rw[if_pos h1]at h;rcases tK.1 h with h|h;(·exact .inl h);·exact .inr (sY _ h));·rw[if_neg h1]at h;rcases tK.1 h with h|h;(·exact .inr (by rw[h];exact rM ..));·exact(Ru l w x h).elim .inl fun h=>.inr (sY _ h)
theorem Cw{a b c:Zi}(h:Ef a b)(k:Ef b c):Ef a c:=⟨h.1.trans k.1,h.2.trans k.2⟩
theorem Rb:∀(l:List Zi)(w:Zi),Mg l->Mg (xZ l w)|[],w,_=>List.pairwise_singleton ..|a::l,w,h=>by have h':=rN.1 h;rw[xZ];by_cases h1:ZY a w=N;(·rw[if_pos h1];exact rN.2 ⟨fun x hx e=>h'.1 x hx (Cw ((z8 a w).1 h1) e),h'.2⟩);·rw[if_neg h1];refine rN.2 ⟨fun x hx e=>?_,Rb l w h'.2⟩;rcases Ru l w x hx with rfl|hx;(·exact h1 ((z8 _ _).2 e));·exact h'.1 x hx e
theorem bI{t:Tx}(h:zK t){w:Zi}(hw:QD w=0):Xp t w=if Tk t.writes w=N then 0 else(if t.writes.length=10then 11 else 0):=by
 rw[Xp,if_pos ((uV t).2 h),if_pos hw]
theorem eC{t:Tx}(h:zK t){w:Zi}(hw:QD w=0)(he:Xp t w=0):zK (YQ t w):=by
 rw[YQ,if_pos he];rw[bI h hw]at he;refine⟨h.start,h.reads,?_,h.each,h.once,fun x hx=>?_,Rb _ _ h.apart⟩;·show(xZ t.writes w).length<=10;rw[Cu];have:=h.writes;by_cases hh:Tk t.writes w=N;(·rw[if_pos hh];exact this);·rw[if_neg hh]at he⊢;(have h10:t.writes.length≠10:=fun e=>by rw[if_pos e]at he;omega);omega
 ·rcases Ru _ _ _ hx with rfl|hx;(·exact hw);·exact h.wrs x hx
def mO(l:List Zi)(n k:List UInt8):Option Zi:=l.find? fun q=>tR (q.name=n)&&tR (q.key=k)
theorem aS{l:List Zi}{n k:List UInt8}{w:Zi}(h:mO l n k=I w):w∈l∧w.name=n∧w.key=k:=by
 refine⟨List.mem_of_find?_eq_some h,?_⟩;have:=List.find?_some h;simpa using this
def m9(a b k:List UInt8):Bool:=!YX k a&&!YX b k
def Uh(n a b:List UInt8)(l:PL)(w:Zi):PL:=if w.name=n∧m9 a b w.key=N then(if w.gone=N then uD l w.key else Kx l (w.key,w.value))else l
def Lk(n a b:List UInt8):PL->List Zi->PL|l,[]=>l|l,w::ws=>Lk n a b (Uh n a b l w) ws
def uT(n a b:List UInt8):PL->List Zi->Int|_,[]=>0|l,w::ws=>if 60<(Uh n a b l w).length then 11 else uT n a b (Uh n a b l w) ws
def X5(r:Rd)(w:Zi):Bool:=tR (r.name=w.name)&&(if r.wide=N then m9 r.key r.last w.key else tR (r.key=w.key))
def nO(t:Tx)(ws:List Zi):Bool:=ws.any fun w=>t.reads.any fun r=>X5 r w
def bQ(t:Tx)(l:List XO):Bool:=l.any fun c=>tR (t.start<c.turn)&&nO t c.writes
def Rj(t:Tx):Int:=GN t
def U2(t:Tx)(l:List XO):Bool:=if GN t=0then bQ t l else O
def xU(l:FL)(t:Tx):Int:=if Q5 l=0then GN t else Q5 l
def KU(l:FL)(t:Tx)(n k:List UInt8):Int:=if xU l t=0then(if Qt n.length=0then Qn k.length else Qt n.length)else xU l t
def Gd(l:FL)(t:Tx)(n k:List UInt8):Bool:=if KU l t n k=0then(mO t.writes n k).isSome else O
def Vs(l:FL)(t:Tx)(n k:List UInt8):Bool:=if KU l t n k=0then(match mO t.writes n k with|I w=>!w.gone|none=>KN l n k)else O
def Vf(l:FL)(t:Tx)(n k:List UInt8):List UInt8:=if KU l t n k=0then(match mO t.writes n k with|I w=>w.value|none=>KO l n k)else[]
theorem LR{l:FL}{t:Tx}(hl:ZN l)(ht:zK t){n k:List UInt8}(hn:1<=n.length∧n.length<=8)(hk:1<=k.length∧k.length<=16):KU l t n k=0:=by
 rw[KU,xU,if_pos ((Xd l).2 hl),if_pos ((uV t).2 ht),if_pos ((Zl _).2 hn),(Zc _).2 hk]
def KW(l:FL)(t:Tx)(n a b:List UInt8):Int:=if xU l t=0then(if Qt n.length=0then(if Qn a.length=0then(if Qn b.length=0then uT n a b (Vx (XT l n) a b) t.writes else Qn b.length)else Qn a.length)else Qt n.length)else xU l t
def Gu(l:FL)(t:Tx)(n a b:List UInt8):PL:=if KW l t n a b=0then Lk n a b (Vx (XT l n) a b) t.writes else[]
structure Rp where
  sess : Int
  code : Int
  turn : Int
  found : Bool
  value : List UInt8
  pairs : PL
  pf : Option (FL × List UInt8 × List UInt8)
def G2(s:Nat)(e:Int):Rp:=⟨(s:Int),e,0,O,[],[],G⟩
def eR(s:Nat)(t:Int):Rp:=⟨(s:Int),0,t,O,[],[],G⟩
structure Sv where
  up : Bool
  tape : Gz
  commits : List XO
  synced : Nat
  begun : Nat -> Bool
  waits : Nat -> Bool
  txns : Nat -> Tx
  queue : List Nat
  out : List Rp
def Vu{α:Type}(f:Nat->α)(i:Nat)(x:α):Nat->α:=fun j=>if j=i then x else f j
theorem Xo{α:Type}(f:Nat->α)(i:Nat)(x:α):Vu f i x i=x:=by
 simp[Vu]
theorem Zp{α:Type}(f:Nat->α){i j:Nat}(x:α)(h:j≠i):Vu f i x j=f j:=by
 simp[Vu,h]
def GC(up:Bool)(t:Gz)(cs:List XO)(o:List Rp):Sv:=⟨up,t,cs,cs.length,fun _=>O,fun _=>O,fun _=>To,[],o⟩
def Ip:Sv:=GC N GG [] []
def Xb(v:Sv)(r:Rp):Sv:={v with out:=v.out++[r]}
def QH(v:Sv)(n:Nat):FL:=zG [] (v.commits.take n)
def VA(v:Sv)(s:Nat)(x:Rd)(o:Rp):Sv:=if Xu (v.txns s) x=0then Xb {v with txns:=Vu v.txns s (Yk (v.txns s) x)} o else Xb v (G2 s (Xu (v.txns s) x))
def jG(v:Sv)(s:Nat)(w:Zi):Sv:=Xb (if Xp (v.txns s) w=0then{v with txns:=Vu v.txns s (YQ (v.txns s) w)}else v) (G2 s (Xp (v.txns s) w))
def DZ(v:Sv)(s:Nat)(r:Rq):Sv:=if Gd (QH v (v.txns s).start.toNat) (v.txns s) r.name r.key=N then Xb v ⟨(s:Int),0,(v.txns s).start,Vs (QH v (v.txns s).start.toNat) (v.txns s) r.name r.key,Vf (QH v (v.txns s).start.toNat) (v.txns s) r.name r.key,[],G⟩else VA v s (ZC r) ⟨(s:Int),0,(v.txns s).start,Vs (QH v (v.txns s).start.toNat) (v.txns s) r.name r.key,Vf (QH v (v.txns s).start.toNat) (v.txns s) r.name r.key,[],G⟩
def F8(v:Sv)(s:Nat)(r:Rq):Sv:=if KW (QH v (v.txns s).start.toNat) (v.txns s) r.name r.key r.last=0then VA v s (ZC r) ⟨(s:Int),0,(v.txns s).start,O,[],Gu (QH v (v.txns s).start.toNat) (v.txns s) r.name r.key r.last,G⟩else Xb v (G2 s (KW (QH v (v.txns s).start.toNat) (v.txns s) r.name r.key r.last))
def F9(v:Sv)(s:Nat)(r:Rq):Sv:=if r.kind=4∨r.kind=5then jG v s (XG r)else if r.kind=2then DZ v s r else F8 v s r
def Jy(v:Sv)(s:Nat):XO:=⟨((v.commits.length+1:Nat):Int),(v.txns s).writes⟩
def XS(v:Sv)(s:Nat):Sv:={v with begun:=Vu v.begun s O}
def Kw(D:List UInt8->List UInt8)(v:Sv)(s:Nat):Sv:=if(v.txns s).writes.length=0then Xb (XS v s) (eR s (v.txns s).start)else if v.queue.length=6∨v.commits.length=300then Xb v (G2 s 11)else if U2 (v.txns s) v.commits=N then Xb (XS v s) (G2 s 9)else if Q4 (QH v v.commits.length) (v.txns s).writes≠0then Xb (XS v s) (G2 s (Q4 (QH v v.commits.length) (v.txns s).writes))else if VX D v.tape (Jy v s)≠0then Xb (XS v s) (G2 s (VX D v.tape (Jy v s)))else{XS v s with tape:=xQ D v.tape (Jy v s),commits:=v.commits++[Jy v s],queue:=v.queue++[s],waits:=Vu v.waits s N}
def N7(v:Sv)(s:Nat)(r:Rq):Sv:=Xb v ⟨(s:Int),0,(v.synced:Int),KN (QH v v.synced) r.name r.key,KO (QH v v.synced) r.name r.key,[],I (QH v v.synced,r.name,r.key)⟩
def QO(v:Sv)(s:Nat)(r:Rq):Bool:=v.waits s||(if r.kind=1then v.begun s else !v.begun s)
def KR(D:List UInt8->List UInt8)(v:Sv)(s:Nat)(r:Rq):Sv:=if r.kind=8then N7 v s r else if QO v s r=N then Xb v (G2 s 6)else if r.kind=1then Xb {v with begun:=Vu v.begun s N,txns:=Vu v.txns s ⟨(v.synced:Int),[],[]⟩} (eR s (v.synced:Int))else if r.kind=7then Xb (XS v s) (G2 s 0)else if Z9 (v.synced:Int) (v.txns s).start=O then Xb (XS v s) (G2 s 10)else if r.kind=6then Kw D v s else F9 v s r
def XK(D:List UInt8->List UInt8)(v:Sv)(s:Nat)(data:List UInt8):Sv:=if v.up=O then Xb v (G2 s 13)else if QK data=0then KR D v s (Qw data)else Xb v (G2 s (QK data))
def Gm:Nat->List Nat->List Rp|_,[]=>[]|n,s::q=>eR s ((n+1:Nat):Int)::Gm (n+1) q
def Vv(f:Nat->Bool)(q:List Nat):Nat->Bool:=fun j=>if j∈q then O else f j
def V8(v:Sv):Sv:={v with tape:=KM v.tape,synced:=v.synced+v.queue.length,waits:=Vv v.waits v.queue,queue:=[],out:=v.out++Gm v.synced v.queue}
def U7(D:List UInt8->List UInt8)(v:Sv)(k:Int):Sv:=GC O (yA D (XA v.tape k)) (jE D (XA v.tape k)) v.out
def VT(D:List UInt8->List UInt8)(v:Sv)(a:Ac):Sv:=if a.kind=1then XK D v a.sess.toNat a.data else if a.kind=2then(if v.up=N then V8 v else v)else if a.kind=3then(if v.up=N then U7 D v a.keep else v)else{v with up:=N}
def K3(D:List UInt8->List UInt8)(l:List Ac):Sv:=l.foldl (VT D) Ip
theorem Nu(D:List UInt8->List UInt8)(l:List Ac)(a:Ac):K3 D (l++[a])=VT D (K3 D l) a:=by
 simp[K3]
def zD(l:List Ac):Int:=GM l
structure Oc where
  up : Bool
  turn : Int
  pending : Int
  forest : FL
  replies : List Rp
def Fs(v:Sv):Oc:=⟨v.up,(v.synced:Int),(v.queue.length:Int),QH v v.synced,v.out⟩
def IQ:Oc:=⟨O,0,0,[],[]⟩
def yO(D:List UInt8->List UInt8)(l:List Ac):Oc:=if zD l=0then Fs (K3 D l)else IQ
section
theorem Nz:∀{cs:List XO}{f:FL}{i:Nat},Pi f i cs->z9 (i+1) cs|[],_,_,_=>trivial|_::_,_,_,h=>⟨by rw[h.2.1],h.1,Nz h.2.2.2⟩
theorem Mb:∀{cs:List XO}{f:FL}{i:Nat}{c:XO},Pi f i cs->Zb c=0->c.turn=((i+cs.length+1:Nat):Int)->Q4 (zG f cs) c.writes=0->Pi f i (cs++[c])|[],_,_,_,_,h1,h2,h3=>⟨h1,by rw[h2];rfl,h3,trivial⟩|d::cs,f,i,c,h,h1,h2,h3=>⟨h.1,h.2.1,h.2.2.1,Mb h.2.2.2 h1 (by rw[h2,rB];congr 1;omega) h3⟩
structure Zq (D : List UInt8 -> List UInt8) (v : Sv) : Prop where
  goes : Pi [] 0 v.commits
  many : v.commits.length <= 300
  data : v.tape.data = Q7 D v.commits
  mark : v.tape.synced = ((Q7 D (v.commits.take v.synced)).length : Int)
  room : v.tape.data.length <= 200000
  turn : v.synced + v.queue.length = v.commits.length
  few : v.queue.length <= 6
  wait : ∀ s, v.waits s = N ↔ s ∈ v.queue
  once : v.queue.Nodup
  tx : ∀ s, v.begun s = N -> zK (v.txns s) ∧ (v.txns s).start <= (v.synced : Int)
  idle : ∀ s, v.waits s = N -> v.begun s = O
  down : v.up = O -> v.queue = [] ∧ ∀ s, v.begun s = O
variable{D:List UInt8->List UInt8}{v:Sv}
theorem Zq.tell(h:Zq D v)(r:Rp):Zq D (Xb v r):=⟨h.goes,h.many,h.data,h.mark,h.room,h.turn,h.few,h.wait,h.once,h.tx,h.idle,h.down⟩
theorem Nv{f:Nat->Bool}{s j:Nat}(h:Vu f s O j=N):j≠s∧f j=N:=by
 by_cases e:j=s;·rw[e,Xo]at h;cases h
 ·exact⟨e,by rwa[Zp f _ e]at h⟩
theorem Zq.end(h:Zq D v)(s:Nat):Zq D (XS v s):=by
 refine⟨h.goes,h.many,h.data,h.mark,h.room,h.turn,h.few,h.wait,h.once,fun j hj=>h.tx j (Nv hj).2,fun j hj=>?_,fun hu=>⟨(h.down hu).1,fun j=>?_⟩⟩;·show Vu v.begun s O j=O;by_cases e:j=s;(·rw[e,Xo]);·rw[Zp _ _ e];exact h.idle j hj
 ·show Vu v.begun s O j=O;by_cases e:j=s;(·rw[e,Xo]);·rw[Zp _ _ e];exact(h.down hu).2 j
theorem Zq.txn(h:Zq D v){s:Nat}{t:Tx}(ht:zK t)(hs:t.start<=(v.synced:Int)):Zq D {v with txns:=Vu v.txns s t}:=by
 refine⟨h.goes,h.many,h.data,h.mark,h.room,h.turn,h.few,h.wait,h.once,fun j hj=>?_,h.idle,h.down⟩;show zK (Vu v.txns s t j)∧(Vu v.txns s t j).start<=_;by_cases e:j=s;·rw[e,Xo];exact⟨ht,hs⟩
 ·rw[Zp _ _ e];exact h.tx j hj
theorem Zq.may(h:Zq D v):G5 v.tape=N:=by
 refine(KZ _).2 ⟨h.room,?_⟩;rw[h.mark,h.data];have:=Vd D v.commits v.synced v.commits.length (by have:=h.turn;omega);rw[sC]at this;omega
theorem uR{t:Tx}{r:Rd}(h:Xu t r=0):(Yk t r).start=t.start:=by
 rw[Yk,if_pos h];split<;>rfl
theorem Bb{t:Tx}{w:Zi}(h:Xp t w=0):(YQ t w).start=t.start:=by
 rw[YQ,if_pos h]
theorem Zq.note(h:Zq D v){s:Nat}(hb:v.begun s=N){x:Rd}(hx:XM x=0)(o:Rp):Zq D (VA v s x o):=by
 obtain⟨h1,h2⟩:=h.tx s hb;unfold VA;by_cases e:Xu (v.txns s) x=0;·rw[if_pos e];exact(h.txn (gM h1 hx e) (by rw[uR e];exact h2)).tell _
 ·rw[if_neg e];exact h.tell _
theorem Zq.write(h:Zq D v){s:Nat}(hb:v.begun s=N){w:Zi}(hw:QD w=0):Zq D (jG v s w):=by
 obtain⟨h1,h2⟩:=h.tx s hb;unfold jG;by_cases e:Xp (v.txns s) w=0;·rw[if_pos e];exact(h.txn (eC h1 hw e) (by rw[Bb e];exact h2)).tell _
 ·rw[if_neg e];exact h.tell _
theorem uX{r:Rq}(h:JE r)(hk:r.kind=2∨r.kind=3):XM (ZC r)=0:=cV (by
 rw[(Co h).1,if_pos hk])
theorem WY{r:Rq}(h:JE r)(hk:r.kind=4∨r.kind=5):QD (XG r)=0:=Nr (by
 rw[(Co h).2,if_pos hk])
theorem Zq.work(h:Zq D v){s:Nat}(hb:v.begun s=N){r:Rq}(hr:JE r)(hk:2<=r.kind∧r.kind<=5):Zq D (F9 v s r):=by
 unfold F9;by_cases h1:r.kind=4∨r.kind=5;·rw[if_pos h1];exact h.write hb (WY hr h1)
 ·rw[if_neg h1];by_cases h2:r.kind=2;(·rw[if_pos h2];unfold DZ;split;(·exact h.tell _);·exact h.note hb (uX hr (.inl h2)) _);·rw[if_neg h2];unfold F8;split;(·exact h.note hb (uX hr (.inr (by omega))) _);·exact h.tell _
theorem C6{t:Tx}(ht:zK t)(hw:¬t.writes.length=0)(n:Nat)(hn:n<=300):Zb ⟨((n+1:Nat):Int),t.writes⟩=0:=(Ud _).2 ⟨by
 show(1:Int)<=((n+1:Nat):Int)∧((n+1:Nat):Int)<=1048576;omega,⟨by
 show 1<=t.writes.length;omega,ht.writes⟩,ht.wrs⟩
theorem BM(h:Zq D v){s:Nat}(hb:v.begun s=N)(h1:¬(v.txns s).writes.length=0)(h2:¬(v.queue.length=6∨v.commits.length=300))(h4:Q4 (QH v v.commits.length) (v.txns s).writes=0)(h5:VX D v.tape (Jy v s)=0):Zq D {XS v s with tape:=xQ D v.tape (Jy v s),commits:=v.commits++[Jy v s],queue:=v.queue++[s],waits:=Vu v.waits s N}:=by
 obtain⟨ht,hst⟩:=h.tx s hb;have hm:=h.many;have hc:Zb (Jy v s)=0:=C6 ht h1 _ hm;have hmay:=h.may;have hroom:v.tape.data.length+(ZP D (Jy v s)).length<=200000:=by rw[VX,if_pos hmay,if_pos hc]at h5;by_cases e:200000<v.tape.data.length+(ZP D (Jy v s)).length;(·rw[if_pos e]at h5;exact absurd h5 (by decide));·omega
 have hT:xQ D v.tape (Jy v s)=⟨v.tape.data++ZP D (Jy v s),v.tape.synced⟩:=by rw[xQ,if_pos h5]
 have hnw:v.waits s≠N:=fun e=>by have:=h.idle s e;rw[hb]at this;cases this
 have hnq:s∉v.queue:=fun e=>hnw ((h.wait s).2 e);have hup:v.up=N:=by cases hu:v.up with|true=>rfl|false=>have:=(h.down hu).2 s;rw[hb]at this;cases this
 have htn:=h.turn;rw[hT];refine⟨?_,?_,?_,?_,?_,?_,?_,?_,?_,?_,?_,?_⟩;·refine Mb h.goes hc (by show((v.commits.length+1:Nat):Int)=_;congr 1;omega) ?_;rw[QH,sC]at h4;exact h4
 ·show(v.commits++[Jy v s]).length<=300;rw[tC,tZ];omega
 ·show v.tape.data++ZP D (Jy v s)=Q7 D (v.commits++[Jy v s]);rw[V1,Fg,h.data]
 ·show v.tape.synced=((Q7 D ((v.commits++[Jy v s]).take v.synced)).length:Int);rw[List.take_append_of_le_length (by omega)];exact h.mark
 ·show(v.tape.data++ZP D (Jy v s)).length<=200000;rw[tC];exact hroom
 ·show v.synced+(v.queue++[s]).length=(v.commits++[Jy v s]).length;rw[tC,tC,tZ,tZ];omega
 ·show(v.queue++[s]).length<=6;have:=h.few;rw[tC,tZ];omega
 ·intro j;show Vu v.waits s N j=N↔j∈v.queue++[s];by_cases e:j=s;(·rw[e,Xo];simp);·rw[Zp _ _ e,h.wait j];simp[e]
 ·show(v.queue++[s]).Nodup;rw[pS];exact⟨h.once,by simp,fun a ha b hb e=>hnq (by simp at hb;rw[<-hb,<-e];exact ha)⟩
 ·intro j hj;exact h.tx j (Nv hj).2
 ·intro j hj;show Vu v.begun s O j=O;by_cases e:j=s;(·rw[e,Xo]);·rw[Zp _ _ e];exact h.idle j (by have:Vu v.waits s N j=N:=hj;rwa[Zp _ _ e]at this)
 ·intro hu;have:v.up=O:=hu;rw[hup]at this;cases this
theorem Zq.commit(h:Zq D v){s:Nat}(hb:v.begun s=N):Zq D (Kw D v s):=by
 unfold Kw;by_cases h1:(v.txns s).writes.length=0;·rw[if_pos h1];exact(h.end s).tell _
 ·rw[if_neg h1];by_cases h2:v.queue.length=6∨v.commits.length=300;(·rw[if_pos h2];exact h.tell _);·rw[if_neg h2];by_cases h3:U2 (v.txns s) v.commits=N;(·rw[if_pos h3];exact(h.end s).tell _);·rw[if_neg h3];by_cases h4:Q4 (QH v v.commits.length) (v.txns s).writes≠0;(·rw[if_pos h4];exact(h.end s).tell _);·rw[if_neg h4];by_cases h5:VX D v.tape (Jy v s)≠0;(·rw[if_pos h5];exact(h.end s).tell _);·rw[if_neg h5];exact BM h hb h1 h2 (sS h4) (sS h5)
theorem Zq.req(h:Zq D v)(hup:v.up=N)(s:Nat){r:Rq}(hr:JE r):Zq D (KR D v s r):=by
 unfold KR;by_cases h1:r.kind=8;·rw[if_pos h1];exact h.tell _
 ·rw[if_neg h1];by_cases h2:QO v s r=N;(·rw[if_pos h2];exact h.tell _);·rw[if_neg h2];(have h2':v.waits s=O∧(if r.kind=1then v.begun s else !v.begun s)=O:=by unfold QO at h2;cases hw:v.waits s;(·rw[hw]at h2;exact⟨rfl,by simpa using h2⟩);·rw[hw]at h2;exact absurd rfl h2);by_cases h3:r.kind=1;(·rw[if_pos h3];refine Zq.tell ?_ _;have hm:=h.many;have htn:=h.turn;refine⟨h.goes,h.many,h.data,h.mark,h.room,h.turn,h.few,h.wait,h.once,fun j hj=>?_,fun j hj=>?_,fun hu=>?_⟩;(·show zK (Vu v.txns s _ j)∧(Vu v.txns s _ j).start<=_;by_cases e:j=s;(·rw[e,Xo];exact⟨⟨by show(0:Int)<=(v.synced:Int)∧(v.synced:Int)<=1048576;omega,by simp,by simp,by simp,by simp,by simp,by simp[Mg]⟩,Int.le_refl _⟩);·rw[Zp _ _ e];exact h.tx j (by have:Vu v.begun s N j=N:=hj;rwa[Zp _ _ e]at this));(·show Vu v.begun s N j=O;have hj':v.waits j=N:=hj;by_cases e:j=s;(·rw[e,h2'.1]at hj';cases hj');·rw[Zp _ _ e];exact h.idle j hj');·have:v.up=O:=hu;rw[hup]at this;cases this);·rw[if_neg h3];(have hb:v.begun s=N:=by have:=h2'.2;rw[if_neg h3]at this;simpa using this);by_cases h4:r.kind=7;(·rw[if_pos h4];exact(h.end s).tell _);·rw[if_neg h4];by_cases h5:Z9 (v.synced:Int) (v.txns s).start=O;(·rw[if_pos h5];exact(h.end s).tell _);·rw[if_neg h5];by_cases h6:r.kind=6;(·rw[if_pos h6];exact h.commit hb);·rw[if_neg h6];have hk:=hr.kind;exact h.work hb hr (by omega)
theorem Zq.ask(h:Zq D v)(s:Nat)(d:List UInt8):Zq D (XK D v s d):=by
 unfold XK;by_cases h1:v.up=O;·rw[if_pos h1];exact h.tell _
 ·rw[if_neg h1];by_cases h2:QK d=0;(·rw[if_pos h2];exact h.req (by simpa using h1) s ((YS _).1 (Yx h2).1));·rw[if_neg h2];exact h.tell _
theorem Zq.sync(h:Zq D v):Zq D (V8 v):=by
 have hm:=h.may;have htn:=h.turn;refine⟨h.goes,h.many,?_,?_,?_,?_,by simp[V8],?_,by simp[V8],?_,?_,?_⟩;·show(KM v.tape).data=_;rw[KM,if_pos hm];exact h.data
 ·show(KM v.tape).synced=((Q7 D (v.commits.take (v.synced+v.queue.length))).length:Int);rw[KM,if_pos hm,htn,sC,<-h.data]
 ·show(KM v.tape).data.length<=_;rw[KM,if_pos hm];exact h.room
 ·show v.synced+v.queue.length+([]:List Nat).length=v.commits.length;simpa using htn
 ·intro j;show Vv v.waits v.queue j=N↔j∈([]:List Nat);rw[Vv];constructor;(·intro e;split at e;(·cases e);·rename_i hq;exact absurd ((h.wait j).1 e) hq);·intro e;simp at e
 ·intro j hj;obtain⟨h1,h2⟩:=h.tx j hj;exact⟨h1,by show _<=((v.synced+v.queue.length:Nat):Int);have:(v.txns j).start<=(v.synced:Int):=h2;show(v.txns j).start<=_;omega⟩
 ·intro j hj;have:Vv v.waits v.queue j=N:=hj;rw[Vv]at this;split at this;(·cases this);·exact h.idle j this
 ·intro hu;exact⟨rfl,(h.down hu).2⟩
theorem Hu{up:Bool}{t:Gz}{cs:List XO}{o:List Rp}(hg:Pi [] 0 cs)(hm:cs.length<=300)(hd:t=⟨Q7 D cs,((Q7 D cs).length:Int)⟩)(hr:(Q7 D cs).length<=200000):Zq D (GC up t cs o):=by
 subst hd;refine⟨hg,hm,rfl,?_,hr,rfl,by simp[GC],fun s=>by simp[GC],by simp[GC],fun s hs=>by simp[GC]at hs,fun s hs=>by simp[GC]at hs,fun _=>⟨rfl,fun _=>rfl⟩⟩;show((Q7 D cs).length:Int)=((Q7 D (cs.take cs.length)).length:Int);rw[sC]
theorem A7(D:List UInt8->List UInt8):Zq D Ip:=Hu trivial (by
 simp) rfl (by
 simp[Q7])
theorem zN(hD:∀x,(D x).length=4)(h:Zq D v){k:Int}(hk:0<=k):∃j,v.synced<=j∧j<=v.commits.length∧U7 D v k=GC O ⟨Q7 D (v.commits.take j),((Q7 D (v.commits.take j)).length:Int)⟩ (v.commits.take j) v.out∧(k=0->j=v.synced):=by
 have hm:=h.may;obtain⟨m1,m2,m3⟩:=(KZ _).1 hm;have hit:z9 1 v.commits:=Nz h.goes;have htn:=h.turn;have hce:UG v.tape k=0:=by rw[UG,if_pos hm,if_neg (by omega)]
 have hcn:XD v.tape k<=v.tape.data.length∧v.tape.synced<=(XD v.tape k:Int):=by rw[XD];split<;>omega
 have hcT:XA v.tape k=⟨(Q7 D v.commits).take (XD v.tape k),(XD v.tape k:Int)⟩:=by rw[XA,if_pos hce,h.data]
 have hrl:(Q7 D v.commits).length<=200000:=by rw[<-h.data];exact h.room
 obtain⟨j,h1,h2,h3,_,h5,h6⟩:=bN hD hit (XD v.tape k) (XD v.tape k:Int) (by rw[<-h.data];exact hcn.1) (by omega) hrl;have hsj:v.synced<=j:=by refine Ev (D:=D) (cs:=v.commits) (k:=XD v.tape k) (by omega) h3 ?_;have:=h.mark;omega
 have e:(if(XD v.tape k:Int)>((Q7 D (v.commits.take j)).length:Int)then((Q7 D (v.commits.take j)).length:Int)else(XD v.tape k:Int))=((Q7 D (v.commits.take j)).length:Int):=by split<;>omega
 refine⟨j,hsj,h1,?_,?_⟩;·rw[U7,hcT,h5,h6,e]
 ·intro hk0;by_cases hj:j=v.synced;(·exact hj);·exfalso;(have hn:(XD v.tape k:Int)=v.tape.synced:=by rw[XD,hk0];split<;>omega);have g1:=Vd D v.commits (v.synced+1) j (by omega);have g2:=AH D v.commits v.synced (by omega);have hc:=(h.goes.at v.synced (by omega)).1;have g3:=(Ab hD hc).1;have hmk:=h.mark;rw[g2,tC]at g1;omega
theorem Zq.crash(hD:∀x,(D x).length=4)(h:Zq D v){k:Int}(hk:0<=k):Zq D (U7 D v k):=by
 obtain⟨j,h1,h2,h3,_⟩:=zN hD h hk;have hm:=h.many;have hle:=Vd D v.commits j v.commits.length h2;rw[sC,<-h.data]at hle;have hr:=h.room;rw[h3];exact Hu (h.goes.take j) (by rw[pB];omega) rfl (by omega)
theorem Zq.start(h:Zq D v):Zq D {v with up:=N}:=⟨h.goes,h.many,h.data,h.mark,h.room,h.turn,h.few,h.wait,h.once,h.tx,h.idle,fun hu=>by
 cases hu⟩
theorem Zq.act(hD:∀x,(D x).length=4)(h:Zq D v){a:Ac}(ha:Js a):Zq D (VT D v a):=by
 unfold VT;by_cases h1:a.kind=1;·rw[if_pos h1];exact h.ask _ _
 ·rw[if_neg h1];by_cases h2:a.kind=2;(·rw[if_pos h2];split;(·exact h.sync);·exact h);·rw[if_neg h2];by_cases h3:a.kind=3;(·rw[if_pos h3];split;(·exact h.crash hD (ha.keep h3).1);·exact h);·rw[if_neg h3];exact h.start
theorem Ns(hD:∀x,(D x).length=4):∀(l:List Ac)(v:Sv),Zq D v->(∀a∈l,Js a)->Zq D (l.foldl (VT D) v)|[],_,h,_=>h|a::l,v,h,ha=>Ns hD l _ (h.act hD (ha a (by simp))) (fun x hx=>ha x (by simp[hx]))
theorem Ck(hD:∀x,(D x).length=4)(l:List Ac)(h:∀a∈l,Js a):Zq D (K3 D l):=Ns hD l Ip (A7 D) h
end
structure Same (v u : Sv) : Prop where
  up : u.up = v.up
  tape : u.tape = v.tape
  commits : u.commits = v.commits
  synced : u.synced = v.synced
  waits : u.waits = v.waits
  queue : u.queue = v.queue
structure gZ (s : Nat) (v u : Sv) : Prop extends Same v u where
  out : ∃ r, u.out = v.out ++ [r] ∧ r.sess = (s : Int)
  begun : ∀ j, j ≠ s -> u.begun j = v.begun j
  txns : ∀ j, j ≠ s -> u.txns j = v.txns j
theorem Uu(v:Sv)(s:Nat)(r:Rp)(h:r.sess=(s:Int)):gZ s v (Xb v r):=⟨⟨rfl,rfl,rfl,rfl,rfl,rfl⟩,⟨r,rfl,h⟩,fun _ _=>rfl,fun _ _=>rfl⟩
theorem jO(v:Sv)(s:Nat)(r:Rp)(h:r.sess=(s:Int)):gZ s v (Xb (XS v s) r):=⟨⟨rfl,rfl,rfl,rfl,rfl,rfl⟩,⟨r,rfl,h⟩,fun _ hj=>Zp _ _ hj,fun _ _=>rfl⟩
theorem Hi(v:Sv)(s:Nat)(t:Tx)(r:Rp)(h:r.sess=(s:Int)):gZ s v (Xb {v with txns:=Vu v.txns s t} r):=⟨⟨rfl,rfl,rfl,rfl,rfl,rfl⟩,⟨r,rfl,h⟩,fun _ _=>rfl,fun _ hj=>Zp _ _ hj⟩
theorem Cm(v:Sv)(s:Nat)(x:Rd)(o:Rp)(h:o.sess=(s:Int)):gZ s v (VA v s x o):=by
 unfold VA;split;·exact Hi v s _ _ h
 ·exact Uu v s _ rfl
theorem IE(v:Sv)(s:Nat)(w:Zi):gZ s v (jG v s w):=by
 unfold jG;split;·exact Hi v s _ _ rfl
 ·exact Uu v s _ rfl
theorem aD(v:Sv)(s:Nat)(r:Rq):gZ s v (F9 v s r):=by
 unfold F9;split;·exact IE v s _
 ·split;(·unfold DZ;split;(·exact Uu v s _ rfl);·exact Cm v s _ _ rfl);·unfold F8;split;(·exact Cm v s _ _ rfl);·exact Uu v s _ rfl
structure bB (D : List UInt8 -> List UInt8) (s : Nat) (v u : Sv) : Prop where
  up : u.up = v.up
  tape : u.tape = xQ D v.tape (Jy v s)
  commits : u.commits = v.commits ++ [Jy v s]
  synced : u.synced = v.synced
  waits : u.waits = Vu v.waits s N
  queue : u.queue = v.queue ++ [s]
  out : u.out = v.out
  begun : u.begun = Vu v.begun s O
  txns : u.txns = v.txns
  full : (v.txns s).writes.length ≠ 0
  room : v.queue.length ≠ 6 ∧ v.commits.length ≠ 300
  clash : U2 (v.txns s) v.commits = O
  fits : Q4 (QH v v.commits.length) (v.txns s).writes = 0
  app : VX D v.tape (Jy v s) = 0
theorem Ow(D:List UInt8->List UInt8)(v:Sv)(s:Nat):gZ s v (Kw D v s)∨bB D s v (Kw D v s):=by
 unfold Kw;by_cases h1:(v.txns s).writes.length=0;·rw[if_pos h1];exact .inl (jO v s _ rfl)
 ·rw[if_neg h1];by_cases h2:v.queue.length=6∨v.commits.length=300;(·rw[if_pos h2];exact .inl (Uu v s _ rfl));·rw[if_neg h2];by_cases h3:U2 (v.txns s) v.commits=N;(·rw[if_pos h3];exact .inl (jO v s _ rfl));·rw[if_neg h3];by_cases h4:Q4 (QH v v.commits.length) (v.txns s).writes≠0;(·rw[if_pos h4];exact .inl (jO v s _ rfl));·rw[if_neg h4];by_cases h5:VX D v.tape (Jy v s)≠0;(·rw[if_pos h5];exact .inl (jO v s _ rfl));·rw[if_neg h5];exact .inr ⟨rfl,rfl,rfl,rfl,rfl,rfl,rfl,rfl,rfl,h1,⟨fun e=>h2 (.inl e),fun e=>h2 (.inr e)⟩,by simpa using h3,sS h4,sS h5⟩
theorem lN(D:List UInt8->List UInt8)(v:Sv)(s:Nat)(r:Rq):gZ s v (KR D v s r)∨(r.kind=6∧QO v s r=O∧bB D s v (KR D v s r)):=by
 unfold KR;by_cases h1:r.kind=8;·rw[if_pos h1];exact .inl (Uu v s _ rfl)
 ·rw[if_neg h1];by_cases h2:QO v s r=N;(·rw[if_pos h2];exact .inl (Uu v s _ rfl));·rw[if_neg h2];by_cases h3:r.kind=1;(·rw[if_pos h3];exact .inl ⟨⟨rfl,rfl,rfl,rfl,rfl,rfl⟩,⟨_,rfl,rfl⟩,fun _ hj=>Zp _ _ hj,fun _ hj=>Zp _ _ hj⟩);·rw[if_neg h3];by_cases h4:r.kind=7;(·rw[if_pos h4];exact .inl (jO v s _ rfl));·rw[if_neg h4];by_cases h5:Z9 (v.synced:Int) (v.txns s).start=O;(·rw[if_pos h5];exact .inl (jO v s _ rfl));·rw[if_neg h5];by_cases h6:r.kind=6;(·rw[if_pos h6];rcases Ow D v s with h|h;(·exact .inl h);·exact .inr ⟨h6,by simpa using h2,h⟩);·rw[if_neg h6];exact .inl (aD v s r)
theorem lL(D:List UInt8->List UInt8)(v:Sv)(s:Nat)(d:List UInt8):gZ s v (XK D v s d)∨(v.up=N∧QK d=0∧(Qw d).kind=6∧v.waits s=O∧v.begun s=N∧bB D s v (XK D v s d)):=by
 unfold XK;by_cases h1:v.up=O;·rw[if_pos h1];exact .inl (Uu v s _ rfl)
 ·rw[if_neg h1];by_cases h2:QK d=0;(·rw[if_pos h2];rcases lN D v s (Qw d)with h|⟨h3,h4,h5⟩;(·exact .inl h);·right;unfold QO at h4;rw[if_neg (by omega)]at h4;simp only[rU,Bool.not_eq_false']at h4;exact⟨by simpa using h1,h2,h3,h4.1,h4.2,h5⟩);·rw[if_neg h2];exact .inl (Uu v s _ rfl)
theorem FA:∀(q:List Nat)(n:Nat),(Gm n q).length=q.length|[],_=>rfl|_::q,n=>by rw[Gm,rB,rB,FA q]
structure Gr where
  kind : Int
  sess : Int
  name : Int
  key : Int
  value : Int
def uM:Gr:=⟨0,0,0,0,0⟩
def Jf(n:Int)(many:Nat):Nat:=if n<0then((-(n+1))%(many:Int)).toNat else(n%(many:Int)).toNat
theorem Gh(n:Int){many:Nat}(h:0<many):Jf n many<many:=by
 unfold Jf;split;·have b0:=oQ (-(n+1)) (show(many:Int)≠0 by omega);have b1:=pT (-(n+1)) (show(0:Int)<many by omega);omega
 ·have b0:=oQ n (show(many:Int)≠0 by omega);have b1:=pT n (show(0:Int)<many by omega);omega
def nK(n:Int):List UInt8:=[sU (97+Jf n 3)]
def nI(n:Int):List UInt8:=[sU (107+Jf n 5)]
def nZ(n:Int):List UInt8:=[sU (Jf n 50)]
def Tl(k:Nat)(a b c d:List UInt8):Rq:=if k<4then⟨1,[],[],[],[]⟩else if k<7then⟨2,a,b,[],[]⟩else if k=7then⟨3,a,b,c,[]⟩else if k<12then⟨4,a,b,[],d⟩else if k=12then⟨5,a,b,[],[]⟩else if k<17then⟨6,[],[],[],[]⟩else if k=17then⟨7,[],[],[],[]⟩else⟨8,a,b,[],[]⟩
def Ey(g:Gr):Rq:=Tl (Jf g.kind 20) (nK g.name) (nI g.key) (nI g.value) (nZ g.value)
theorem gU(k:Nat){a b c d:List UInt8}(ha:a.length=1)(hb:b.length=1)(hc:c.length=1)(hd:d.length=1):JE (Tl k a b c d):=by
 unfold Tl;repeat' split
 all_goals(refine⟨⟨?_,?_⟩,?_,?_,?_,?_,?_,?_,?_,?_⟩<;>simp[QZ, *])
theorem Hw(g:Gr):JE (Ey g):=gU _ rfl rfl rfl rfl
def E5(g:Gr):Ac:=if Jf g.kind 26=20∨Jf g.kind 26=21∨Jf g.kind 26=22then⟨2,0,0,[]⟩else if Jf g.kind 26=23then⟨3,0,(Jf g.value 80:Int),[]⟩else if Jf g.kind 26=24then⟨4,0,0,[]⟩else if Jf g.kind 26=25then⟨1,(Jf g.sess 8:Int),0,[sU (pE.wrap g.value).toNat,sU (pE.wrap g.key).toNat]⟩else⟨1,(Jf g.sess 8:Int),0,Ko (Ey g)⟩
def Yp(l:List Gr)(n:Nat):List Ac:=(l.take n).map E5
theorem iT{r:Rq}(h:JE r):Ko r=VN r:=by
 rw[Ko,if_pos ((YS r).2 h)]
theorem eH{r:Rq}(h:JE r):(Ko r).length<=78:=by
 rw[iT h];exact(DX h).1
theorem aB{s:Int}{d:List UInt8}(h0:0<=s)(h1:s<=7)(hd:d.length<=4000):Js ⟨1,s,0,d⟩:=by
 refine⟨⟨by simp,by simp⟩,fun _=>⟨h0,h1⟩,fun h=>by simp at h,hd,fun h=>by simp at h,fun _=>rfl,fun h=>by simp at h⟩
theorem gX:Js ⟨2,0,0,[]⟩:=⟨⟨by
 simp,by
 simp⟩,fun h=>by
 simp at h,fun h=>by
 simp at h,by
 simp,fun _=>rfl,fun _=>rfl,fun _=>rfl⟩
theorem dE:Js ⟨4,0,0,[]⟩:=⟨⟨by
 simp,by
 simp⟩,fun h=>by
 simp at h,fun h=>by
 simp at h,by
 simp,fun _=>rfl,fun _=>rfl,fun _=>rfl⟩
theorem O4{k:Int}(h0:0<=k)(h1:k<=200000):Js ⟨3,0,k,[]⟩:=⟨⟨by
 simp,by
 simp⟩,fun h=>by
 simp at h,fun _=>⟨h0,h1⟩,by
 simp,fun _=>rfl,fun h=>by
 simp at h,fun _=>rfl⟩
theorem iQ(g:Gr):Js (E5 g):=by
 have h8:=Gh g.sess (many:=8) (by decide);have h80:=Gh g.value (many:=80) (by decide);have hr:=eH (Hw g);unfold E5;split;·exact gX
 ·split;(·exact O4 (by omega) (by omega));·split;(·exact dE);·split;(·exact aB (by omega) (by omega) (by simp));·exact aB (by omega) (by omega) (by omega)
theorem SI(l:List Gr)(n:Nat):∀a∈Yp l n,Js a:=fun a ha=>by
 obtain⟨g,_,rfl⟩:=List.mem_map.1 ha;exact iQ g
structure VH (l : FL) : Prop where
  many : l.length * 48 <= 140737488355328
  each : ∀ i, i < l.length -> (l.getD i ([], [])).1.length <= 140737488355328 ∧ kX (l.getD i ([], [])).2
theorem VH.len{l:FL}(h:VH l):l.length<=140737488355328:=by
 have:=h.many;omega
theorem ZN.fits{l:FL}(h:ZN l):VH l:=by
 refine⟨by have:=h.room;omega,fun i hi=>?_⟩;have:=h.tens l[i] (sP hi);rw[show l[i]=l.getD i ([],[])by simp[hi]]at this;exact⟨by omega,this.2.2.fits⟩
def Cq(w:F)(b o:Nat)(t:Tn):Prop:=∃vn vp,w.cell? ⟨b,o,G⟩=I vn∧w.cell? ⟨b,o+1,G⟩=I vp∧Qe w vn t.1∧Qq w vp t.2
theorem Cq.grown{w w':F}{b o:Nat}{t:Tn}(h:Cq w b o t)(hg:L w w' G):Cq w' b o t:=by
 obtain⟨vn,vp,c1,c2,h1,h2⟩:=h;exact⟨vn,vp,hg.cell c1 (by simp),hg.cell c2 (by simp),h1.grown hg,h2.grown hg⟩
def ZG(w:F)(v:H)(l:FL):Prop:=∃a cap,v=J a l.length cap∧l.length<=cap∧((l=[]∧(a=G->cap=0))∨∃b o,a=I ⟨b,o,G⟩∧∀i,i<l.length->Cq w b (o+i*2) (l.getD i ([],[])))
theorem zR(w:F):ZG w (J G 0 0) []:=⟨G,0,rfl,sA _,.inl ⟨rfl,fun _=>rfl⟩⟩
theorem ZG.grown{w w':F}{v:H}{l:FL}(h:ZG w v l)(hg:L w w' G):ZG w' v l:=by
 obtain⟨a,cap,rfl,hc,h⟩:=h;refine⟨a,cap,rfl,hc,?_⟩;rcases h with h|⟨b,o,rfl,h⟩;·exact .inl h
 ·exact .inr ⟨b,o,rfl,fun i hi=>(h i hi).grown hg⟩
theorem ZG.shape{w:F}{v:H}{l:FL}(h:ZG w v l):∃a cap,v=J a l.length cap:=by
 obtain⟨a,cap,rfl,_⟩:=h;exact⟨a,cap,rfl⟩
theorem ZG.at{w:F}{a:Option rC}{n cap:Nat}{l:FL}(h:ZG w (J a n cap) l)(i:Nat)(hi:i<l.length):∃b o,a=I ⟨b,o,G⟩∧Cq w b (o+i*2) (l.getD i ([],[])):=by
 obtain⟨a',cap',e,hc,h⟩:=h;simp only[tG]at e;obtain⟨rfl,rfl,rfl⟩:=e;rcases h with⟨rfl,_⟩|⟨b,o,rfl,h⟩;·simp at hi
 ·exact⟨b,o,rfl,h i hi⟩
theorem i6:(99:Nat)≠5:=by
 decide
theorem iX:(99:Nat)≠44:=by
 decide
def ZJ(base:Nat)(w:F)(v:H)(l:FL):Prop:=∃vs:List (H×H),vs.length=l.length∧w.ownsRow base 99 2 v l.length (flat vs)∧∀i,i<l.length->Qj 0 w (vs.getD i (sJ,sJ)).1 (l.getD i ([],[])).1∧QP 0 w (vs.getD i (sJ,sJ)).2 (l.getD i ([],[])).2
theorem jC(base:Nat)(w:F):ZJ base w (J G 0 0) []:=⟨[],rfl,sL _ _ _ _,fun i hi=>by
 simp at hi⟩
theorem ZJ.row{base:Nat}{w:F}{v:H}{l:FL}(h:ZJ base w v l):v.ownBlock=G∨∃g cur t fz,v.ownBlock=I g∧base<=g∧w.heap[g]?=I (S cur t fz)∧t≠5∧t≠44:=by
 obtain⟨vs,_,h,_⟩:=h;rcases h.2with⟨rfl,_⟩|⟨g,cap,cur,rfl,hb,hg,_⟩;·exact .inl rfl
 ·exact .inr ⟨g,cur,_,_,rfl,hb,hg,i6,iX⟩
theorem ZJ.row0{base:Nat}{w:F}{v:H}{l:FL}(h:ZJ base w v l):v.ownBlock=G∨∃g cur t fz,v.ownBlock=I g∧0<=g∧w.heap[g]?=I (S cur t fz)∧t≠5∧t≠44:=by
 rcases h.row with h|⟨g,cur,t,fz,h1,_,h3⟩;·exact .inl h
 ·exact .inr ⟨g,cur,t,fz,h1,tQ _,h3⟩
theorem mH{base:Nat}{w:F}{r:Option Nat}(h:r=G∨∃g cur t fz,r=I g∧base<=g∧w.heap[g]?=I (S cur t fz)∧t≠5∧t≠44):r=G∨∃g cur t fz,r=I g∧base<=g∧w.heap[g]?=I (S cur t fz)∧t≠5:=by
 rcases h with h|⟨g,cur,t,fz,h1,h2,h3,h4,_⟩;·exact .inl h
 ·exact .inr ⟨g,cur,t,fz,h1,h2,h3,h4⟩
theorem ZJ.lt{base:Nat}{w:F}{v:H}{l:FL}(h:ZJ base w v l):∀k,v.ownBlock=I k->base<=k∧k<w.heap.size:=by
 obtain⟨vs,_,h,_⟩:=h;exact sH h
theorem ZJ.grownNone{base:Nat}{w w':F}{v:H}{l:FL}(h:ZJ base w v l)(hg:L w w' G):ZJ base w' v l:=by
 obtain⟨vs,h1,h2,h3⟩:=h;refine⟨vs,h1,tU h2 hg ?_,fun i hi=>⟨((h3 i hi).1).keptT hg (.inl rfl),((h3 i hi).2).kept hg (.inl rfl)⟩⟩;cases hv:v.ownBlock with|none=>exact .inl rfl|some k=>exact .inr (by simp)
theorem ZJ.alloc{base:Nat}{w:F}{v:H}{l:FL}(h:ZJ base w v l)(o:Obj):ZJ base (w.alloc o) v l:=h.grownNone (sM _ _ _)
theorem ZJ.shape{base:Nat}{w:F}{v:H}{l:FL}(h:ZJ base w v l):∃a cap,v=J a l.length cap:=by
 obtain⟨vs,_,h,_⟩:=h;rcases h.2with⟨rfl,h0⟩|⟨g,cap,cur,rfl,_⟩;·exact⟨G,0,by rw[h0]⟩
 ·exact⟨_,cap,rfl⟩
theorem ZJ.cells{base:Nat}{w:F}{g n cap:Nat}{vs:List (H×H)}{l:FL}(hr:w.ownsRow base 99 2 (J (I ⟨g,0,G⟩) n cap) l.length (flat vs)):∀j u,(flat vs)[j]?=I u->w.cell? ⟨g,j,G⟩=I u:=by
 intro j u hj;rcases hr.2with⟨e,_⟩|⟨g',cap',cur,e,hb,hg,hn,hm,hs,ht⟩;·cases e
 ·simp only[tG,tB,rP]at e;obtain⟨⟨rfl,_⟩,_,_⟩:=e;(have hlt:j<l.length*2:=by have:=(sI.1 hj).1;rw[hr.1]at this;exact this);(have e2:(cur.toList.take (l.length*2))[j]?=(flat vs)[j]?:=by rw[ht]);rw[sB,if_pos hlt,hj]at e2;simp[tS,hg];simpa using e2
theorem ZJ.list{base:Nat}{w:F}{v:H}{l:FL}(h:ZJ base w v l):ZG w v l:=by
 obtain⟨vs,hl,hr,h3⟩:=h;have hr':=hr;rcases hr.2with⟨rfl,h0⟩|⟨g,cap,cur,rfl,hb,hg,hn,hm,hs,ht⟩;·have:l=[]:=tJ h0;subst this;exact zR w
 ·refine⟨_,cap,rfl,hn,.inr ⟨g,0,rfl,fun i hi=>?_⟩⟩;have hf:=yM vs i (by omega);refine⟨(vs.getD i (sJ,sJ)).1,(vs.getD i (sJ,sJ)).2,?_,?_,(h3 i hi).1.1,(h3 i hi).2.list⟩;(·have:=ZJ.cells hr' _ _ hf.1;rw[sN];exact this);·have:=ZJ.cells hr' _ _ hf.2;rw[sN];exact this
theorem RG{base:Nat}{w W w1:F}{v:H}{l:FL}(h:L w W G)(ho:ZJ base W v l)(hb:w.heap.size<=base)(hg:L W w1 v.ownBlock):L w w1 G:=⟨hg.os.trans h.os,hg.tape.trans h.tape,hg.output.trans h.output,tN h.size hg.size,fun i hi hn=>(hg.block i (tH hi h.size) (fun e=>by
 have:=(ho.lt i e.symm).1;omega)).trans (h.block i hi hn)⟩
theorem TO:(M.info? 99).map (fun i=>(i.zero,i.size,i.bytes))=I (I (sQ #[J G 0 0,J G 0 0]),2,48):=by
 kernel_rfl
theorem kT{w:F}{o:rJ}{a:Act}{K:Act->F->Prop}{Q:Exit->Act->F->Prop}(s x:rH)(ho:o.op=.call {callee:=.builtin .append,args:=#[s,x],argTypes:=#[28,28]})(base:Nat)(v:H)(l:FL)(hs:a.eval s=v)(hown:ZJ base w v l)(vn vp:H)(t:Tn)(hk:Qj 0 w vn t.1)(hv:QP 0 w vp t.2)(nb:Nat)(hb:w.heap[nb]?=I (S #[vn,vp] 99))(hx:a.eval x=J (I ⟨nb,0,G⟩) 1 1)(hl:(l.length+1)*48<=140737488355328)(hbase:base<=w.heap.size)(h:∀v' w',ZJ base w' v' (l++[t])->L w w' v.ownBlock->K (a.put o.dst v') w'):o.wp M a w K Q:=by
 obtain⟨i0,hi,hz0,hz1,hz2⟩:=r8 TO;have hrow:=hown.row0;obtain⟨vs,hvl,hr,hp⟩:=hown;refine wp_append_lies w s x 28 ho base 99 i0 (sQ #[J G 0 0,J G 0 0]) 2 48 Tryz.underlying28 hi hz0 hz1 hz2 rfl (by decide) v l.length (flat vs) hs hr ⟨nb,0,G⟩ 1 1 (flat [(vn,vp)]) hx rfl (rA (cs:=#[vn,vp]) hb) ?_ (by omega) (by unfold pK;omega) hl hbase _ rfl ?_;·intro u hu;simp only[flat,tP,rG,rK,tK,tM,or_false]at hu;rcases hu with rfl|rfl;(·exact ZQ hk);·exact yY hv
 ·intro g cap w' h1 h2 _ _;refine h _ w' ⟨vs++[(vn,vp)],by simp[hvl],?_,?_⟩ h2;(·rw[Ki,tC];exact h1);·intro i hi;rw[Ju,Ju,hvl];by_cases hil:i<l.length;(·rw[if_pos hil,if_pos hil];exact⟨(hp i hil).1.keptT h2 (mH hrow),(hp i hil).2.kept h2 hrow⟩);·rw[if_neg hil,if_neg hil];(obtain rfl:i=l.length:=by simp at hi;omega);rw[oS];exact⟨hk.keptT h2 (mH hrow),hv.kept h2 hrow⟩
theorem Tw{w:F}{ops:Array rJ}{o:rJ}{a:Act}{K:Act->F->Prop}{Q:Exit->Act->F->Prop}{E:Prop}(hgd:o.guard=G)(s x:rH)(ho:o.op=.call {callee:=.builtin .append,args:=#[s,x],argTypes:=#[28,28]})(base:Nat)(v:H)(l:FL)(hs:a.eval s=v)(hown:ZJ base w v l)(vn vp:H)(t:Tn)(hk:Qj 0 w vn t.1)(hv:QP 0 w vp t.2)(nb:Nat)(hb:w.heap[nb]?=I (S #[vn,vp] 99))(hx:a.eval x=J (I ⟨nb,0,G⟩) 1 1)(hl:(l.length+1)*48<=140737488355328)(hbase:base<=w.heap.size)(h:∀v' w',ZJ base w' v' (l++[t])->L w w' v.ownBlock->K (a.put o.dst v') w'):if sD o (pF ops a.tmps)=N then Oper.wp M o a w K Q else E:=by
 have hw:sD o (pF ops a.tmps)=N:=by simp[sD,hgd]
 rw[if_pos hw];exact kT s x ho base v l hs hown vn vp t hk hv nb hb hx hl hbase h
theorem vM{w:F}{ops:Array rJ}{rest:List rJ}{o:rJ}{a:Act}{Q:Exit->Act->F->Prop}(hgd:o.guard=G)(s x:rH)(ho:o.op=.call {callee:=.builtin .append,args:=#[s,x],argTypes:=#[28,28]})(base:Nat)(v:H)(l:FL)(hs:a.eval s=v)(hown:ZJ base w v l)(vn vp:H)(t:Tn)(hk:Qj 0 w vn t.1)(hv:QP 0 w vp t.2)(nb:Nat)(hb:w.heap[nb]?=I (S #[vn,vp] 99))(hx:a.eval x=J (I ⟨nb,0,G⟩) 1 1)(hl:(l.length+1)*48<=140737488355328)(hbase:base<=w.heap.size)(h:∀v' w',ZJ base w' v' (l++[t])->L w w' v.ownBlock->wpList M ops Q rest (a.put o.dst v') w'):wpList M ops Q (o::rest) a w:=wpList_plain hgd fun _ hK=>kT s x ho base v l hs hown vn vp t hk hv nb hb hx hl hbase fun v' w' h1 h2=>hK _ _ (h v' w' h1 h2)
theorem Qk{w:F}{b i:Nat}{cs:Array H}{t:tW}{fz:Nat×Nat}{u:H}(h:w.heap[b]?=I (S cs t fz)):(tD w ⟨b,i,G⟩ u).heap[b]?=I (S (cs.setIfInBounds i u) t fz):=by
 simp only[tD,tV,if_true,h,rT];rfl
theorem Qy{w:F}{b c i:Nat}{o:Obj}{u:H}(h:w.heap[b]?=I o)(hne:b≠c):(tD w ⟨c,i,G⟩ u).heap[b]?=I o:=by
 simp only[tD,tV];rw[if_neg (fun e=>hne e.symm)];exact h
theorem Y0(w:F)(b i:Nat)(u:H):L w (tD w ⟨b,i,G⟩ u) (I b):=Qh (Qb w _) i u
theorem Qj.setOther{base:Nat}{w:F}{v:H}{bs:List UInt8}(h:Qj base w v bs){b i:Nat}{cs:Array H}{t:tW}{fz:Nat×Nat}(hb:w.heap[b]?=I (S cs t fz))(ht:t≠5)(hbb:base<=b)(u:H):Qj base (tD w ⟨b,i,G⟩ u) v bs:=h.keptT (Y0 w b i u) (.inr ⟨b,cs,t,fz,rfl,hbb,hb,ht⟩)
def Q6(rb pb:Nat)(w:F)(v:H)(l:List Zi):Prop:=∃us:List WV,us.map (·.1)=l∧w.ownsRow rb 172 4 v l.length (Jg us)∧∀x∈us,Qj pb w x.2.1 x.1.name∧Qj pb w x.2.2.1 x.1.key∧Qj pb w x.2.2.2 x.1.value
theorem XE(rb pb:Nat)(w:F):Q6 rb pb w (J G 0 0) []:=⟨[],rfl,sL _ _ _ _,fun x hx=>by
 simp at hx⟩
theorem Q6.row{rb pb:Nat}{w:F}{v:H}{l:List Zi}(h:Q6 rb pb w v l):v.ownBlock=G∨∃g cur fz,v.ownBlock=I g∧rb<=g∧w.heap[g]?=I (S cur 172 fz):=by
 obtain⟨us,_,h,_⟩:=h;rcases h.2with⟨rfl,_⟩|⟨g,cap,cur,rfl,hb,hg,_⟩;·exact .inl rfl
 ·exact .inr ⟨g,cur,_,rfl,hb,hg⟩
theorem Q6.lt{rb pb:Nat}{w:F}{v:H}{l:List Zi}(h:Q6 rb pb w v l):∀k,v.ownBlock=I k->rb<=k∧k<w.heap.size:=by
 obtain⟨us,_,h,_⟩:=h;exact sH h
theorem Q6.ne{rb pb:Nat}{w:F}{v:H}{l:List Zi}(h:Q6 rb pb w v l){b:Nat}{cs:Array H}{t:tW}{fz:Nat×Nat}(hb:w.heap[b]?=I (S cs t fz))(ht:t≠172):v.ownBlock≠I b:=by
 intro e;rcases h.row with h0|⟨g,cur,fz2,h1,_,h2⟩;·rw[h0]at e;cases e
 ·rw[h1]at e;cases e;rw[hb]at h2;simp only[tB,tX]at h2;exact ht h2.2.1
theorem Q6.kept{rb pb:Nat}{w w':F}{v:H}{l:List Zi}(h:Q6 rb pb w v l){row:Option Nat}(hg:L w w' row)(hne:v.ownBlock=G∨v.ownBlock≠row)(hrow:row=G∨∃g cur t fz,row=I g∧pb<=g∧w.heap[g]?=I (S cur t fz)∧t≠5):Q6 rb pb w' v l:=by
 obtain⟨us,h1,h2,h3⟩:=h;exact⟨us,h1,tU h2 hg hne,fun x hx=>⟨(h3 x hx).1.keptT hg hrow,(h3 x hx).2.1.keptT hg hrow,(h3 x hx).2.2.keptT hg hrow⟩⟩
theorem Q6.grownNone{rb pb:Nat}{w w':F}{v:H}{l:List Zi}(h:Q6 rb pb w v l)(hg:L w w' G):Q6 rb pb w' v l:=h.kept hg (by
 cases hv:v.ownBlock with|none=>exact .inl rfl|some k=>exact .inr (by simp)) (.inl rfl)
theorem Q6.setOther{rb pb:Nat}{w:F}{v:H}{l:List Zi}(h:Q6 rb pb w v l){b i:Nat}{cs:Array H}{t:tW}{fz:Nat×Nat}(hb:w.heap[b]?=I (S cs t fz))(ht:t≠5)(ht2:t≠172)(hbb:pb<=b)(u:H):Q6 rb pb (tD w ⟨b,i,G⟩ u) v l:=h.kept (Y0 w b i u) (.inr (h.ne hb ht2)) (.inr ⟨b,cs,t,fz,rfl,hbb,hb,ht⟩)
theorem Q6.shape{rb pb:Nat}{w:F}{v:H}{l:List Zi}(h:Q6 rb pb w v l):∃a cap,v=J a l.length cap:=by
 obtain⟨us,_,h,_⟩:=h;rcases h.2with⟨rfl,h0⟩|⟨g,cap,cur,rfl,_⟩;·exact⟨G,0,by rw[h0]⟩
 ·exact⟨_,cap,rfl⟩
theorem Q6.any{rb pb:Nat}{w:F}{v:H}{l:List Zi}(h:Q6 rb pb w v l):∃a n cap,v=J a n cap:=by
 obtain⟨a,cap,e⟩:=h.shape;exact⟨a,_,cap,e⟩
theorem Q6.down{rb pb:Nat}{w:F}{v:H}{l:List Zi}(h:Q6 rb pb w v l)(rb':Nat)(hb:rb'<=rb):Q6 rb' pb w v l:=by
 obtain⟨us,h1,h2,h3⟩:=h;refine⟨us,h1,⟨h2.1,?_⟩,h3⟩;rcases h2.2with h|⟨g,cap,cur,e,hb2,rest⟩;·exact .inl h
 ·exact .inr ⟨g,cap,cur,e,tN hb hb2,rest⟩
theorem Q6.writesB{rb pb:Nat}{w:F}{v:H}{l:List Zi}(h:Q6 rb pb w v l):Xx pb w v l:=by
 obtain⟨us,hl,hr,h3⟩:=h;rcases hr.2with⟨rfl,h0⟩|⟨g,cap,cur,rfl,hb,hg,hn,hm,hs,ht⟩;·have:l=[]:=tJ h0;rw[this];exact CD pb w
 ·(have hcell:∀j u,(Jg us)[j]?=I u->w.cell? ⟨g,j,G⟩=I u:=by intro j u hj;(have hlt:j<l.length*4:=by have:=(sI.1 hj).1;rw[hr.1]at this;exact this);(have e2:(cur.toList.take (l.length*4))[j]?=(Jg us)[j]?:=by rw[ht]);rw[sB,if_pos hlt,hj]at e2;simp[tS,hg];simpa using e2);refine⟨_,cap,rfl,hn,.inr ⟨g,0,rfl,.inr ⟨_,_,hg⟩,fun i hi=>?_⟩⟩;obtain⟨e1,e2⟩:=W9 hl i hi;(have hlen:us.length=l.length:=by rw[<-hl];simp);obtain⟨c1,c2,c3,c4⟩:=Mv us i (by omega);have hp:=h3 _ e2;rw[e1]at c3 hp;rw[sN];exact⟨_,_,_,hcell _ _ c1,hcell _ _ c2,hcell _ _ c3,hcell _ _ c4,hp.1,hp.2.1,hp.2.2⟩
theorem Q6.list{rb pb:Nat}{w:F}{v:H}{l:List Zi}(h:Q6 rb pb w v l):QS w v l:=h.writesB.list
theorem Gx{rb pb:Nat}{w W w1:F}{v:H}{l:List Zi}(h:L w W G)(ho:Q6 rb pb W v l)(hb:w.heap.size<=rb)(hg:L W w1 v.ownBlock):L w w1 G:=⟨hg.os.trans h.os,hg.tape.trans h.tape,hg.output.trans h.output,tN h.size hg.size,fun i hi hn=>(hg.block i (tH hi h.size) (fun e=>by
 have:=(ho.lt i e.symm).1;omega)).trans (h.block i hi hn)⟩
def En(w:F)(b o:Nat)(r:Rd):Prop:=∃vn vk vl,w.cell? ⟨b,o,G⟩=I vn∧w.cell? ⟨b,o+1,G⟩=I vk∧w.cell? ⟨b,o+2,G⟩=I (tL r.wide)∧w.cell? ⟨b,o+3,G⟩=I vl∧Qe w vn r.name∧Qe w vk r.key∧Qe w vl r.last
theorem En.grown{w w':F}{b o:Nat}{r:Rd}(h:En w b o r)(hg:L w w' G):En w' b o r:=by
 obtain⟨vn,vk,vl,c1,c2,c3,c4,h1,h2,h3⟩:=h;exact⟨vn,vk,vl,hg.cell c1 (by simp),hg.cell c2 (by simp),hg.cell c3 (by simp),hg.cell c4 (by simp),h1.grown hg,h2.grown hg,h3.grown hg⟩
def Xf(w:F)(v:H)(l:List Rd):Prop:=∃a cap,v=J a l.length cap∧l.length<=cap∧((l=[]∧(a=G->cap=0))∨∃b o,a=I ⟨b,o,G⟩∧∀i,i<l.length->En w b (o+i*4) (l.getD i Zh))
theorem BE(w:F):Xf w (J G 0 0) []:=⟨G,0,rfl,sA _,.inl ⟨rfl,fun _=>rfl⟩⟩
theorem Xf.shape{w:F}{v:H}{l:List Rd}(h:Xf w v l):∃a cap,v=J a l.length cap:=by
 obtain⟨a,cap,rfl,_⟩:=h;exact⟨a,cap,rfl⟩
theorem Xf.grown{w w':F}{v:H}{l:List Rd}(h:Xf w v l)(hg:L w w' G):Xf w' v l:=by
 obtain⟨a,cap,rfl,hc,h⟩:=h;refine⟨a,cap,rfl,hc,?_⟩;rcases h with h|⟨b,o,rfl,h⟩;·exact .inl h
 ·exact .inr ⟨b,o,rfl,fun i hi=>(h i hi).grown hg⟩
theorem Xf.at{w:F}{a:Option rC}{n cap:Nat}{l:List Rd}(h:Xf w (J a n cap) l)(i:Nat)(hi:i<l.length):∃b o,a=I ⟨b,o,G⟩∧En w b (o+i*4) (l.getD i Zh):=by
 obtain⟨a',cap',e,hc,h⟩:=h;simp only[tG]at e;obtain⟨rfl,rfl,rfl⟩:=e;rcases h with⟨rfl,_⟩|⟨b,o,rfl,h⟩;·simp at hi
 ·exact⟨b,o,rfl,h i hi⟩
structure nF (l : List Rd) : Prop where
  many : l.length * 80 <= 140737488355328
  each : ∀ i, i < l.length -> Fu (l.getD i Zh)
structure yG (t : Tx) : Prop where
  start : -9223372036854775808 <= t.start ∧ t.start <= 9223372036854775807
  reads : nF t.reads
  writes : vC t.writes
def qT(w:F)(v:H)(t:Tx):Prop:=∃vr vw,v=sQ #[Y tA t.start,vr,vw]∧Xf w vr t.reads∧QS w vw t.writes
theorem qT.grown{w w':F}{v:H}{t:Tx}(h:qT w v t)(hg:L w w' G):qT w' v t:=by
 obtain⟨vr,vw,rfl,h1,h2⟩:=h;exact⟨vr,vw,rfl,h1.grown hg,h2.grown hg⟩
theorem qT.agg{w:F}{v:H}{t:Tx}(h:qT w v t):∃ra rc wa wc,v=sQ #[Y tA t.start,J ra t.reads.length rc,J wa t.writes.length wc]:=by
 obtain⟨vr,vw,rfl,h1,h2⟩:=h;obtain⟨ra,rc,rfl⟩:=h1.shape;obtain⟨wa,wc,rfl⟩:=h2.shape;exact⟨ra,rc,wa,wc,rfl⟩
theorem qT.parts{w:F}{t:Tx}{x y z:H}(h:qT w (sQ #[x,y,z]) t):x=Y tA t.start∧Xf w y t.reads∧QS w z t.writes:=by
 obtain⟨vr,vw,e,h1,h2⟩:=h;simp only[Value.agg.injEq,Array.mk.injEq,List.cons.injEq,and_true]at e;obtain⟨rfl,rfl,rfl⟩:=e;exact⟨rfl,h1,h2⟩
theorem Fj{r:Rd}(h:XM r=0):Fu r:=by
 obtain⟨h1,h2,h3⟩:=(Ni r).1 h;refine⟨by omega,by omega,?_⟩;split at h3;·omega
 ·rw[h3];simp
abbrev RV:=Rd×H×H×H
def AG:RV:=(Zh,sJ,sJ,sJ)
def GY(us:List RV):List H:=us.flatMap fun x=>[x.2.1,x.2.2.1,tL x.1.wide,x.2.2.2]
theorem MI(a b:List RV):GY (a++b)=GY a++GY b:=by
 simp[GY]
theorem N4:∀(us:List RV)(i:Nat),i<us.length->(GY us)[i*4]?=I (us.getD i AG).2.1∧(GY us)[i*4+1]?=I (us.getD i AG).2.2.1∧(GY us)[i*4+2]?=I (tL (us.getD i AG).1.wide)∧(GY us)[i*4+3]?=I (us.getD i AG).2.2.2|[],i,h=>by simp at h|x::us,0,_=>⟨rfl,rfl,rfl,rfl⟩|x::us,i+1,h=>by have:=N4 us i (by simpa using h);rw[show(i+1)*4=i*4+4by omega];exact this
theorem mM:(191:Nat)≠5:=by
 decide
theorem mZ:(191:Nat)≠172:=by
 decide
def ZW(rb pb:Nat)(w:F)(v:H)(l:List Rd):Prop:=∃us:List RV,us.map (·.1)=l∧w.ownsRow rb 191 4 v l.length (GY us)∧∀x∈us,Qj pb w x.2.1 x.1.name∧Qj pb w x.2.2.1 x.1.key∧Qj pb w x.2.2.2 x.1.last
theorem UF(rb pb:Nat)(w:F):ZW rb pb w (J G 0 0) []:=⟨[],rfl,sL _ _ _ _,fun x hx=>by
 simp at hx⟩
theorem ZW.row{rb pb:Nat}{w:F}{v:H}{l:List Rd}(h:ZW rb pb w v l):v.ownBlock=G∨∃g cur fz,v.ownBlock=I g∧rb<=g∧w.heap[g]?=I (S cur 191 fz):=by
 obtain⟨us,_,h,_⟩:=h;rcases h.2with⟨rfl,_⟩|⟨g,cap,cur,rfl,hb,hg,_⟩;·exact .inl rfl
 ·exact .inr ⟨g,cur,_,rfl,hb,hg⟩
theorem ZW.lt{rb pb:Nat}{w:F}{v:H}{l:List Rd}(h:ZW rb pb w v l):∀k,v.ownBlock=I k->rb<=k∧k<w.heap.size:=by
 obtain⟨us,_,h,_⟩:=h;exact sH h
theorem ZW.ne{rb pb:Nat}{w:F}{v:H}{l:List Rd}(h:ZW rb pb w v l){b:Nat}{cs:Array H}{t:tW}{fz:Nat×Nat}(hb:w.heap[b]?=I (S cs t fz))(ht:t≠191):v.ownBlock≠I b:=by
 intro e;rcases h.row with h0|⟨g,cur,fz2,h1,_,h2⟩;·rw[h0]at e;cases e
 ·rw[h1]at e;cases e;rw[hb]at h2;simp only[tB,tX]at h2;exact ht h2.2.1
theorem ZW.kept{rb pb:Nat}{w w':F}{v:H}{l:List Rd}(h:ZW rb pb w v l){row:Option Nat}(hg:L w w' row)(hne:v.ownBlock=G∨v.ownBlock≠row)(hrow:row=G∨∃g cur t fz,row=I g∧pb<=g∧w.heap[g]?=I (S cur t fz)∧t≠5):ZW rb pb w' v l:=by
 obtain⟨us,h1,h2,h3⟩:=h;exact⟨us,h1,tU h2 hg hne,fun x hx=>⟨(h3 x hx).1.keptT hg hrow,(h3 x hx).2.1.keptT hg hrow,(h3 x hx).2.2.keptT hg hrow⟩⟩
theorem ZW.grownNone{rb pb:Nat}{w w':F}{v:H}{l:List Rd}(h:ZW rb pb w v l)(hg:L w w' G):ZW rb pb w' v l:=h.kept hg (by
 cases hv:v.ownBlock with|none=>exact .inl rfl|some k=>exact .inr (by simp)) (.inl rfl)
theorem ZW.setOther{rb pb:Nat}{w:F}{v:H}{l:List Rd}(h:ZW rb pb w v l){b i:Nat}{cs:Array H}{t:tW}{fz:Nat×Nat}(hb:w.heap[b]?=I (S cs t fz))(ht:t≠5)(ht2:t≠191)(hbb:pb<=b)(u:H):ZW rb pb (tD w ⟨b,i,G⟩ u) v l:=h.kept (Y0 w b i u) (.inr (h.ne hb ht2)) (.inr ⟨b,cs,t,fz,rfl,hbb,hb,ht⟩)
theorem ZW.down{rb pb:Nat}{w:F}{v:H}{l:List Rd}(h:ZW rb pb w v l)(rb':Nat)(hb:rb'<=rb):ZW rb' pb w v l:=by
 obtain⟨us,h1,h2,h3⟩:=h;refine⟨us,h1,⟨h2.1,?_⟩,h3⟩;rcases h2.2with h|⟨g,cap,cur,e,hb2,rest⟩;·exact .inl h
 ·exact .inr ⟨g,cap,cur,e,tN hb hb2,rest⟩
theorem ZW.shape{rb pb:Nat}{w:F}{v:H}{l:List Rd}(h:ZW rb pb w v l):∃a cap,v=J a l.length cap:=by
 obtain⟨us,_,h,_⟩:=h;rcases h.2with⟨rfl,h0⟩|⟨g,cap,cur,rfl,_⟩;·exact⟨G,0,by rw[h0]⟩
 ·exact⟨_,cap,rfl⟩
theorem I7{us:List RV}{l:List Rd}(h:us.map (·.1)=l)(i:Nat)(hi:i<l.length):(us.getD i AG).1=l.getD i Zh∧us.getD i AG∈us:=by
 subst h;have hi':i<us.length:=by simpa using hi
 refine⟨by simp[hi'],?_⟩;rw[show us.getD i AG=us[i]by simp[hi']];exact sP hi'
theorem ZW.list{rb pb:Nat}{w:F}{v:H}{l:List Rd}(h:ZW rb pb w v l):Xf w v l:=by
 obtain⟨us,hl,hr,h3⟩:=h;rcases hr.2with⟨rfl,h0⟩|⟨g,cap,cur,rfl,hb,hg,hn,hm,hs,ht⟩;·have:l=[]:=tJ h0;rw[this];exact BE w
 ·(have hcell:∀j u,(GY us)[j]?=I u->w.cell? ⟨g,j,G⟩=I u:=by intro j u hj;(have hlt:j<l.length*4:=by have:=(sI.1 hj).1;rw[hr.1]at this;exact this);(have e2:(cur.toList.take (l.length*4))[j]?=(GY us)[j]?:=by rw[ht]);rw[sB,if_pos hlt,hj]at e2;simp[tS,hg];simpa using e2);refine⟨_,cap,rfl,hn,.inr ⟨g,0,rfl,fun i hi=>?_⟩⟩;obtain⟨e1,e2⟩:=I7 hl i hi;(have hlen:us.length=l.length:=by rw[<-hl];simp);obtain⟨c1,c2,c3,c4⟩:=N4 us i (by omega);have hp:=h3 _ e2;rw[e1]at c3 hp;rw[sN];exact⟨_,_,_,hcell _ _ c1,hcell _ _ c2,hcell _ _ c3,hcell _ _ c4,hp.1.1,hp.2.1.1,hp.2.2.1⟩
theorem Rs{rb pb:Nat}{w W w1:F}{v:H}{l:List Rd}(h:L w W G)(ho:ZW rb pb W v l)(hb:w.heap.size<=rb)(hg:L W w1 v.ownBlock):L w w1 G:=⟨hg.os.trans h.os,hg.tape.trans h.tape,hg.output.trans h.output,tN h.size hg.size,fun i hi hn=>(hg.block i (tH hi h.size) (fun e=>by
 have:=(ho.lt i e.symm).1;omega)).trans (h.block i hi hn)⟩
theorem mJ:(M.info? 191).map (fun i=>(i.zero,i.size,i.bytes))=I (I (sQ #[J G 0 0,J G 0 0,tL O,J G 0 0]),4,80):=by
 kernel_rfl
def qO(w:F)(v:H)(t:Tx):Prop:=∃vr vw,v=sQ #[Y tA t.start,vr,vw]∧ZW 0 0 w vr t.reads∧Q6 0 0 w vw t.writes
theorem qO.is{w:F}{v:H}{t:Tx}(h:qO w v t):qT w v t:=by
 obtain⟨vr,vw,rfl,h1,h2⟩:=h;exact⟨vr,vw,rfl,h1.list,h2.list⟩
theorem yE(w:F):qO w (sQ #[Y tA 0,J G 0 0,J G 0 0]) To:=⟨_,_,rfl,UF 0 0 w,XE 0 0 w⟩
def Ez(w:F)(b o:Nat)(s:Vw):Prop:=∃vo,w.cell? ⟨b,o,G⟩=I (Y tA s.bit)∧w.cell? ⟨b,o+1,G⟩=I (tL s.right)∧w.cell? ⟨b,o+2,G⟩=I vo∧Qe w vo s.other
theorem Ez.grown{w w':F}{b o:Nat}{s:Vw}(h:Ez w b o s)(hg:L w w' G):Ez w' b o s:=by
 obtain⟨vo,c1,c2,c3,h1⟩:=h;exact⟨vo,hg.cell c1 (by simp),hg.cell c2 (by simp),hg.cell c3 (by simp),h1.grown hg⟩
def JG(w:F)(v:H)(l:List Vw):Prop:=∃a cap,v=J a l.length cap∧l.length<=cap∧((l=[]∧(a=G->cap=0))∨∃b o,a=I ⟨b,o,G⟩∧∀i,i<l.length->Ez w b (o+i*3) (l.getD i QW))
theorem Bu(w:F):JG w (J G 0 0) []:=⟨G,0,rfl,sA _,.inl ⟨rfl,fun _=>rfl⟩⟩
theorem JG.grown{w w':F}{v:H}{l:List Vw}(h:JG w v l)(hg:L w w' G):JG w' v l:=by
 obtain⟨a,cap,rfl,hc,h⟩:=h;refine⟨a,cap,rfl,hc,?_⟩;rcases h with h|⟨b,o,rfl,h⟩;·exact .inl h
 ·exact .inr ⟨b,o,rfl,fun i hi=>(h i hi).grown hg⟩
theorem JG.shape{w:F}{v:H}{l:List Vw}(h:JG w v l):∃a cap,v=J a l.length cap:=by
 obtain⟨a,cap,rfl,_⟩:=h;exact⟨a,cap,rfl⟩
theorem JG.at{w:F}{a:Option rC}{n cap:Nat}{l:List Vw}(h:JG w (J a n cap) l)(i:Nat)(hi:i<l.length):∃b o,a=I ⟨b,o,G⟩∧Ez w b (o+i*3) (l.getD i QW):=by
 obtain⟨a',cap',e,hc,h⟩:=h;simp only[tG]at e;obtain⟨rfl,rfl,rfl⟩:=e;rcases h with⟨rfl,_⟩|⟨b,o,rfl,h⟩;·simp at hi
 ·exact⟨b,o,rfl,h i hi⟩
def Xy(w:F)(v:H)(p:GI):Prop:=∃vs vk vv,v=sQ #[tL p.empty,vs,vk,vv]∧JG w vs p.steps∧Qe w vk p.pair.1∧Qe w vv p.pair.2
theorem Xy.grown{w w':F}{v:H}{p:GI}(h:Xy w v p)(hg:L w w' G):Xy w' v p:=by
 obtain⟨vs,vk,vv,rfl,h0,h1,h2⟩:=h;exact⟨vs,vk,vv,rfl,h0.grown hg,h1.grown hg,h2.grown hg⟩
def jL(p:GI):Prop:=p.steps.length*40<=140737488355328∧(∀i,i<p.steps.length->(-9223372036854775808<=(p.steps.getD i QW).bit∧(p.steps.getD i QW).bit<=9223372036854775807)∧(p.steps.getD i QW).other.length<=140737488355328)∧p.pair.1.length<=140737488355328∧p.pair.2.length<=140737488355328
theorem Zk{w:F}{b:Nat}{x y:H}{t:tW}(h:w.heap[b]?=I (S #[x,y] t)):w.cell? ⟨b,0,G⟩=I x∧w.cell? ⟨b,1,G⟩=I y∧w.frozen? ⟨b,0,G⟩=O∧w.frozen? ⟨b,1,G⟩=O:=by
 refine⟨?_,?_,?_,?_⟩<;>simp[tS,pA,h]
theorem zJ{w:F}{b:Nat}{x y:H}{t:tW}(h:w.heap[b]?=I (S #[x,y] t))(u v:H):((tD w ⟨b,0,G⟩ u).setCell ⟨b,1,G⟩ v).heap[b]?=I (S #[u,v] t):=by
 have h0:(tD w ⟨b,0,G⟩ u).heap[b]?=I (S #[u,y] t):=by simp only[tD,tV,if_true,h,rT];first|rfl|simp
 rw[tD,tV,if_pos rfl,h0];first|rfl|simp
theorem Ya{w:F}{b:Nat}{x y z:H}{t:tW}(h:w.heap[b]?=I (S #[x,y,z] t)):(w.cell? ⟨b,0,G⟩=I x∧w.cell? ⟨b,1,G⟩=I y∧w.cell? ⟨b,2,G⟩=I z)∧w.frozen? ⟨b,0,G⟩=O∧w.frozen? ⟨b,1,G⟩=O∧w.frozen? ⟨b,2,G⟩=O:=by
 refine⟨⟨?_,?_,?_⟩,?_,?_,?_⟩<;>simp[tS,pA,h]
theorem NJ{w:F}{b:Nat}{x y z:H}{t:tW}(h:w.heap[b]?=I (S #[x,y,z] t))(x' y' z':H):(((tD w ⟨b,0,G⟩ x').setCell ⟨b,1,G⟩ y').setCell ⟨b,2,G⟩ z').heap[b]?=I (S #[x',y',z'] t):=by
 have h0:(tD w ⟨b,0,G⟩ x').heap[b]?=I (S #[x',y,z] t):=by simp only[tD,tV,if_true,h,rT];first|rfl|simp
 have h1:((tD w ⟨b,0,G⟩ x').setCell ⟨b,1,G⟩ y').heap[b]?=I (S #[x',y',z] t):=by rw[tD,tV,if_pos rfl,h0];first|rfl|simp
 rw[tD,tV,if_pos rfl,h1];first|rfl|simp
theorem FY{w w1:F}(h:L w w1 G)(b:Nat)(hb:w.heap.size<=b)(x y z:H):L w (((tD w1 ⟨b,0,G⟩ x).setCell ⟨b,1,G⟩ y).setCell ⟨b,2,G⟩ z) G:=Qc (Qc (Qc h _ hb _ _) _ hb _ _) _ hb _ _
theorem V3{w w1:F}(h:L w w1 G)(b:Nat)(hb:w.heap.size<=b)(x y:H):L w ((tD w1 ⟨b,0,G⟩ x).setCell ⟨b,1,G⟩ y) G:=Qc (Qc h _ hb _ _) _ hb _ _
def l9(w:F)(b:Nat):Prop:=∃cur t fz,w.heap[b]?=I (S cur t fz)∧(t=5∨∃q,cur[0]?=I (Y pE q))
def kD(w:F)(b:Nat):Prop:=∃cur t fz,w.heap[b]?=I (S cur t fz)∧t≠5∧∀q,cur[0]?≠I (Y pE q)
theorem l9.ne{w:F}{a b:Nat}(h:l9 w a)(h':kD w b):a≠b:=by
 rintro rfl;obtain⟨cur,t,fz,h1,h2⟩:=h;obtain⟨cur',t',fz',h3,h4,h5⟩:=h';rw[h1]at h3;simp only[tB,tX]at h3;obtain⟨rfl,rfl,_⟩:=h3;rcases h2 with h2|⟨q,h2⟩;·exact h4 h2
 ·exact h5 q h2
theorem kD.grown{w w':F}{b:Nat}(h:kD w b)(hg:L w w' G):kD w' b:=by
 obtain⟨cur,t,fz,h1,h2⟩:=h;exact⟨cur,t,fz,by rw[hg.block b (tI.1 h1).1 (by simp)];exact h1,h2⟩
theorem kD.set{w:F}{c:Nat}(h:kD w c)(i:Nat)(u:H)(hu:∀q,u≠Y pE q):kD (tD w ⟨c,i,G⟩ u) c:=by
 obtain⟨cur,t,fz,h1,h2,h3⟩:=h;refine⟨cur.setIfInBounds i u,t,fz,?_,h2,fun q hq=>?_⟩;·simp only[tD,tV,if_true,h1,rT];first|rfl|simp
 ·rw[Array.getElem?_setIfInBounds]at hq;split at hq;(·split at hq;(·simp at hq;exact hu q hq);·cases hq);·exact h3 q hq
theorem DA{w:F}{c:Nat}{x:H}{xs:List H}{t:tW}{fz:Nat×Nat}(h:w.heap[c]?=I (S ⟨x::xs⟩ t fz))(ht:t≠5)(hx:∀q,x≠Y pE q):kD w c:=⟨_,t,fz,h,ht,fun q hq=>by
 simp at hq;exact hx q hq⟩
def Yb(w:F)(v:H)(bs:List UInt8):Prop:=Qe w v bs∧(bs=[]∨∃b,v.ownBlock=I b∧b<w.heap.size∧l9 w b)
theorem mS:(122:Nat)≠5:=by
 decide
theorem UT(w:F):Yb w (J G 0 0) []:=⟨Qz _,.inl rfl⟩
theorem Za.partS{base':Nat}{w:F}{v:H}{bs:List UInt8}(h:Za base' w v bs):Yb w v bs:=by
 refine⟨h.slice,?_⟩;rcases h.2with⟨rfl,h0⟩|⟨g,cap,cur,rfl,hb,hg,_⟩;·exact .inl (tJ h0)
 ·exact .inr ⟨g,rfl,(tI.1 hg).1,cur,_,_,hg,.inl rfl⟩
theorem ZS.partS{w:F}{nb:Nat}{bs:List UInt8}(h:ZS w nb bs)(hl:bs.length=32):Yb w (J (I ⟨nb,0,G⟩) 32 32) bs:=by
 refine⟨h.slice32 hl,.inr ⟨nb,rfl,UO (h.cell 0 (by omega)),?_⟩⟩;have hc:=h.cell 0 (by omega);obtain⟨t,hb⟩:=h;refine⟨_,t,_,hb,.inr ⟨((bs.getD 0 0).toNat:Int),?_⟩⟩;·simpa[tS,hb]using hc
theorem Nc{w:F}{v:H}{bs:List UInt8}(h:Yb w v bs):v.oneCell'=N:=by
 obtain⟨⟨a,cap,rfl,_⟩,_⟩:=h;rfl
def nA(w:F)(row:Option Nat):Prop:=row=G∨∃g,row=I g∧kD w g
theorem Yb.kept{w w':F}{v:H}{bs:List UInt8}(h:Yb w v bs){row:Option Nat}(hg:L w w' row)(hrow:nA w row):Yb w' v bs:=by
 obtain⟨hs,ho⟩:=h;rcases ho with rfl|⟨b,hb,hlt,hc⟩;·obtain⟨a,cap,rfl,hc,h⟩:=hs;refine⟨⟨a,cap,rfl,hc,?_⟩,.inl rfl⟩;rcases h with h|⟨b,o,rfl,h⟩;(·exact .inl h);·exact .inr ⟨b,o,rfl,fun i hi=>by simp at hi⟩
 ·(have hne:I b≠row:=by intro e;rcases hrow with rfl|⟨g,rfl,hg'⟩;(·cases e);·cases e;exact hc.ne hg' rfl);have hblk:=hg.block b hlt hne;refine⟨?_,.inr ⟨b,hb,tH hlt hg.size,?_⟩⟩;(·obtain⟨a,cap,rfl,hcp,h⟩:=hs;refine⟨a,cap,rfl,hcp,?_⟩;rcases h with h|⟨b',o,rfl,h⟩;(·exact .inl h);·refine .inr ⟨b',o,rfl,fun i hi=>?_⟩;simp[pL]at hb;subst hb;exact hg.cell (h i hi) (by simpa using hne));·obtain⟨cur,t,fz,hc,hc2⟩:=hc;exact⟨cur,t,fz,by rw[hblk];exact hc,hc2⟩
theorem Yb.grown{w w':F}{v:H}{bs:List UInt8}(h:Yb w v bs)(hg:L w w' G):Yb w' v bs:=h.kept hg (.inl rfl)
theorem Yb.set{w:F}{v:H}{bs:List UInt8}(h:Yb w v bs){c:Nat}(hc:kD w c)(i:Nat)(u:H):Yb (tD w ⟨c,i,G⟩ u) v bs:=h.kept (Qh (Qb _ (I c)) i u) (.inr ⟨c,rfl,hc⟩)
abbrev SV:=Vw×H
def WX:SV:=(QW,sJ)
def UA(us:List SV):List H:=us.flatMap fun x=>[Y tA x.1.bit,tL x.1.right,x.2]
theorem DH(a b:List SV):UA (a++b)=UA a++UA b:=by
 simp[UA]
theorem MD:∀(us:List SV)(i:Nat),i<us.length->(UA us)[i*3]?=I (Y tA (us.getD i WX).1.bit)∧(UA us)[i*3+1]?=I (tL (us.getD i WX).1.right)∧(UA us)[i*3+2]?=I (us.getD i WX).2|[],i,h=>by simp at h|x::r,0,_=>by simp[UA]|x::r,i+1,h=>by have:=MD r i (by simpa using h);rw[show(i+1)*3=i*3+3by omega,show i*3+3+1=(i*3+1)+3by omega,show i*3+3+2=(i*3+2)+3by omega];simpa[UA]using this
theorem Ih(us:List SV):∀u∈UA us,(∀x∈us,x.2.oneCell'=N)->u.oneCell'=N:=by
 intro u hu h;obtain⟨x,hx,hu⟩:=List.mem_flatMap.1 hu;simp only[tK,tM,or_false]at hu;rcases hu with rfl|rfl|rfl;·rfl
 ·rfl
 ·exact h x hx
def Ka(base:Nat)(w:F)(v:H)(l:List Vw):Prop:=∃us:List SV,us.map (·.1)=l∧w.ownsRow base 122 3 v l.length (UA us)∧(∀x∈us,Yb w x.2 x.1.other)∧(l=[]->v=J G 0 0)
theorem vS(base:Nat)(w:F):Ka base w (J G 0 0) []:=⟨[],rfl,sL _ _ _ _,fun x hx=>by
 simp at hx,fun _=>rfl⟩
theorem Ka.row{base:Nat}{w:F}{v:H}{l:List Vw}(h:Ka base w v l):nA w v.ownBlock:=by
 obtain⟨us,hm,h,_,h0⟩:=h;cases l with|nil=>rw[h0 rfl];exact .inl rfl|cons x r=>rcases h.2with⟨rfl,_⟩|⟨g,cap,cur,rfl,hb,hg,hn,_,_,ht⟩;(·exact .inl rfl);·refine .inr ⟨g,rfl,cur,_,_,hg,mS,fun q=>?_⟩;cases us with|nil=>simp at hm|cons u us=>simp only[List.map_cons,List.cons.injEq]at hm;(have e:(cur.toList.take ((x::r).length*3))[0]?=(UA (u::us))[0]?:=by rw[ht]);rw[sB,if_pos (by simp)]at e;rw[<-pD,e];simp[UA]
theorem Ka.lt{base:Nat}{w:F}{v:H}{l:List Vw}(h:Ka base w v l):∀k,v.ownBlock=I k->base<=k∧k<w.heap.size:=by
 obtain⟨us,_,h,_⟩:=h;exact sH h
theorem Ka.grownNone{base:Nat}{w w':F}{v:H}{l:List Vw}(h:Ka base w v l)(hg:L w w' G):Ka base w' v l:=by
 obtain⟨us,h1,h2,h3,h4⟩:=h;refine⟨us,h1,tU h2 hg ?_,fun x hx=>(h3 x hx).grown hg,h4⟩;cases hv:v.ownBlock with|none=>exact .inl rfl|some k=>exact .inr (by simp)
theorem Ka.alloc{base:Nat}{w:F}{v:H}{l:List Vw}(h:Ka base w v l)(o:Obj):Ka base (w.alloc o) v l:=h.grownNone (sM _ _ _)
theorem Ka.shape{base:Nat}{w:F}{v:H}{l:List Vw}(h:Ka base w v l):∃a cap,v=J a l.length cap:=by
 obtain⟨us,_,h,_⟩:=h;rcases h.2with⟨rfl,h0⟩|⟨g,cap,cur,rfl,_⟩;·exact⟨G,0,by rw[h0]⟩
 ·exact⟨_,cap,rfl⟩
theorem Ka.cells{base:Nat}{w:F}{g n cap:Nat}{us:List SV}{k:Nat}(hr:w.ownsRow base 122 3 (J (I ⟨g,0,G⟩) n cap) k (UA us)):∀j u,(UA us)[j]?=I u->w.cell? ⟨g,j,G⟩=I u:=by
 intro j u hj;rcases hr.2with⟨e,_⟩|⟨g',cap',cur,e,hb,hg,hn,hm,hs,ht⟩;·cases e
 ·simp only[tG,tB,rP]at e;obtain⟨⟨rfl,_⟩,_,_⟩:=e;(have hlt:j<k*3:=by have:=(sI.1 hj).1;rw[hr.1]at this;exact this);(have e2:(cur.toList.take (k*3))[j]?=(UA us)[j]?:=by rw[ht]);rw[sB,if_pos hlt,hj]at e2;simp[tS,hg];simpa using e2
theorem cU{us:List SV}{l:List Vw}(h:us.map (·.1)=l)(i:Nat)(hi:i<l.length):(us.getD i WX).1=l.getD i QW∧us.getD i WX∈us:=by
 subst h;have hi':i<us.length:=by simpa using hi
 constructor;·simp[hi']
 ·rw[show us.getD i WX=us[i]by simp[hi']];exact sP _
theorem Ka.list{base:Nat}{w:F}{v:H}{l:List Vw}(h:Ka base w v l):JG w v l:=by
 obtain⟨us,hl,hr,h3,_⟩:=h;have hul:us.length=l.length:=by rw[<-hl];simp
 rcases hr.2with⟨rfl,h0⟩|⟨g,cap,cur,rfl,hb,hg,hn,hm,hs,ht⟩;·have:l=[]:=tJ h0;subst this;exact Bu w
 ·refine⟨_,cap,rfl,hn,.inr ⟨g,0,rfl,fun i hi=>?_⟩⟩;obtain⟨e1,e2⟩:=cU hl i hi;obtain⟨c1,c2,c3⟩:=MD us i (by omega);have hp:=h3 _ e2;rw[e1]at c1 c2 hp;rw[sN];exact⟨_,Ka.cells hr _ _ c1,Ka.cells hr _ _ c2,Ka.cells hr _ _ c3,hp.1⟩
theorem Ka.set{base:Nat}{w:F}{v:H}{l:List Vw}(h:Ka base w v l){c:Nat}(hc:kD w c)(hne:c<base)(i:Nat)(u:H):Ka base (tD w ⟨c,i,G⟩ u) v l:=by
 have hlt:=h.lt;obtain⟨us,h1,h2,h3,h4⟩:=h;refine⟨us,h1,tU h2 (Qh (Qb _ (I c)) i u) ?_,fun x hx=>(h3 x hx).set hc i u,h4⟩;cases hv:v.ownBlock with|none=>exact .inl rfl|some k=>exact .inr (by have:=(hlt k hv).1;simp;omega)
theorem lQ:(46:Nat)≠5:=by
 decide
theorem nE:(44:Nat)≠5:=by
 decide
theorem VU{W:F}{pb:Nat}{x y:H}(h:W.heap[pb]?=I (S #[x,y] 44))(hx:∀q,x≠Y pE q)(ua va:Option rC)(un uc vn vc:Nat){z:H}{bs:List UInt8}(hz:Yb W z bs):Yb ((tD W ⟨pb,0,G⟩ (J ua un uc)).setCell ⟨pb,1,G⟩ (J va vn vc)) z bs:=have h0:kD W pb:=DA (xs:=[y]) h nE hx;have h1:=h0.set 0 (J ua un uc) (fun q=>by
 simp);(hz.set h0 0 _).set h1 1 _
theorem Yb.quad{w:F}{v:H}{bs:List UInt8}(h:Yb w v bs){c:Nat}(hc:kD w c){e:Bool}{sa:Option rC}{sn sc:Nat}{ka va:Option rC}{kn kc vn vc:Nat}:Yb ((((tD w ⟨c,0,G⟩ (tL e)).setCell ⟨c,1,G⟩ (J sa sn sc)).setCell ⟨c,2,G⟩ (J ka kn kc)).setCell ⟨c,3,G⟩ (J va vn vc)) v bs:=have h1:=hc.set 0 (tL e) (fun q=>by
 simp);have h2:=h1.set 1 (J sa sn sc) (fun q=>by
 simp);have h3:=h2.set 2 (J ka kn kc) (fun q=>by
 simp);(((h.set hc 0 _).set h1 1 _).set h2 2 _).set h3 3 _
theorem Ka.quad{base:Nat}{w:F}{v:H}{l:List Vw}(h:Ka base w v l){c:Nat}(hc:kD w c)(hne:c<base){e:Bool}{sa:Option rC}{sn sc:Nat}{ka va:Option rC}{kn kc vn vc:Nat}:Ka base ((((tD w ⟨c,0,G⟩ (tL e)).setCell ⟨c,1,G⟩ (J sa sn sc)).setCell ⟨c,2,G⟩ (J ka kn kc)).setCell ⟨c,3,G⟩ (J va vn vc)) v l:=have h1:=hc.set 0 (tL e) (fun q=>by
 simp);have h2:=h1.set 1 (J sa sn sc) (fun q=>by
 simp);have h3:=h2.set 2 (J ka kn kc) (fun q=>by
 simp);(((h.set hc hne 0 _).set h1 hne 1 _).set h2 hne 2 _).set h3 hne 3 _
def ZI(n:Nat)(w:F)(v:H)(p:GI):Prop:=∃base vs vk vv,v=sQ #[tL p.empty,vs,vk,vv]∧n<=base∧base<=w.heap.size∧Ka base w vs p.steps∧Yb w vk p.pair.1∧Yb w vv p.pair.2
theorem ZI.is{n:Nat}{w:F}{v:H}{p:GI}(h:ZI n w v p):Xy w v p:=by
 obtain⟨base,vs,vk,vv,rfl,_,_,h1,h2,h3⟩:=h;exact⟨vs,vk,vv,rfl,h1.list,h2.1,h3.1⟩
theorem S7{base:Nat}{w W w1:F}{v:H}{l:List Vw}(h:L w W G)(ho:Ka base W v l)(hb:w.heap.size<=base)(hg:L W w1 v.ownBlock):L w w1 G:=⟨hg.os.trans h.os,hg.tape.trans h.tape,hg.output.trans h.output,tN h.size hg.size,fun i hi hn=>(hg.block i (tH hi h.size) (fun e=>by
 have:=(ho.lt i e.symm).1;omega)).trans (h.block i hi hn)⟩
theorem bA:(M.info? 122).map (fun i=>(i.zero,i.size,i.bytes))=I (I (sQ #[Y tA 0,tL O,J G 0 0]),3,40):=by
 kernel_rfl
theorem Em{w:F}{o:rJ}{a:Act}{K:Act->F->Prop}{Q:Exit->Act->F->Prop}(s x:rH)(ho:o.op=.call {callee:=.builtin .append,args:=#[s,x],argTypes:=#[42,42]})(base:Nat)(v:H)(l:List Vw)(hs:a.eval s=v)(hown:Ka base w v l)(vo:H)(p:Vw)(hk:Yb w vo p.other)(nb:Nat)(hb:∀j u,[Y tA p.bit,tL p.right,vo][j]?=I u->w.cell? ⟨nb,j,G⟩=I u)(hx:a.eval x=J (I ⟨nb,0,G⟩) 1 1)(hl:(l.length+1)*40<=140737488355328)(hbase:base<=w.heap.size)(h:∀v' w',Ka base w' v' (l++[p])->L w w' v.ownBlock->K (a.put o.dst v') w'):o.wp M a w K Q:=by
 obtain⟨i0,hi,hz0,hz1,hz2⟩:=r8 bA;have hrow:=hown.row;obtain⟨us,hul,hr,hp,_⟩:=hown;refine wp_append_own w s x 42 ho base 122 i0 (sQ #[Y tA 0,tL O,J G 0 0]) 3 40 Tryz.underlying42 hi hz0 hz1 hz2 rfl (by decide) v l.length (UA us) hs hr ⟨nb,0,G⟩ 1 1 (UA [(p,vo)]) hx rfl ?_ ?_ (by unfold pK;omega) hl hbase ?_;·intro j u hj;rw[Xm,sN];exact hb j u (by simpa[UA]using hj)
 ·intro u hu;exact Ih _ u hu fun y hy=>by simp at hy;subst hy;exact Nc hk
 ·intro v' w' h1 h2 _;refine h _ w' ⟨us++[(p,vo)],by simp[hul],?_,?_,fun e=>by simp at e⟩ h2;(·rw[DH,tC];exact h1);·intro y hy;rcases tY.1 hy with hy|hy;(·exact(hp y hy).kept h2 hrow);·simp at hy;subst hy;exact hk.kept h2 hrow
theorem uL{w:F}{ops:Array rJ}{rest:List rJ}{o:rJ}{a:Act}{Q:Exit->Act->F->Prop}(hgd:o.guard=G)(s x:rH)(ho:o.op=.call {callee:=.builtin .append,args:=#[s,x],argTypes:=#[42,42]})(base:Nat)(v:H)(l:List Vw)(hs:a.eval s=v)(hown:Ka base w v l)(vo:H)(p:Vw)(hk:Yb w vo p.other)(nb:Nat)(hb:∀j u,[Y tA p.bit,tL p.right,vo][j]?=I u->w.cell? ⟨nb,j,G⟩=I u)(hx:a.eval x=J (I ⟨nb,0,G⟩) 1 1)(hl:(l.length+1)*40<=140737488355328)(hbase:base<=w.heap.size)(h:∀v' w',Ka base w' v' (l++[p])->L w w' v.ownBlock->wpList M ops Q rest (a.put o.dst v') w'):wpList M ops Q (o::rest) a w:=wpList_plain hgd fun _ hK=>Em s x ho base v l hs hown vo p hk nb hb hx hl hbase fun v' w' h1 h2=>hK _ _ (h v' w' h1 h2)
theorem Ik{w:F}{nb:Nat}{p:Vw}{vo:H}{t:tW}(h:w.heap[nb]?=I (S #[Y tA p.bit,tL p.right,vo] t)):∀j u,[Y tA p.bit,tL p.right,vo][j]?=I u->w.cell? ⟨nb,j,G⟩=I u:=by
 intro j u hj;simp[tS,h];simpa using hj
def lB:H->Nat|J _ n _=>n|_=>0
def P8(t:tW):Prop:=t=93∨t=48∨t=181∨t=28∨t=3
def L8(B:Nat)(w:F)(i:Nat):Prop:=i<B∨∀cs t fz,w.heap[i]?=I (S cs t fz)->(¬P8 t∨∃q,cs[0]?=I (Y pE q))
structure Kp (B : Nat) (w w' : F) : Prop where
  os : w'.os = w.os
  tape : w'.tape = w.tape
  output : w'.output = w.output
  size : w.heap.size <= w'.heap.size
  keep : ∀ i, i < w.heap.size -> L8 B w i -> w'.heap[i]? = w.heap[i]?
theorem Kp.refl(B:Nat)(w:F):Kp B w w:=⟨rfl,rfl,rfl,sA _,fun _ _ _=>rfl⟩
theorem L8.same{B:Nat}{w w':F}{i:Nat}(h:L8 B w i)(e:w'.heap[i]?=w.heap[i]?):L8 B w' i:=by
 rcases h with h|h;·exact .inl h
 ·exact .inr fun cs t fz hc=>h cs t fz (by rw[<-e];exact hc)
theorem Kp.trans{B:Nat}{w w1 w2:F}(h:Kp B w w1)(k:Kp B w1 w2):Kp B w w2:=⟨k.os.trans h.os,k.tape.trans h.tape,k.output.trans h.output,tN h.size k.size,fun i hi hs=>by
 have e:=h.keep i hi hs;exact(k.keep i (tH hi h.size) (hs.same e)).trans e⟩
theorem Kp.grown{B:Nat}{w w':F}(h:L w w' G):Kp B w w':=⟨h.os,h.tape,h.output,h.size,fun i hi _=>h.block i hi (by
 simp)⟩
theorem Kp.turn{B:Nat}{w w':F}{g:Nat}{cs:Array H}{t:tW}{fz:Nat×Nat}(h:L w w' (I g))(hB:B<=g)(hb:w.heap[g]?=I (S cs t fz))(ht:P8 t)(h0:∀q,cs[0]?≠I (Y pE q)):Kp B w w':=⟨h.os,h.tape,h.output,h.size,fun i hi hs=>by
 refine h.block i hi fun e=>?_;cases e;rcases hs with hs|hs;·omega
 ·rcases hs cs t fz hb with h1|⟨q,h1⟩;(·exact h1 ht);·exact h0 q h1⟩
theorem Kp.low{B:Nat}{w w':F}(h:Kp B w w')(w0:F)(hg:L w0 w G)(hB:w0.heap.size<=B):L w0 w' G:=⟨h.os.trans hg.os,h.tape.trans hg.tape,h.output.trans hg.output,tN hg.size h.size,fun i hi hn=>(h.keep i (tH hi hg.size) (.inl (by
 omega))).trans (hg.block i hi hn)⟩
def zB(t:tW):Prop:=t=5∨t=44∨t=99∨t=172∨t=191∨t=122
def xP(t:tW):Prop:=¬zB t
theorem P8.two{t:tW}(h:P8 t):xP t:=by
 rcases h with rfl|rfl|rfl|rfl|rfl<;>simp[xP,zB]
def Do(B:Nat)(w:F)(i:Nat):Prop:=i<B∨∀cs t fz,w.heap[i]?=I (S cs t fz)->(¬xP t∨∃q,cs[0]?=I (Y pE q))
structure AA (B : Nat) (w w' : F) : Prop where
  os : w'.os = w.os
  tape : w'.tape = w.tape
  output : w'.output = w.output
  size : w.heap.size <= w'.heap.size
  keep : ∀ i, i < w.heap.size -> Do B w i -> w'.heap[i]? = w.heap[i]?
theorem Kp.two{B C:Nat}{w w':F}(h:Kp B w w')(hC:C<=B):AA C w w':=⟨h.os,h.tape,h.output,h.size,fun i hi hs=>h.keep i hi (by
 rcases hs with hs|hs;·exact .inl (tH hs hC)
 ·exact .inr fun cs t fz hc=>(hs cs t fz hc).imp (fun h1 h2=>h1 h2.two) id)⟩
theorem AA.refl(B:Nat)(w:F):AA B w w:=⟨rfl,rfl,rfl,sA _,fun _ _ _=>rfl⟩
theorem Do.same{B:Nat}{w w':F}{i:Nat}(h:Do B w i)(e:w'.heap[i]?=w.heap[i]?):Do B w' i:=by
 rcases h with h|h;·exact .inl h
 ·exact .inr fun cs t fz hc=>h cs t fz (by rw[<-e];exact hc)
theorem AA.trans{B:Nat}{w w1 w2:F}(h:AA B w w1)(k:AA B w1 w2):AA B w w2:=⟨k.os.trans h.os,k.tape.trans h.tape,k.output.trans h.output,tN h.size k.size,fun i hi hs=>by
 have e:=h.keep i hi hs;exact(k.keep i (tH hi h.size) (hs.same e)).trans e⟩
theorem AA.grown{B:Nat}{w w':F}(h:L w w' G):AA B w w':=⟨h.os,h.tape,h.output,h.size,fun i hi _=>h.block i hi (by
 simp)⟩
def Hq(w:F)(i:Nat):Prop:=∀cs t fz,w.heap[i]?=I (S cs t fz)->(zB t∨t=48∨∃q,cs[0]?=I (Y pE q))
structure KL (w w' : F) : Prop where
  os : w'.os = w.os
  tape : w'.tape = w.tape
  output : w'.output = w.output
  size : w.heap.size <= w'.heap.size
  keep : ∀ i, i < w.heap.size -> Hq w i -> w'.heap[i]? = w.heap[i]?
theorem KL.two{w w':F}(h:KL w w'):AA 0 w w':=⟨h.os,h.tape,h.output,h.size,fun i hi hs=>h.keep i hi fun cs t fz hc=>by
 rcases hs with hs|hs;·omega
 ·rcases hs cs t fz hc with h1|h1;(·exact .inl (sS h1));·exact .inr (.inr h1)⟩
theorem KL.refl(w:F):KL w w:=⟨rfl,rfl,rfl,sA _,fun _ _ _=>rfl⟩
theorem Hq.same{w w':F}{i:Nat}(h:Hq w i)(e:w'.heap[i]?=w.heap[i]?):Hq w' i:=fun cs t fz hc=>h cs t fz (by
 rw[<-e];exact hc)
theorem KL.trans{w w1 w2:F}(h:KL w w1)(k:KL w1 w2):KL w w2:=⟨k.os.trans h.os,k.tape.trans h.tape,k.output.trans h.output,tN h.size k.size,fun i hi hs=>by
 have e:=h.keep i hi hs;exact(k.keep i (tH hi h.size) (hs.same e)).trans e⟩
theorem KL.grown{w w':F}(h:L w w' G):KL w w':=⟨h.os,h.tape,h.output,h.size,fun i hi _=>h.block i hi (by
 simp)⟩
theorem KL.turn{w w':F}{row:Option Nat}(h:L w w' row)(hr:∀g,row=I g->∃cs t fz,w.heap[g]?=I (S cs t fz)∧¬zB t∧t≠48∧∀q,cs[0]?≠I (Y pE q)):KL w w':=⟨h.os,h.tape,h.output,h.size,fun i hi hs=>by
 refine h.block i hi fun e=>?_;obtain⟨cs,t,fz,hb,h1,h2,h3⟩:=hr i e.symm;rcases hs cs t fz hb with h4|h4|⟨q,h4⟩;·exact h1 h4
 ·exact h2 h4
 ·exact h3 q h4⟩
def Jp(w:F)(P:F->Prop):Prop:=∀w',KL w w'->P w'
theorem Jp.now{w:F}{P:F->Prop}(h:Jp w P):P w:=h w (KL.refl w)
theorem Jp.later{w w':F}{P:F->Prop}(h:Jp w P)(k:KL w w'):Jp w' P:=fun w2 k2=>h w2 (k.trans k2)
theorem Jp.grown{w w':F}{P:F->Prop}(h:Jp w P)(k:L w w' G):Jp w' P:=h.later (KL.grown k)
def JB(w:F)(P:F->Prop):Prop:=∀w',L w w' G->P w'
theorem JB.now{w:F}{P:F->Prop}(h:JB w P):P w:=h w (Qb w G)
theorem JB.grown{w w':F}{P:F->Prop}(h:JB w P)(k:L w w' G):JB w' P:=fun w2 k2=>h w2 (Qa k k2)
def Zf(B:Nat)(w:F)(P:F->Prop):Prop:=∀w',AA B w w'->P w'
theorem Zf.now{B:Nat}{w:F}{P:F->Prop}(h:Zf B w P):P w:=h w (AA.refl B w)
theorem Zf.later{B C:Nat}{w w':F}{P:F->Prop}(h:Zf C w P)(k:Kp B w w')(hC:C<=B:=by
 first|exact Nat.zero_le _|exact Nat.le_refl _):Zf C w' P:=fun w2 k2=>h w2 ((k.two hC).trans k2)
theorem Zf.later2{C:Nat}{w w':F}{P:F->Prop}(h:Zf C w P)(k:AA C w w'):Zf C w' P:=fun w2 k2=>h w2 (k.trans k2)
theorem Zf.grown{C:Nat}{w w':F}{P:F->Prop}(h:Zf C w P)(k:L w w' G):Zf C w' P:=h.later2 (AA.grown k)
theorem Zf.mono{B:Nat}{w:F}{P Q:F->Prop}(h:Zf B w P)(k:∀w',P w'->Q w'):Zf B w Q:=fun w' h'=>k w' (h w' h')
theorem VQ{w w':F}{v:H}{bs:List UInt8}(h:Qe w v bs)(hb:bs=[]∨∃b,v.ownBlock=I b∧w'.heap[b]?=w.heap[b]?):Qe w' v bs:=by
 obtain⟨a,cap,rfl,hc,h⟩:=h;refine⟨a,cap,rfl,hc,?_⟩;rcases h with h|⟨b,o,rfl,h⟩;·exact .inl h
 ·refine .inr ⟨b,o,rfl,fun i hi=>?_⟩;rcases hb with rfl|⟨b',e,hb⟩;(·simp at hi);·simp[pL]at e;subst e;rw[sK hb];exact h i hi
theorem nB:¬xP 5:=by
 simp[xP,zB]
theorem Z7{B:Nat}{w:F}{v:H}{bs:List UInt8}(h:Qj 0 w v bs):Zf B w (fun w=>Qj 0 w v bs):=fun w' k=>by
 obtain⟨h1,h2⟩:=h;rcases h2 with h2|⟨b,e,hl,h2⟩;·exact⟨VQ h1 (.inl h2),.inl h2⟩
 ·(obtain⟨cur,fz,h2⟩:∃cur fz,w.heap[b]?=I (S cur 5 fz):=by rcases h2 with h2|h2;(·omega);·exact h2);have hs:w'.heap[b]?=w.heap[b]?:=k.keep b hl (.inr fun cs t f hc=>.inl (by rw[h2]at hc;simp only[tB,tX]at hc;rw[<-hc.2.1];exact nB));exact⟨VQ h1 (.inr ⟨b,e,hs⟩),.inr ⟨b,e,tH hl k.size,.inr ⟨cur,fz,by rw[hs];exact h2⟩⟩⟩
theorem GZ{B:Nat}{w:F}{v:H}{bs:List UInt8}(h:Yb w v bs):Zf B w (fun w=>Yb w v bs):=fun w' k=>by
 obtain⟨h1,h2⟩:=h;rcases h2 with h2|⟨b,e,hl,cur,t,fz,h2,h3⟩;·exact⟨VQ h1 (.inl h2),.inl h2⟩
 ·have hs:w'.heap[b]?=w.heap[b]?:=k.keep b hl (.inr fun cs t' f hc=>by rw[h2]at hc;simp only[tB,tX]at hc;obtain⟨rfl,rfl,_⟩:=hc;rcases h3 with rfl|h3;(·exact .inl nB);·exact .inr h3);exact⟨VQ h1 (.inr ⟨b,e,hs⟩),.inr ⟨b,e,tH hl k.size,cur,t,fz,by rw[hs];exact h2,h3⟩⟩
theorem U9{B base:Nat}{w:F}{t:tW}{n m:Nat}{v:H}{xs:List H}(h:w.ownsRow base t n v m xs)(ht:¬xP t):Zf B w (fun w=>w.ownsRow base t n v m xs):=fun w' k=>by
 refine⟨h.1,?_⟩;rcases h.2with h|⟨g,cap,cur,e,hb,hg,rest⟩;·exact .inl h
 ·refine .inr ⟨g,cap,cur,e,hb,?_,rest⟩;rw[k.keep g (tI.1 hg).1 (.inr fun cs t' f hc=>.inl (by rw[hg]at hc;simp only[tB,tX]at hc;rw[<-hc.2.1];exact ht))];exact hg
theorem SO{B rb:Nat}{w:F}{v:H}{l:List Rd}(h:ZW rb 0 w v l):Zf B w (fun w=>ZW rb 0 w v l):=fun w' k=>by
 obtain⟨us,h1,h2,h3⟩:=h;exact⟨us,h1,U9 h2 (by simp[xP,zB]) w' k,fun x hx=>⟨Z7 (h3 x hx).1 w' k,Z7 (h3 x hx).2.1 w' k,Z7 (h3 x hx).2.2 w' k⟩⟩
theorem A8{B rb:Nat}{w:F}{v:H}{l:List Zi}(h:Q6 rb 0 w v l):Zf B w (fun w=>Q6 rb 0 w v l):=fun w' k=>by
 obtain⟨us,h1,h2,h3⟩:=h;exact⟨us,h1,U9 h2 (by simp[xP,zB]) w' k,fun x hx=>⟨Z7 (h3 x hx).1 w' k,Z7 (h3 x hx).2.1 w' k,Z7 (h3 x hx).2.2 w' k⟩⟩
theorem VW{B:Nat}{w:F}{v:H}{l:PL}(h:QP 0 w v l):Zf B w (fun w=>QP 0 w v l):=fun w' k=>by
 obtain⟨a,cap,rfl,hc,h⟩:=h;refine⟨a,cap,rfl,hc,?_⟩;rcases h with h|⟨b,o,rfl,hb,h⟩;·exact .inl h
 ·(obtain⟨cur,fz,hb⟩:∃cur fz,w.heap[b]?=I (S cur 44 fz):=by rcases hb with hb|hb;(·omega);·exact hb);have hs:w'.heap[b]?=w.heap[b]?:=k.keep b (tI.1 hb).1 (.inr fun cs t f hc=>.inl (by rw[hb]at hc;simp only[tB,tX]at hc;rw[<-hc.2.1];simp[xP,zB]));refine .inr ⟨b,o,rfl,.inr ⟨cur,fz,by rw[hs];exact hb⟩,fun i hi=>?_⟩;obtain⟨vk,vv,c1,c2,h1,h2⟩:=h i hi;exact⟨vk,vv,by rw[sK hs];exact c1,by rw[sK hs];exact c2,Z7 h1 w' k,Z7 h2 w' k⟩
theorem Sh{B rb:Nat}{w:F}{v:H}{l:FL}(h:ZJ rb w v l):Zf B w (fun w=>ZJ rb w v l):=fun w' k=>by
 obtain⟨vs,h1,h2,h3⟩:=h;exact⟨vs,h1,U9 h2 (by simp[xP,zB]) w' k,fun i hi=>⟨Z7 (h3 i hi).1 w' k,VW (h3 i hi).2 w' k⟩⟩
theorem EY{B:Nat}{w:F}{v:H}{l:List Zi}(h:Xx 0 w v l):Zf B w (fun w=>Xx 0 w v l):=fun w' k=>by
 obtain⟨a,cap,rfl,hc,h⟩:=h;refine⟨a,cap,rfl,hc,?_⟩;rcases h with h|⟨b,o,rfl,hb,h⟩;·exact .inl h
 ·(obtain⟨cur,fz,hb⟩:∃cur fz,w.heap[b]?=I (S cur 172 fz):=by rcases hb with hb|hb;(·omega);·exact hb);have hs:w'.heap[b]?=w.heap[b]?:=k.keep b (tI.1 hb).1 (.inr fun cs t f hc=>.inl (by rw[hb]at hc;simp only[tB,tX]at hc;rw[<-hc.2.1];simp[xP,zB]));refine .inr ⟨b,o,rfl,.inr ⟨cur,fz,by rw[hs];exact hb⟩,fun i hi=>?_⟩;obtain⟨vn,vk,vv,c1,c2,c3,c4,h1,h2,h3⟩:=h i hi;exact⟨vn,vk,vv,by rw[sK hs];exact c1,by rw[sK hs];exact c2,by rw[sK hs];exact c3,by rw[sK hs];exact c4,Z7 h1 w' k,Z7 h2 w' k,Z7 h3 w' k⟩
theorem Fb{B:Nat}{w:F}{v:H}{t:Tx}(h:qO w v t):Zf B w (fun w=>qO w v t):=fun w' k=>by
 obtain⟨vr,vw,rfl,h1,h2⟩:=h;exact⟨vr,vw,rfl,SO h1 w' k,A8 h2 w' k⟩
theorem Lm{B base:Nat}{w:F}{v:H}{l:List Vw}(h:Ka base w v l):Zf B w (fun w=>Ka base w v l):=fun w' k=>by
 obtain⟨us,h1,h2,h3,h4⟩:=h;exact⟨us,h1,U9 h2 (by simp[xP,zB]) w' k,fun x hx=>GZ (h3 x hx) w' k,h4⟩
theorem jA{B n:Nat}{w:F}{v:H}{p:GI}(h:ZI n w v p):Zf B w (fun w=>Xy w v p):=fun w' k=>by
 obtain⟨base,vs,vk,vv,rfl,_,_,h1,h2,h3⟩:=h;exact⟨vs,vk,vv,rfl,(Lm h1 w' k).list,(GZ h2 w' k).1,(GZ h3 w' k).1⟩
section
section
variable{α:Type}{T:tW}{k:Nat}{P:F->List H->α->Prop}{B:Nat}{w w':F}{v:H}{l:List α}
def JY(T:tW)(k:Nat)(P:F->List H->α->Prop)(B:Nat)(w:F)(v:H)(l:List α):Prop:=∃us:List (List H×α),us.map (·.2)=l∧w.ownsRow B T k v l.length (us.flatMap (·.1))∧(l=[]->v=J G 0 0)∧∀x∈us,x.1.length=k∧(∀u∈x.1,u.oneCell'=N)∧(∀q,x.1[0]?≠I (Y pE q))∧Zf 0 w (fun w=>P w x.1 x.2)
theorem Po(T:tW)(k:Nat)(P:F->List H->α->Prop)(B:Nat)(w:F):JY T k P B w (J G 0 0) []:=⟨[],rfl,sL _ _ _ _,fun _=>rfl,fun x hx=>by
 simp at hx⟩
theorem JY.kept(h:JY T k P B w v l)(hk:Kp B w w')(hs:∀g,v.ownBlock=I g->w'.heap[g]?=w.heap[g]?):JY T k P B w' v l:=by
 obtain⟨us,h1,h2,h3,h4⟩:=h;refine⟨us,h1,⟨h2.1,?_⟩,h3,fun x hx=>⟨(h4 x hx).1,(h4 x hx).2.1,(h4 x hx).2.2.1,(h4 x hx).2.2.2.later hk⟩⟩;rcases h2.2with h|⟨g,cap,cur,rfl,hb,hg,rest⟩;·exact .inl h
 ·exact .inr ⟨g,cap,cur,rfl,hb,by rw[hs g rfl];exact hg,rest⟩
theorem JY.kept2(h:JY T k P B w v l)(hk:AA 0 w w')(hs:∀g,v.ownBlock=I g->w'.heap[g]?=w.heap[g]?):JY T k P B w' v l:=by
 obtain⟨us,h1,h2,h3,h4⟩:=h;refine⟨us,h1,⟨h2.1,?_⟩,h3,fun x hx=>⟨(h4 x hx).1,(h4 x hx).2.1,(h4 x hx).2.2.1,(h4 x hx).2.2.2.later2 hk⟩⟩;rcases h2.2with h|⟨g,cap,cur,rfl,hb,hg,rest⟩;·exact .inl h
 ·exact .inr ⟨g,cap,cur,rfl,hb,by rw[hs g rfl];exact hg,rest⟩
theorem JY.lt(h:JY T k P B w v l):∀g,v.ownBlock=I g->B<=g∧g<w.heap.size:=by
 obtain⟨us,h1,h2,h3,h4⟩:=h;exact sH h2
theorem JY.grown(h:JY T k P B w v l)(hg:L w w' G):JY T k P B w' v l:=h.kept (Kp.grown hg) fun g e=>hg.block g (h.lt g e).2 (by
 simp)
theorem JY.shape(h:JY T k P B w v l):∃a cap,v=J a l.length cap:=by
 obtain⟨us,_,h,_⟩:=h;rcases h.2with⟨rfl,h0⟩|⟨g,cap,cur,rfl,_⟩;·exact⟨G,0,by rw[h0]⟩
 ·exact⟨_,cap,rfl⟩
theorem Hl{k:Nat}:∀(us:List (List H×α))(_:∀x∈us,x.1.length=k)(i:Nat)(hi:i<us.length)(j:Nat),j<k->(us.flatMap (·.1))[i*k+j]?=us[i].1[j]?|[],_,i,hi,_,_=>by simp at hi|x::us,hk,0,_,j,hj=>by have:=hk x (by simp);simp[pN (show j<x.1.length by omega)]|x::us,hk,i+1,hi,j,hj=>by have hx:=hk x (by simp);have:=Hl us (fun y hy=>hk y (by simp[hy])) i (by simpa using hi) j hj;rw[tP,List.getElem?_append_right (by rw[hx,pC];omega),hx,show(i+1)*k+j-k=i*k+j by rw[pC];omega,this];simp
theorem JY.blk(hk0:0<k)(h:JY T k P B w v l):v.ownBlock=G∨∃g cs,v.ownBlock=I g∧B<=g∧w.heap[g]?=I (S cs T (0,0))∧∀q,cs[0]?≠I (Y pE q):=by
 obtain⟨us,h1,h2,h3,h4⟩:=h;rcases h2.2with⟨rfl,_⟩|⟨g,cap,cur,rfl,hb,hg,hn,_,hcs,ht⟩;·exact .inl rfl
 ·refine .inr ⟨g,cur,rfl,hb,hg,fun q hq=>?_⟩;cases us with|nil=>subst h1;have:=h3 rfl;cases this|cons x us=>(have hl:l.length=us.length+1:=by rw[<-h1];simp);(have e:(cur.toList.take (l.length*k))[0]?=((x::us).flatMap (·.1))[0]?:=by rw[ht]);have hx:=(h4 x (by simp)).1;rw[sB,if_pos (by rw[hl,pC];omega),tP,pN (by omega),pD,hq]at e;exact(h4 x (by simp)).2.2.1 q e.symm
theorem JY.turn(hk0:0<k)(hT:P8 T)(h:JY T k P B w v l)(hg:L w w' v.ownBlock):Kp B w w':=by
 rcases h.blk hk0 with e|⟨g,cs,e,hb,hc,h0⟩;·rw[e]at hg;exact Kp.grown hg
 ·rw[e]at hg;exact Kp.turn hg hb hc hT h0
theorem JY.other(hk0:0<k)(h:JY T k P B w v l){row:Option Nat}(hk:Kp B w w')(hg:L w w' row)(hr:row=G∨∃g cs t fz,row=I g∧w.heap[g]?=I (S cs t fz)∧t≠T):JY T k P B w' v l:=by
 refine h.kept hk fun g e=>?_;refine hg.block g (h.lt g e).2 fun e2=>?_;rcases hr with rfl|⟨g',cs,t,fz,rfl,hc,ht⟩;·cases e2
 ·cases e2;rcases h.blk hk0 with e3|⟨g2,cs2,e3,_,hc2,_⟩;(·rw[e3]at e;cases e);·rw[e3]at e;cases e;rw[hc]at hc2;simp only[tB,tX]at hc2;exact ht hc2.2.1
theorem JY.at(h:JY T k P B w v l)(d:α)(i:Nat)(hi:i<l.length):∃g cap cs,v=J (I ⟨g,0,G⟩) l.length cap∧cs.length=k∧l.length<=cap∧(∀j,j<k->w.cell? ⟨g,i*k+j,G⟩=cs[j]?)∧Zf 0 w (fun w=>P w cs (l.getD i d)):=by
 obtain⟨us,h1,h2,h3,h4⟩:=h;have hul:us.length=l.length:=by rw[<-h1];simp
 rcases h2.2with⟨rfl,h0⟩|⟨g,cap,cur,rfl,hb,hg,hn,_,hcs,ht⟩;·omega
 ·have hx:=h4 us[i] (sP (by omega));refine⟨g,cap,us[i].1,rfl,hx.1,hn,fun j hj=>?_,?_⟩;(·(have e:(cur.toList.take (l.length*k))[i*k+j]?=(us.flatMap (·.1))[i*k+j]?:=by rw[ht]);(have hlt:i*k+j<l.length*k:=by have:(i+1)*k<=l.length*k:=pG k hi;rw[pC]at this;omega);rw[Hl us (fun x hx=>(h4 x hx).1) i (by omega) j hj,sB,if_pos hlt,pD]at e;simp[tS,hg,e]);·(have e:l.getD i d=us[i].2:=by subst h1;simp[List.getD,show i<us.length by omega]);rw[e];exact hx.2.2.2
theorem yZ{o:rJ}{a:Act}{K:Act->F->Prop}{Q:Exit->Act->F->Prop}(s x:rH)(t:tW)(ho:o.op=.call {callee:=.builtin .append,args:=#[s,x],argTypes:=#[t,t]})(i:TypeInfo)(z:H)(bytes:Nat)(ht:M.underlying t=I (.slice T))(hi:M.info? T=I i)(hz:i.zero=I z)(hsize:i.size=k)(hby:i.bytes=bytes)(hzs:z.cells.size=k)(hsz:0<k)(hT:P8 T)(hs:a.eval s=v)(hown:JY T k P B w v l)(nb:Nat)(cs:List H)(y:α)(hx:a.eval x=J (I ⟨nb,0,G⟩) 1 1)(hcl:cs.length=k)(hc:∀j u,cs[j]?=I u->w.cell? ⟨nb,j,G⟩=I u)(h1:∀u∈cs,u.oneCell'=N)(h0:∀q,cs[0]?≠I (Y pE q))(hP:Zf 0 w (fun w=>P w cs y))(h63:l.length+1<=pK)(hbytes:(l.length+1)*bytes<=140737488355328)(hbase:B<=w.heap.size)(h:∀v' w',JY T k P B w' v' (l++[y])->Kp B w w'->L w w' v.ownBlock->K (a.put o.dst v') w'):o.wp M a w K Q:=by
 have hown0:=hown;obtain⟨us,e1,h2,h3,h4⟩:=hown;refine wp_append_lies w s x t ho B T i z k bytes ht hi hz hsize hby hzs hsz v l.length (us.flatMap (·.1)) hs h2 ⟨nb,0,G⟩ 1 1 cs hx (by omega) (fun j u hj=>by rw[Xm,sN];exact hc j u hj) h1 (by omega) h63 hbytes hbase _ rfl ?_;intro g cap w' hr hg hgg hlt;have hk:=hown0.turn hsz hT hg;refine h _ w' ⟨us++[(cs,y)],by simp[e1],?_,fun e=>by simp at e,fun x hx=>?_⟩ hk hg;·simpa[List.flatMap_append]using hr
 ·rcases tY.1 hx with hx|hx;(·exact⟨(h4 x hx).1,(h4 x hx).2.1,(h4 x hx).2.2.1,(h4 x hx).2.2.2.later hk⟩);·(obtain rfl:x=(cs,y):=by simpa using hx);exact⟨hcl,h1,h0,hP.later hk⟩
theorem JY.take(h:JY T k P B w v l){a:Option rC}{n cap:Nat}(hv:v=J a n cap)(m:Nat)(hm:m<=l.length)(h0:0<m):JY T k P B w (J a m cap) (l.take m):=by
 subst hv;obtain⟨us,h1,h2,h3,h4⟩:=h;have hul:us.length=l.length:=by rw[<-h1];simp
 have hlm:(l.take m).length=m:=by simp;omega
 rcases h2.2with⟨e,h0'⟩|⟨g,cp,cur,e,hb,hg,hn,hmx,hcs,ht⟩;·omega
 ·simp only[tG]at e;obtain⟨rfl,rfl,rfl⟩:=e;(have hfl:(us.take m).flatMap (·.1)=(us.flatMap (·.1)).take (m*k):=by(have hk:∀(vs:List (List H×α)),(∀x∈vs,x.1.length=k)->∀m,(vs.take m).flatMap (·.1)=(vs.flatMap (·.1)).take (m*k):=by intro vs;induction vs with|nil=>intro _ m;simp|cons x vs ih=>intro hx m;cases m with|zero=>simp|succ m=>have:=hx x (by simp);rw[rI,tP,tP,ih (fun y hy=>hx y (by simp[hy])) m,List.take_append,this,pC,show m*k+k-k=m*k by omega,List.take_of_length_le (l:=x.1) (by omega)]);exact hk us (fun x hx=>(h4 x hx).1) m);refine⟨us.take m,by rw[<-h1,List.map_take],⟨?_,.inr ⟨g,cap,cur,by rw[hlm],hb,hg,by omega,hmx,hcs,?_⟩⟩,fun e=>?_,fun x hx=>h4 x (List.mem_of_mem_take hx)⟩;(·rw[hfl,pB,h2.1,hlm];have:m*k<=l.length*k:=pG k hm;omega);(·rw[hlm,hfl,<-ht,oO];have:m*k<=l.length*k:=pG k hm;rw[oP this]);·rw[e]at hlm;simp at hlm;omega
end
end
theorem F3:(181:Nat)≠5:=by
 decide
theorem kK:(181:Nat)≠172:=by
 decide
def CO(w:F)(b o:Nat)(c:XO):Prop:=∃vs,w.cell? ⟨b,o,G⟩=I (Y tA c.turn)∧w.cell? ⟨b,o+1,G⟩=I vs∧QS w vs c.writes
theorem CO.grown{w w':F}{b o:Nat}{c:XO}(h:CO w b o c)(hg:L w w' G):CO w' b o c:=by
 obtain⟨vs,c1,c2,h⟩:=h;exact⟨vs,hg.cell c1 (by simp),hg.cell c2 (by simp),h.grown hg⟩
def Jk(w:F)(v:H)(l:List XO):Prop:=∃a cap,v=J a l.length cap∧l.length<=cap∧((l=[]∧(a=G->cap=0))∨∃b o,a=I ⟨b,o,G⟩∧∀i,i<l.length->CO w b (o+i*2) (l.getD i Zr))
theorem E7(w:F):Jk w (J G 0 0) []:=⟨G,0,rfl,sA _,.inl ⟨rfl,fun _=>rfl⟩⟩
theorem Jk.shape{w:F}{v:H}{l:List XO}(h:Jk w v l):∃a cap,v=J a l.length cap:=by
 obtain⟨a,cap,rfl,_⟩:=h;exact⟨a,cap,rfl⟩
theorem Jk.grown{w w':F}{v:H}{l:List XO}(h:Jk w v l)(hg:L w w' G):Jk w' v l:=by
 obtain⟨a,cap,rfl,hc,h⟩:=h;refine⟨a,cap,rfl,hc,?_⟩;rcases h with h|⟨b,o,rfl,h⟩;·exact .inl h
 ·exact .inr ⟨b,o,rfl,fun i hi=>(h i hi).grown hg⟩
theorem Jk.at{w:F}{a:Option rC}{n cap:Nat}{l:List XO}(h:Jk w (J a n cap) l)(i:Nat)(hi:i<l.length):∃b o,a=I ⟨b,o,G⟩∧CO w b (o+i*2) (l.getD i Zr):=by
 obtain⟨a',cap',e,hc,h⟩:=h;simp only[tG]at e;obtain⟨rfl,rfl,rfl⟩:=e;rcases h with⟨rfl,_⟩|⟨b,o,rfl,h⟩;·simp at hi
 ·exact⟨b,o,rfl,h i hi⟩
structure A9 (l : List XO) : Prop where
  many : l.length * 32 <= 140737488355328
  each : ∀ i, i < l.length -> Mi (l.getD i Zr)
abbrev CV:=XO×H
def kS(us:List CV):List H:=us.flatMap fun x=>[Y tA x.1.turn,x.2]
theorem MN(a b:List CV):kS (a++b)=kS a++kS b:=by
 simp[kS]
theorem iB:(M.info? 181).map (fun i=>(i.zero,i.size,i.bytes))=I (I (sQ #[Y tA 0,J G 0 0]),2,32):=by
 kernel_rfl
def Jh(base:Nat)(w:F)(v:H)(l:List XO):Prop:=∃us:List CV,us.map (·.1)=l∧w.ownsRow base 181 2 v l.length (kS us)∧(l=[]->v=J G 0 0)∧∀x∈us,Xx 0 w x.2 x.1.writes
theorem CU(base:Nat)(w:F):Jh base w (J G 0 0) []:=⟨[],rfl,sL _ _ _ _,fun _=>rfl,fun x hx=>by
 simp at hx⟩
theorem Jh.row{base:Nat}{w:F}{v:H}{l:List XO}(h:Jh base w v l):v.ownBlock=G∨∃g cur t fz,v.ownBlock=I g∧base<=g∧w.heap[g]?=I (S cur t fz)∧t≠5∧t≠172:=by
 obtain⟨us,_,h,_⟩:=h;rcases h.2with⟨rfl,_⟩|⟨g,cap,cur,rfl,hb,hg,_⟩;·exact .inl rfl
 ·exact .inr ⟨g,cur,_,_,rfl,hb,hg,F3,kK⟩
theorem Jh.row0{base:Nat}{w:F}{v:H}{l:List XO}(h:Jh base w v l):v.ownBlock=G∨∃g cur t fz,v.ownBlock=I g∧0<=g∧w.heap[g]?=I (S cur t fz)∧t≠5∧t≠172:=by
 rcases h.row with h|⟨g,cur,t,fz,h1,_,h2⟩;·exact .inl h
 ·exact .inr ⟨g,cur,t,fz,h1,tQ _,h2⟩
theorem Jh.lt{base:Nat}{w:F}{v:H}{l:List XO}(h:Jh base w v l):∀k,v.ownBlock=I k->base<=k∧k<w.heap.size:=by
 obtain⟨us,_,h,_⟩:=h;exact sH h
theorem Jh.grownNone{base:Nat}{w w':F}{v:H}{l:List XO}(h:Jh base w v l)(hg:L w w' G):Jh base w' v l:=by
 obtain⟨us,h1,h2,h0,h3⟩:=h;refine⟨us,h1,tU h2 hg ?_,h0,fun x hx=>(h3 x hx).kept hg (.inl rfl)⟩;cases hv:v.ownBlock with|none=>exact .inl rfl|some k=>exact .inr (by simp)
theorem Jh.shape{base:Nat}{w:F}{v:H}{l:List XO}(h:Jh base w v l):∃a cap,v=J a l.length cap:=by
 obtain⟨us,_,h,_⟩:=h;rcases h.2with⟨rfl,h0⟩|⟨g,cap,cur,rfl,_⟩;·exact⟨G,0,by rw[h0]⟩
 ·exact⟨_,cap,rfl⟩
theorem SA{base:Nat}{w W w1:F}{v:H}{l:List XO}(h:L w W G)(ho:Jh base W v l)(hb:w.heap.size<=base)(hg:L W w1 v.ownBlock):L w w1 G:=⟨hg.os.trans h.os,hg.tape.trans h.tape,hg.output.trans h.output,tN h.size hg.size,fun i hi hn=>(hg.block i (tH hi h.size) (fun e=>by
 have:=(ho.lt i e.symm).1;omega)).trans (h.block i hi hn)⟩
theorem EG{w:F}{o:rJ}{a:Act}{K:Act->F->Prop}{Q:Exit->Act->F->Prop}(s x:rH)(ho:o.op=.call {callee:=.builtin .append,args:=#[s,x],argTypes:=#[83,83]})(base:Nat)(v:H)(l:List XO)(hs:a.eval s=v)(hown:Jh base w v l)(vw:H)(c:XO)(hw:Xx 0 w vw c.writes)(nb:Nat)(hb:w.heap[nb]?=I (S #[Y tA c.turn,vw] 181))(hx:a.eval x=J (I ⟨nb,0,G⟩) 1 1)(hl:(l.length+1)*32<=140737488355328)(hbase:base<=w.heap.size)(h:∀v' w',Jh base w' v' (l++[c])->L w w' v.ownBlock->K (a.put o.dst v') w'):o.wp M a w K Q:=by
 obtain⟨i0,hi,hz0,hz1,hz2⟩:=r8 iB;have hrow:=hown.row0;obtain⟨us,hul,hr,_,hp⟩:=hown;refine wp_append_lies w s x 83 ho base 181 i0 (sQ #[Y tA 0,J G 0 0]) 2 32 Tryz.underlying83 hi hz0 hz1 hz2 rfl (by decide) v l.length (kS us) hs hr ⟨nb,0,G⟩ 1 1 (kS [(c,vw)]) hx rfl (rA (cs:=#[Y tA c.turn,vw]) hb) ?_ (by omega) (by unfold pK;omega) hl hbase _ rfl ?_;·intro u hu;simp only[kS,tP,rG,rK,tK,tM,or_false]at hu;rcases hu with rfl|rfl;(·rfl);·exact hw.oneCell
 ·intro g cap w' q1 q2 _ _;refine h _ w' ⟨us++[(c,vw)],by simp[hul],?_,fun e=>by simp at e,?_⟩ q2;(·rw[MN,tC];exact q1);·intro y hy;rcases tY.1 hy with hy|hy;(·exact(hp y hy).kept q2 hrow);·simp only[tK,tM,or_false]at hy;subst hy;exact hw.kept q2 hrow
theorem uG{w:F}{ops:Array rJ}{rest:List rJ}{o:rJ}{a:Act}{Q:Exit->Act->F->Prop}(hgd:o.guard=G)(s x:rH)(ho:o.op=.call {callee:=.builtin .append,args:=#[s,x],argTypes:=#[83,83]})(base:Nat)(v:H)(l:List XO)(hs:a.eval s=v)(hown:Jh base w v l)(vw:H)(c:XO)(hw:Xx 0 w vw c.writes)(nb:Nat)(hb:w.heap[nb]?=I (S #[Y tA c.turn,vw] 181))(hx:a.eval x=J (I ⟨nb,0,G⟩) 1 1)(hl:(l.length+1)*32<=140737488355328)(hbase:base<=w.heap.size)(h:∀v' w',Jh base w' v' (l++[c])->L w w' v.ownBlock->wpList M ops Q rest (a.put o.dst v') w'):wpList M ops Q (o::rest) a w:=wpList_plain hgd fun _ hK=>EG s x ho base v l hs hown vw c hw nb hb hx hl hbase fun v' w' h1 h2=>hK _ _ (h v' w' h1 h2)
theorem Jh.ne{base:Nat}{w:F}{v:H}{l:List XO}(h:Jh base w v l){b:Nat}{cs:Array H}{t:tW}{fz:Nat×Nat}(hb:w.heap[b]?=I (S cs t fz))(ht:t≠181):v.ownBlock≠I b:=by
 intro e;obtain⟨us,_,h,_⟩:=h;rcases h.2with⟨rfl,_⟩|⟨g,cap,cur,rfl,_,hg,_⟩;·cases e
 ·cases e;rw[hb]at hg;simp only[tB,tX]at hg;exact ht hg.2.1
theorem Jh.setOther{base:Nat}{w:F}{v:H}{l:List XO}(h:Jh base w v l){b i:Nat}{cs:Array H}{t:tW}{fz:Nat×Nat}(hb:w.heap[b]?=I (S cs t fz))(ht:t≠5)(ht2:t≠172)(ht3:t≠181)(u:H):Jh base (tD w ⟨b,i,G⟩ u) v l:=by
 have hne:=h.ne hb ht3;obtain⟨us,h1,h2,h0,h3⟩:=h;exact⟨us,h1,tU h2 (Y0 w b i u) (.inr hne),h0,fun x hx=>(h3 x hx).kept (Y0 w b i u) (.inr ⟨b,cs,t,fz,rfl,tQ _,hb,ht,ht2⟩)⟩
theorem Jh.other{base:Nat}{w w':F}{v:H}{l:List XO}(h:Jh base w v l)(hg:L w w' v.ownBlock){b:Nat}{cs:Array H}{t:tW}{fz:Nat×Nat}(hb:w.heap[b]?=I (S cs t fz))(ht:t≠181):w'.heap[b]?=I (S cs t fz):=by
 rw[hg.block b (tI.1 hb).1 (fun e=>h.ne hb ht e.symm)];exact hb
def Oa:Prop:=∀(w:F)(v u:H)(t:Tx)(r:Rd),qT w v t->yG t->YE w u r->Fu r->sV M 99 #[v,u] w fun e w'=>∃x,e=tE (sE #[x,Y tA (Xu t r)])∧qO w' x (Yk t r)∧L w w' G
theorem Qf(w:F)(o:Obj):∃W:F,Hid (W=w.alloc o)∧L w W G∧Hid (W.heap[w.heap.size]?=I o):=⟨w.alloc o,rfl,sM _ _ _,oT w o⟩
theorem Z8{x y:Int}(h:x=y):tE (Y tA y)=tE (Y tA x):=by
 rw[h]
theorem Y5{x y:Bool}(h:x=y):tE (tL y)=tE (tL x):=by
 rw[h]
theorem XI{W w:F}{b:Nat}{x y z:H}{t:tW}(hg:L W w G)(h:W.heap[b]?=I (S #[x,y,z] t)):w.cell? ⟨b,0,G⟩=I x∧w.cell? ⟨b,1,G⟩=I y∧w.cell? ⟨b,2,G⟩=I z:=by
 have hb:w.heap[b]?=I (S #[x,y,z] t):=by rw[hg.block b (tI.1 h).1 (by simp)];exact h
 refine⟨?_,?_,?_⟩<;>simp[tS,hb]
def MZ(p:List Rd)(r:Rd):Int:=if XM r=0then(if p.any (fun q=>XP q r)=N then 3 else 0)else XM r
def DJ(p:List Zi)(w:Zi):Int:=if QD w=0then(if p.any (fun q=>ZY q w)=N then 3 else 0)else QD w
theorem dQ(l:List Rd)(m:Nat)(h:m<l.length):qS (l.take m) (l.drop m)=if MZ (l.take m) (l.getD m Zh)=0then qS (l.take (m+1)) (l.drop (m+1))else MZ (l.take m) (l.getD m Zh):=by
 rw[sW h,qS,sZ h,show l[m]=l.getD m Zh by simp[h]];unfold MZ;by_cases h1:XM (l.getD m Zh)=0;·rw[if_pos h1,if_pos h1];by_cases h2:(l.take m).any (fun q=>XP q (l.getD m Zh))=N;(·rw[if_pos h2,if_pos h2,if_neg (by omega)]);·rw[if_neg h2,if_neg h2,if_pos rfl]
 ·rw[if_neg h1,if_neg h1,if_neg h1]
theorem eD(l:List Zi)(m:Nat)(h:m<l.length):yQ (l.take m) (l.drop m)=if DJ (l.take m) (l.getD m Qr)=0then yQ (l.take (m+1)) (l.drop (m+1))else DJ (l.take m) (l.getD m Qr):=by
 rw[sW h,yQ,sZ h,show l[m]=l.getD m Qr by simp[h]];unfold DJ;by_cases h1:QD (l.getD m Qr)=0;·rw[if_pos h1,if_pos h1];by_cases h2:(l.take m).any (fun q=>ZY q (l.getD m Qr))=N;(·rw[if_pos h2,if_pos h2,if_neg (by omega)]);·rw[if_neg h2,if_neg h2,if_pos rfl]
 ·rw[if_neg h1,if_neg h1,if_neg h1]
theorem Ft{α:Type}(d:α)(f:α->Bool)(l:List α)(k:Nat)(h:k<l.length):(l.take (k+1)).any f=((l.take k).any f||f (l.getD k d)):=by
 rw[sZ h,List.any_append,show l[k]=l.getD k d by simp[h]];simp
theorem No{α:Type}(d:α)(f:α->Bool)(l:List α)(k m:Nat)(hk:k<m)(hm:m<=l.length)(h:f (l.getD k d)=N):(l.take m).any f=N:=by
 rw[rF];refine⟨l.getD k d,?_,h⟩;rw[show l.getD k d=(l.take m)[k]'(by rw[pB];omega)by rw[List.getElem_take];simp[show k<l.length by omega]];exact sP _
theorem xV{w:F}{a:Option rC}{n cap:Nat}{l:List Rd}(h:Xf w (J a n cap) l)(i:Nat)(hi:i<l.length):∃b o,a=I ⟨b,o,G⟩∧∃u1 u2 u3 u4 u5 u6,(w.cell? ⟨b,o+i*4,G⟩=I (J u1 (l.getD i Zh).name.length u2)∧w.cell? ⟨b,o+i*4+1,G⟩=I (J u3 (l.getD i Zh).key.length u4)∧w.cell? ⟨b,o+i*4+2,G⟩=I (tL (l.getD i Zh).wide)∧w.cell? ⟨b,o+i*4+3,G⟩=I (J u5 (l.getD i Zh).last.length u6))∧YE w (sQ #[J u1 (l.getD i Zh).name.length u2,J u3 (l.getD i Zh).key.length u4,tL (l.getD i Zh).wide,J u5 (l.getD i Zh).last.length u6]) (l.getD i Zh):=by
 obtain⟨b,o,rfl,hat⟩:=h.at i hi;obtain⟨vn,vk,vl,c1,c2,c3,c4,s1,s2,s3⟩:=hat;obtain⟨u1,u2,rfl⟩:=s1.shape;obtain⟨u3,u4,rfl⟩:=s2.shape;obtain⟨u5,u6,rfl⟩:=s3.shape;exact⟨b,o,rfl,u1,u2,u3,u4,u5,u6,⟨c1,c2,c3,c4⟩,⟨_,_,_,rfl,s1,s2,s3⟩⟩
theorem Yn{w:F}{a:Option rC}{n cap:Nat}{l:List Zi}(h:QS w (J a n cap) l)(i:Nat)(hi:i<l.length):∃b o,a=I ⟨b,o,G⟩∧∃u1 u2 u3 u4 u5 u6,(w.cell? ⟨b,o+i*4,G⟩=I (J u1 (l.getD i Qr).name.length u2)∧w.cell? ⟨b,o+i*4+1,G⟩=I (J u3 (l.getD i Qr).key.length u4)∧w.cell? ⟨b,o+i*4+2,G⟩=I (tL (l.getD i Qr).gone)∧w.cell? ⟨b,o+i*4+3,G⟩=I (J u5 (l.getD i Qr).value.length u6))∧Xg w (sQ #[J u1 (l.getD i Qr).name.length u2,J u3 (l.getD i Qr).key.length u4,tL (l.getD i Qr).gone,J u5 (l.getD i Qr).value.length u6]) (l.getD i Qr):=by
 obtain⟨b,o,rfl,hat⟩:=h.at i hi;obtain⟨vn,vk,vl,c1,c2,c3,c4,s1,s2,s3⟩:=hat;obtain⟨u1,u2,rfl⟩:=s1.shape;obtain⟨u3,u4,rfl⟩:=s2.shape;obtain⟨u5,u6,rfl⟩:=s3.shape;exact⟨b,o,rfl,u1,u2,u3,u4,u5,u6,⟨c1,c2,c3,c4⟩,⟨_,_,_,rfl,s1,s2,s3⟩⟩
theorem ET{x y:Bool}{a b:Int}(h:x=y)(k:a=b):tE (sE #[tL y,Y tA b])=tE (sE #[tL x,Y tA a]):=by
 rw[h,k]
theorem aW{α:Type}(f:α->Bool)(l:List α)(d:α)(i:Nat)(hi:i<l.length)(h:f (l.getD i d)=N):l.any f=N:=by
 have:=No d f l i l.length hi (sA _) h;rw[sC]at this;exact this
theorem xE:(88:Nat)≠5:=by
 decide
theorem kV:(88:Nat)≠191:=by
 decide
theorem qW:(88:Nat)≠172:=by
 decide
theorem ZW.block{rb pb:Nat}{W w':F}{v:H}{l:List Rd}(ho:ZW rb pb W v l)(hg:L W w' v.ownBlock){b:Nat}{cs:Array H}{t:tW}{fz:Nat×Nat}(h:W.heap[b]?=I (S cs t fz))(ht:t≠191):w'.heap[b]?=I (S cs t fz):=by
 rw[hg.block b (tI.1 h).1 (fun e=>ho.ne h ht e.symm)];exact h
theorem Q6.block{rb pb:Nat}{W w':F}{v:H}{l:List Zi}(ho:Q6 rb pb W v l)(hg:L W w' v.ownBlock){b:Nat}{cs:Array H}{t:tW}{fz:Nat×Nat}(h:W.heap[b]?=I (S cs t fz))(ht:t≠172):w'.heap[b]?=I (S cs t fz):=by
 rw[hg.block b (tI.1 h).1 (fun e=>ho.ne h ht e.symm)];exact h
theorem ZW.keptV{rb rb':Nat}{W w':F}{v u:H}{l:List Rd}{k:List Zi}(hR:ZW rb 0 W v l)(hV:Q6 rb' 0 W u k)(hg:L W w' u.ownBlock):ZW rb 0 w' v l:=by
 refine hR.kept hg ?_ ?_;·rcases hR.row with h|⟨g,cur,fz,e,_,h⟩;(·exact .inl h);·refine .inr ?_;rw[e];exact fun e2=>hV.ne h (fun e=>mZ e) e2.symm
 ·rcases hV.row with h|⟨g,cur,fz,e,_,h⟩;(·exact .inl h);·exact .inr ⟨g,cur,_,fz,e,tQ _,h,uY⟩
theorem QI{w:F}{b:Nat}{x y z:H}{t:tW}(h:w.heap[b]?=I (S #[x,y,z] t)):(w.cell? ⟨b,0,G⟩=I x∧w.cell? ⟨b,1,G⟩=I y∧w.cell? ⟨b,2,G⟩=I z)∧w.frozen? ⟨b,0,G⟩=O∧w.frozen? ⟨b,1,G⟩=O∧w.frozen? ⟨b,2,G⟩=O:=by
 refine⟨⟨?_,?_,?_⟩,?_,?_,?_⟩<;>simp[tS,pA,h]
theorem Vb{rb:Nat}{w wr:F}{RB:Nat}{x y z:H}{st:Int}{va ua:Option rC}{n m vc uc:Nat}{R:List Rd}{V:List Zi}(h:wr.heap[RB]?=I (S #[x,y,z] 88))(hR:ZW rb 0 wr (J va n vc) R)(hV:Q6 rb 0 wr (J ua m uc) V)(hg:L w wr G)(hw:w.heap.size<=RB):((((tD wr ⟨RB,0,G⟩ (Y tA st)).setCell ⟨RB,1,G⟩ (J va n vc)).setCell ⟨RB,2,G⟩ (J ua m uc)).cell? ⟨RB,0,G⟩=I (Y tA st)∧(((tD wr ⟨RB,0,G⟩ (Y tA st)).setCell ⟨RB,1,G⟩ (J va n vc)).setCell ⟨RB,2,G⟩ (J ua m uc)).cell? ⟨RB,1,G⟩=I (J va n vc)∧(((tD wr ⟨RB,0,G⟩ (Y tA st)).setCell ⟨RB,1,G⟩ (J va n vc)).setCell ⟨RB,2,G⟩ (J ua m uc)).cell? ⟨RB,2,G⟩=I (J ua m uc))∧ZW rb 0 (((tD wr ⟨RB,0,G⟩ (Y tA st)).setCell ⟨RB,1,G⟩ (J va n vc)).setCell ⟨RB,2,G⟩ (J ua m uc)) (J va n vc) R∧Q6 rb 0 (((tD wr ⟨RB,0,G⟩ (Y tA st)).setCell ⟨RB,1,G⟩ (J va n vc)).setCell ⟨RB,2,G⟩ (J ua m uc)) (J ua m uc) V∧L w (((tD wr ⟨RB,0,G⟩ (Y tA st)).setCell ⟨RB,1,G⟩ (J va n vc)).setCell ⟨RB,2,G⟩ (J ua m uc)) G:=by
 have b1:=Qk (i:=0) (u:=Y tA st) h;have b2:=Qk (i:=1) (u:=J va n vc) b1;have b3:=Qk (i:=2) (u:=J ua m uc) b2;exact⟨(QI (x:=Y tA st) (y:=J va n vc) (z:=J ua m uc) b3).1,((hR.setOther h xE kV (tQ _) _).setOther b1 xE kV (tQ _) _).setOther b2 xE kV (tQ _) _,((hV.setOther h xE qW (tQ _) _).setOther b1 xE qW (tQ _) _).setOther b2 xE qW (tQ _) _,Qc (Qc (Qc hg _ hw _ _) _ hw _ _) _ hw _ _⟩
theorem Q6.keptR{rb rb':Nat}{W w':F}{v u:H}{l:List Zi}{k:List Rd}(hV:Q6 rb 0 W v l)(hR:ZW rb' 0 W u k)(hg:L W w' u.ownBlock):Q6 rb 0 w' v l:=by
 refine hV.kept hg ?_ ?_;·rcases hV.row with h|⟨g,cur,fz,e,_,h⟩;(·exact .inl h);·refine .inr ?_;rw[e];exact fun e2=>hR.ne h (fun e=>mZ e.symm) e2.symm
 ·rcases hR.row with h|⟨g,cur,fz,e,_,h⟩;(·exact .inl h);·exact .inr ⟨g,cur,_,fz,e,tQ _,h,mM⟩
theorem qF{w:F}{v1 v2:H}{st:Int}{R:List Rd}{V:List Zi}{rb:Nat}{t:Tx}(e:t=⟨st,R,V⟩)(h1:ZW rb 0 w v1 R)(h2:Q6 rb 0 w v2 V):qO w (sQ #[Y tA st,v1,v2]) t:=by
 subst e;exact⟨_,_,rfl,h1.down 0 (tQ _),h2.down 0 (tQ _)⟩
theorem Va{v:H}{a b:Int}(h:a=b):tE (sE #[v,Y tA b])=tE (sE #[v,Y tA a]):=by
 rw[h]
theorem Hs:∀(l:List Zi)(w:Zi)(m:Nat),m<l.length->(l.take m).any (fun q=>ZY q w)=O->ZY (l.getD m Qr) w=N->xZ l w=l.set m w|[],_,_,h,_,_=>by simp at h|a::l,w,0,_,_,h=>by have h':ZY a w=N:=h;rw[xZ,if_pos h'];rfl|a::l,w,m+1,h0,h1,h2=>by rw[rI,pH,rU]at h1;rw[xZ,if_neg (by rw[h1.1];decide),pR,Hs l w m (by simpa using h0) h1.2 (by simpa using h2)]
theorem D4:∀(l:List Zi)(w:Zi),l.any (fun q=>ZY q w)=O->xZ l w=l++[w]|[],_,_=>rfl|a::l,w,h=>by rw[pH,rU]at h;rw[xZ,if_neg (by rw[h.1];decide),D4 l w h.2];rfl
theorem Q6.zero{rb:Nat}{w:F}{b o n cap:Nat}{l:List Zi}(h:Q6 rb 0 w (J (I ⟨b,o,G⟩) n cap) l):o=0:=by
 obtain⟨us,hl,hr,h3⟩:=h;rcases hr.2with⟨e,_⟩|⟨g',cap',cur,e,_⟩;·cases e
 ·simp only[tG,tB,rP]at e;exact e.1.2.1
theorem Q6.frozenT{rb:Nat}{w:F}{g n cap:Nat}{l:List Zi}(h:Q6 rb 0 w (J (I ⟨g,0,G⟩) n cap) l)(j:Nat):w.frozen? ⟨g,j,G⟩=O:=by
 obtain⟨us,hl,hr,h3⟩:=h;rcases hr.2with⟨e,_⟩|⟨g',cap',cur,e,hb,hg,_⟩;·cases e
 ·simp only[tG,tB,rP]at e;obtain⟨⟨rfl,_⟩,_⟩:=e;simp[pA,hg]
theorem EV:∀(us:List WV)(i:Nat)(x:WV),Jg (us.set i x)=((((Jg us).set (i*4) x.2.1).set (i*4+1) x.2.2.1).set (i*4+2) (tL x.1.gone)).set (i*4+3) x.2.2.2|[],i,x=>by simp[Jg]|y::us,0,x=>by simp[Jg]|y::us,i+1,x=>by have ih:=EV us i x;(have e:∀us:List WV,Jg (y::us)=y.2.1::y.2.2.1::tL y.1.gone::y.2.2.2::Jg us:=fun us=>by simp[Jg]);rw[pR,e,e,ih,show(i+1)*4=i*4+4by omega];rfl
theorem Q6.setT{rb:Nat}{w:F}{g n cap:Nat}{l:List Zi}(h:Q6 rb 0 w (J (I ⟨g,0,G⟩) n cap) l)(i:Nat)(vn vk vv:H)(p:Zi)(h1:Qj 0 w vn p.name)(h2:Qj 0 w vk p.key)(h3:Qj 0 w vv p.value):Q6 rb 0 ((((tD w ⟨g,i*4,G⟩ vn).setCell ⟨g,i*4+1,G⟩ vk).setCell ⟨g,i*4+2,G⟩ (tL p.gone)).setCell ⟨g,i*4+3,G⟩ vv) (J (I ⟨g,0,G⟩) n cap) (l.set i p):=by
 obtain⟨us,hul,hr,hp⟩:=h;have hgr:L w ((((tD w ⟨g,i*4,G⟩ vn).setCell ⟨g,i*4+1,G⟩ vk).setCell ⟨g,i*4+2,G⟩ (tL p.gone)).setCell ⟨g,i*4+3,G⟩ vv) (I g):=Qh (Qh (Qh (Qh (Qb _ _) _ _) _ _) _ _) _ _;rcases hr.2with⟨e,_⟩|⟨g',cap',cur,e,hb,hg,hn,hm,hs,ht⟩;·cases e
 ·simp only[tG,tB,rP]at e;obtain⟨⟨rfl,_⟩,rfl,rfl⟩:=e;have hrow:(I g:Option Nat)=G∨∃g' cur t fz,(I g:Option Nat)=I g'∧0<=g'∧w.heap[g']?=I (S cur t fz)∧t≠5:=.inr ⟨g,cur,_,_,rfl,tQ _,hg,uY⟩;(have hus:us.length=l.length:=by rw[<-hul];simp);refine⟨us.set i (p,vn,vk,vv),by rw[List.map_set,hul],⟨by rw[Ia,rV,rV,hus],.inr ⟨g,cap,_,by rw[rV],hb,Qk (Qk (Qk (Qk hg))),by rw[rV];exact hn,hm,by simpa using hs,?_⟩⟩,?_⟩;(·rw[EV,rV];simp only[Array.toList_setIfInBounds];rw[pI,pI,pI,pI,ht]);·intro x hx;rcases List.mem_or_eq_of_mem_set hx with hx|rfl;(·exact⟨(hp x hx).1.keptT hgr hrow,(hp x hx).2.1.keptT hgr hrow,(hp x hx).2.2.keptT hgr hrow⟩);·exact⟨h1.keptT hgr hrow,h2.keptT hgr hrow,h3.keptT hgr hrow⟩
def Ut(n k:List UInt8)(q:Zi):Bool:=tR (q.name=n)&&tR (q.key=k)
theorem Ak{α:Type}(p:α->Bool)(d:α):∀(l:List α)(m:Nat),m<l.length->(l.take m).any p=O->p (l.getD m d)=N->l.find? p=I (l.getD m d)|[],_,h,_,_=>by simp at h|a::l,0,_,_,h=>by have h':p a=N:=h;rw[List.find?_cons_of_pos h'];rfl|a::l,m+1,h0,h1,h2=>by rw[rI,pH,rU]at h1;rw[List.find?_cons_of_neg (by rw[h1.1];decide),Ak p d l m (by simpa using h0) h1.2 (by simpa using h2)];simp
theorem Wb{α:Type}(p:α->Bool)(l:List α)(h:l.any p=O):l.find? p=G:=by
 rw[List.find?_eq_none];intro x hx hp;rw[List.any_eq_false]at h;exact h x hx hp
theorem lW{l:List Zi}{n k:List UInt8}{m:Nat}(h:m<l.length)(h1:(l.take m).any (Ut n k)=O)(h2:Ut n k (l.getD m Qr)=N):mO l n k=I (l.getD m Qr):=Ak (Ut n k) Qr l m h h1 h2
theorem fT{l:List Zi}{n k:List UInt8}(h:l.any (Ut n k)=O):mO l n k=G:=Wb (Ut n k) l h
theorem aF{l:FL}{t:Tx}{n k:List UInt8}(h:KU l t n k≠0):Gd l t n k=O∧Vs l t n k=O∧Vf l t n k=[]:=by
 rw[Gd,Vs,Vf,if_neg h,if_neg h,if_neg h];exact⟨rfl,rfl,rfl⟩
theorem gN{l:FL}{t:Tx}{n k:List UInt8}(h:xU l t≠0):KU l t n k=xU l t:=by
 rw[KU,if_neg h]
theorem Cb{l:FL}{t:Tx}(h:xU l t=0):ZN l∧zK t:=by
 unfold xU at h;by_cases hf:Q5 l=0;·rw[if_pos hf]at h;exact⟨(Xd l).1 hf,(uV t).1 h⟩
 ·rw[if_neg hf]at h;exact absurd h hf
theorem dM{l:FL}{t:Tx}{n k:List UInt8}(h:xU l t=0){m:Nat}(hm:m<t.writes.length)(h1:(t.writes.take m).any (Ut n k)=O)(h2:Ut n k (t.writes.getD m Qr)=N):KU l t n k=0∧Gd l t n k=N∧Vs l t n k=!(t.writes.getD m Qr).gone∧Vf l t n k=(t.writes.getD m Qr).value:=by
 obtain⟨hf,ht⟩:=Cb h;have ha:=lW hm h1 h2;have hs:=aS ha;have hw:=(XU _).1 (ht.wrs _ hs.1);rw[hs.2.1,hs.2.2]at hw;have h0:=LR hf ht hw.1 hw.2.1;refine⟨h0,?_,?_,?_⟩;·rw[Gd,if_pos h0,ha];rfl
 ·rw[Vs,if_pos h0,ha]
 ·rw[Vf,if_pos h0,ha]
theorem dJ{l:FL}{t:Tx}{n k:List UInt8}(h:xU l t=0)(h1:t.writes.any (Ut n k)=O):KU l t n k=UR l n k∧Gd l t n k=O∧Vs l t n k=KN l n k∧Vf l t n k=KO l n k:=by
 obtain⟨hf,ht⟩:=Cb h;have ha:=fT h1;have hfo:=(Xd l).2 hf;have hE:KU l t n k=UR l n k:=by rw[KU,if_pos h,UR,qH,if_pos hfo];by_cases hn:Qt n.length=0;(·rw[if_pos hn,if_pos hn,Xh,if_pos ((Yj _).2 (J6 hf n))]);·rw[if_neg hn,if_neg hn]
 refine⟨hE,?_,?_,?_⟩;·rw[Gd,ha];by_cases h0:KU l t n k=0;(·rw[if_pos h0];rfl);·rw[if_neg h0]
 ·rw[Vs,ha];by_cases h0:KU l t n k=0;(·rw[if_pos h0]);·rw[if_neg h0];rw[hE]at h0;rw[KN];by_cases hn:qH l n=0;(·rw[UR,if_pos hn]at h0;rw[if_pos hn,Rm];simp[h0]);·rw[if_neg hn]
 ·rw[Vf,ha];by_cases h0:KU l t n k=0;(·rw[if_pos h0]);·rw[if_neg h0];rw[hE]at h0;rw[KO];by_cases hn:qH l n=0;(·rw[UR,if_pos hn]at h0;rw[if_pos hn,R9,if_neg h0]);·rw[if_neg hn]
theorem Oy{X:PL}(h:Zd X)(k:List UInt8):Zd (uD X k):=⟨tN (LY X k) h.room,fun p hp=>h.pairs p (oN.1 hp).1,Me X k h.rises⟩
theorem D5{X:PL}(h:Zd X)(f u:List UInt8):Zd (Vx X f u):=⟨tN (II X f u) h.room,fun p hp=>h.pairs p (oN.1 hp).1,BY X f u h.rises⟩
theorem Wn{X:PL}(h:Zd X){p:Pr}(hp:(1<=p.1.length∧p.1.length<=16)∧p.2.length<=32)(hl:(Kx X p).length<=60):Zd (Kx X p):=⟨hl,Nx X p h.pairs hp,P0 X p h.rises⟩
theorem kW(n a b:List UInt8)(w:Zi):X5 ⟨n,a,N,b⟩ w=N↔w.name=n∧m9 a b w.key=N:=by
 show(tR (n=w.name)&&m9 a b w.key)=N↔_;rw[rS,decide_eq_true_iff];exact⟨fun h=>⟨h.1.symm,h.2⟩,fun h=>⟨h.1.symm,h.2⟩⟩
theorem OW{n a b:List UInt8}{w:Zi}(h:X5 ⟨n,a,N,b⟩ w=O)(X:PL):Uh n a b X w=X:=by
 rw[Uh,if_neg];intro e;rw[(kW n a b w).2 e]at h;cases h
theorem cP{n a b:List UInt8}{w:Zi}(h:X5 ⟨n,a,N,b⟩ w=N)(hg:w.gone=N){X:PL}(hX:Zd X)(hw:QD w=0):Xh X w.key=0∧xS X w.key=Uh n a b X w∧Zd (Uh n a b X w):=by
 have hk:=((XU w).1 hw).2.1;have h0:=j9 hX hk;have e:Uh n a b X w=uD X w.key:=by rw[Uh,if_pos ((kW n a b w).1 h),if_pos hg]
 refine⟨h0,by rw[e,xS,if_pos h0],by rw[e];exact Oy hX _⟩
theorem dH{n a b:List UInt8}{w:Zi}(h:X5 ⟨n,a,N,b⟩ w=N)(hg:w.gone=O){X:PL}(hX:Zd X)(hw:QD w=0):Uh n a b X w=Kx X (w.key,w.value)∧(60<(Uh n a b X w).length->KG X (w.key,w.value)=11)∧(¬60<(Uh n a b X w).length->KG X (w.key,w.value)=0∧VK X (w.key,w.value)=Uh n a b X w∧Zd (Uh n a b X w)):=by
 have hk:=(XU w).1 hw;have hv:w.value.length<=32:=by have:=hk.2.2;rw[hg,if_neg (by decide)]at this;exact this
 have e:Uh n a b X w=Kx X (w.key,w.value):=by rw[Uh,if_pos ((kW n a b w).1 h),hg,if_neg (by decide)]
 have h0:Gv X (w.key,w.value)=0:=by rw[Gv,if_pos ((Yj X).2 hX)];exact(Ys _).2 ⟨hk.2.1,hv⟩
 refine⟨e,fun hl=>?_,fun hl=>?_⟩;·rw[e]at hl;rw[KG,if_pos h0,if_pos hl]
 ·rw[e]at hl;(have h1:KG X (w.key,w.value)=0:=by rw[KG,if_pos h0,if_neg hl]);refine⟨h1,by rw[e,VK,if_pos h1],?_⟩;rw[e];exact Wn hX ⟨hk.2.1,hv⟩ (by omega)
def J0(n a b:List UInt8)(X:PL)(ws:List Zi):Int×PL:=(uT n a b X ws,if uT n a b X ws=0then Lk n a b X ws else[])
theorem LD(n a b:List UInt8)(X:PL):J0 n a b X []=(0,X):=rfl
theorem Ff{n a b:List UInt8}{X:PL}{ws:List Zi}{m:Nat}(hm:m<ws.length)(h:¬60<(Uh n a b X (ws.getD m Qr)).length):J0 n a b X (ws.drop m)=J0 n a b (Uh n a b X (ws.getD m Qr)) (ws.drop (m+1)):=by
 rw[sW hm,show ws[m]=ws.getD m Qr by simp[hm]];rw[J0,J0,uT,if_neg h];rfl
theorem CX{n a b:List UInt8}{X:PL}{ws:List Zi}{m:Nat}(hm:m<ws.length)(h:60<(Uh n a b X (ws.getD m Qr)).length):J0 n a b X (ws.drop m)=(11,[]):=by
 rw[sW hm,show ws[m]=ws.getD m Qr by simp[hm]];rw[J0,uT,if_pos h,if_neg (by decide)]
theorem fM{l:FL}{t:Tx}{n a b:List UInt8}(h:xU l t≠0):KW l t n a b=xU l t∧Gu l t n a b=[]:=by
 have e:KW l t n a b=xU l t:=by rw[KW,if_neg h]
 exact⟨e,by rw[Gu,e,if_neg h]⟩
theorem Lb{l:FL}{t:Tx}{n a b:List UInt8}(h:xU l t=0)(h1:YP l n a b≠0):KW l t n a b=YP l n a b∧Gu l t n a b=[]:=by
 obtain⟨hf,ht⟩:=Cb h;have hfo:=(Xd l).2 hf;have e:KW l t n a b=YP l n a b:=by(have hE:YP l n a b=if Qt n.length=0then(if Qn a.length=0then Qn b.length else Qn a.length)else Qt n.length:=by rw[YP,qH,if_pos hfo];by_cases hn:Qt n.length=0;(·rw[if_pos hn,if_pos hn,YM,Xh,if_pos ((Yj _).2 (J6 hf n))]);·rw[if_neg hn,if_neg hn]);rw[KW,if_pos h,hE];by_cases hn:Qt n.length=0;(·rw[if_pos hn,if_pos hn];by_cases ha:Qn a.length=0;(·rw[if_pos ha,if_pos ha];by_cases hb:Qn b.length=0;(·rw[hE,if_pos hn,if_pos ha]at h1;exact absurd hb h1);·rw[if_neg hb]);·rw[if_neg ha,if_neg ha]);·rw[if_neg hn,if_neg hn]
 exact⟨e,by rw[Gu,e,if_neg h1]⟩
theorem Sg{l:FL}{t:Tx}{n a b:List UInt8}(h:xU l t=0)(h1:YP l n a b=0):J0 n a b (KH l n a b) t.writes=(KW l t n a b,Gu l t n a b)∧Zd (KH l n a b):=by
 obtain⟨hf,ht⟩:=Cb h;have hfo:=(Xd l).2 hf;have hn:qH l n=0:=by by_cases hn:qH l n=0;(·exact hn);·rw[YP,if_neg hn]at h1;exact absurd h1 hn
 have hr:YM (XT l n) a b=0:=by rw[YP,if_pos hn]at h1;exact h1
 have hg:=AJ hr;have hb:Qn b.length=0:=by rw[YM,if_pos hg]at hr;exact hr
 have ha:Qn a.length=0:=(Zc _).2 (bJ hg);have hnn:Qt n.length=0:=(Zl _).2 (zW hn).2;have e:KH l n a b=Vx (XT l n) a b:=by rw[KH,if_pos hn,Uc,if_pos hr]
 have eE:KW l t n a b=uT n a b (Vx (XT l n) a b) t.writes:=by rw[KW,if_pos h,if_pos hnn,if_pos ha,if_pos hb]
 refine⟨?_,by rw[e];exact D5 (J6 hf n) a b⟩;rw[e,J0,Gu,eE]
def IG:Prop:=∀(w:F)(v:H)(t:Tx),qT w v t->yG t->sV M 103 #[v] w fun e w'=>e=tE (Y tA (GN t))∧L w w' G
def OQ:Prop:=∀(w:F)(v:H)(l:PL),Qq w v l->kX l->sV M 35 #[v] w fun e w'=>e=tE (Y tA (QA l))∧L w w' G
theorem Tu{w:F}{o:rJ}{a:Act}{K:Act->F->Prop}{Q:Exit->Act->F->Prop}(s x:rH)(ho:o.op=.call {callee:=.builtin .append,args:=#[s,x],argTypes:=#[41,41]})(rb base:Nat)(hrb:base<=rb)(v:H)(l:PL)(hs:a.eval s=v)(hown:KQ rb base w v l)(vk vv:H)(p:Pr)(hk:Qj base w vk p.1)(hv:Qj base w vv p.2)(nb:Nat)(hb:w.heap[nb]?=I (S #[vk,vv] 44))(hx:a.eval x=J (I ⟨nb,0,G⟩) 1 1)(hl:(l.length+1)*48<=140737488355328)(hbase:rb<=w.heap.size)(h:∀v' w',KQ rb base w' v' (l++[p])->L w w' v.ownBlock->K (a.put o.dst v') w'):o.wp M a w K Q:=by
 obtain⟨i0,hi,hz0,hz1,hz2⟩:=r8 Ba;have hrow:=hown.row hrb;obtain⟨vs,hvl,hr,hp⟩:=hown;refine wp_append_lies w s x 41 ho rb 44 i0 (sQ #[J G 0 0,J G 0 0]) 2 48 Tryz.underlying41 hi hz0 hz1 hz2 rfl (by decide) v l.length (flat vs) hs hr ⟨nb,0,G⟩ 1 1 (flat [(vk,vv)]) hx rfl (rA (cs:=#[vk,vv]) hb) ?_ (by omega) (by unfold pK;omega) hl hbase _ rfl ?_;·intro u hu;simp only[flat,tP,rG,rK,tK,tM,or_false]at hu;rcases hu with rfl|rfl;(·exact ZQ hk);·exact ZQ hv
 ·intro g cap w' h1 h2 _ _;refine h _ w' ⟨vs++[(vk,vv)],by simp[hvl],?_,?_⟩ h2;(·rw[Ki,tC];exact h1);·intro i hi;rw[Ju,Ju,hvl];by_cases hil:i<l.length;(·rw[if_pos hil,if_pos hil];exact⟨(hp i hil).1.kept h2 hrow,(hp i hil).2.kept h2 hrow⟩);·rw[if_neg hil,if_neg hil];(obtain rfl:i=l.length:=by simp at hi;omega);rw[oS];exact⟨hk.kept h2 hrow,hv.kept h2 hrow⟩
theorem GK{w:F}{ops:Array rJ}{o:rJ}{a:Act}{K:Act->F->Prop}{Q:Exit->Act->F->Prop}{E:Prop}(hgd:o.guard=G)(s x:rH)(ho:o.op=.call {callee:=.builtin .append,args:=#[s,x],argTypes:=#[41,41]})(rb base:Nat)(hrb:base<=rb)(v:H)(l:PL)(hs:a.eval s=v)(hown:KQ rb base w v l)(vk vv:H)(p:Pr)(hk:Qj base w vk p.1)(hv:Qj base w vv p.2)(nb:Nat)(hb:w.heap[nb]?=I (S #[vk,vv] 44))(hx:a.eval x=J (I ⟨nb,0,G⟩) 1 1)(hl:(l.length+1)*48<=140737488355328)(hbase:rb<=w.heap.size)(h:∀v' w',KQ rb base w' v' (l++[p])->L w w' v.ownBlock->K (a.put o.dst v') w'):if sD o (pF ops a.tmps)=N then Oper.wp M o a w K Q else E:=by
 have hw:sD o (pF ops a.tmps)=N:=by simp[sD,hgd]
 rw[if_pos hw];exact Tu s x ho rb base hrb v l hs hown vk vv p hk hv nb hb hx hl hbase h
theorem Eu(w:F):(sizeOf (M.elem 41)).run M w=.ok 2 w:=by
 kernel_rfl
theorem Qq.sliced{w:F}{a:Option rC}{cap:Nat}{l:PL}(h:Qq w (J a l.length cap) l)(i j:Nat)(hij:i<=j)(hj:j<=l.length):Qq w (sR a i j cap 2) ((l.take j).drop i):=by
 obtain⟨a',cap',e,hc,h⟩:=h;simp only[tG,true_and]at e;obtain⟨rfl,rfl⟩:=e;have hlen:((l.take j).drop i).length=j-i:=by simp;omega
 refine⟨if cap=i then a else a.map (·.add (i*2)),cap-i,by rw[hlen];rfl,by rw[hlen];omega,?_⟩;by_cases hci:cap=i;·left;exact⟨tJ (by rw[hlen];omega),fun _=>by omega⟩
 ·rw[if_neg hci];rcases h with⟨rfl,h⟩|⟨b,o,rfl,h⟩;(·left;refine⟨by simp,fun e=>?_⟩;cases a with|none=>have:=h rfl;simp at hj;omega|some x=>cases e);·right;refine⟨b,o+i*2,by simp[Xm],fun k hk=>?_⟩;rw[hlen]at hk;have:=h (i+k) (by omega);(have e:((l.take j).drop i).getD k ([],[])=l.getD (i+k) ([],[]):=by simp[show i+k<j by omega]);rw[e,show o+i*2+k*2=o+(i+k)*2by omega];exact this
theorem Pp(a:Option rC)(cap:Nat)(l:PL)(n:Nat)(hn:n<=l.length)(hc:l.length<=cap):∃a1 c1,(∀W,(rX 41 (J a l.length cap) G (I (Y tA (n:Int))) G).run M W=.ok (J a1 n c1) W)∧∀W,Qq W (J a l.length cap) l->Qq W (J a1 n c1) (l.take n):=by
 refine⟨if cap=0then a else a.map (·.add (0*2)),cap-0,fun W=>?_,fun W h=>?_⟩;·rw[run_slice_h _ _ _ _ _ (by kernel_rfl) _ _ (by omega) (by omega),Eu];simp only[rO,sR,rD,pJ]
 ·have:=h.sliced 0 n (by omega) hn;simpa only[sR,oR,pJ]using this
theorem PG(a:Option rC)(cap:Nat)(l:PL)(n:Nat)(hn:n<=l.length):∃a1 c1,(∀W,(rX 41 (J a l.length cap) (I (Y tA (n:Int))) G G).run M W=.ok (J a1 (l.length-n) c1) W)∧∀W,Qq W (J a l.length cap) l->Qq W (J a1 (l.length-n) c1) (l.drop n):=by
 refine⟨if cap=n then a else a.map (·.add (n*2)),cap-n,fun W=>?_,fun W h=>?_⟩;·rw[run_slice_l _ _ _ _ _ (by kernel_rfl) _ _ (by omega) (by omega),Eu];simp only[rO,sR,rD]
 ·have:=h.sliced n l.length hn (sA _);simpa only[sR,sC]using this
theorem Mw(a:Option rC)(cap:Nat)(l:PL)(i j:Nat)(hij:i<=j)(hj:j<=l.length)(hc:l.length<=cap):∃a1 c1,(∀W,(rX 41 (J a l.length cap) (I (Y tA (i:Int))) (I (Y tA (j:Int))) G).run M W=.ok (J a1 (j-i) c1) W)∧∀W,Qq W (J a l.length cap) l->Qq W (J a1 (j-i) c1) ((l.take j).drop i):=by
 refine⟨if cap=i then a else a.map (·.add (i*2)),cap-i,fun W=>?_,fun W h=>?_⟩;·rw[run_slice_lh _ _ _ _ _ (by kernel_rfl) _ _ _ _ (by omega) (by omega) (by omega),Eu];simp only[rO,sR,rD]
 ·have:=h.sliced i j hij hj;simpa only[sR]using this
theorem Qq.cap{w:F}{a:Option rC}{n cap:Nat}{l:PL}(h:Qq w (J a n cap) l):l.length<=cap:=by
 obtain⟨a',cap',e,hc,_⟩:=h;simp only[tG]at e;obtain⟨_,_,rfl⟩:=e;exact hc
def dG:Prop:=∀(w:F)(v:H)(l:FL),ZG w v l->VH l->sV M 16 #[v] w fun e w'=>e=tE (Y tA (Q5 l))∧L w w' G
def Cc:Prop:=∀(w:F)(v u:H)(l:FL)(ws:List Zi),ZG w v l->QS w u ws->VH l->vC ws->sV M 108 #[v,u] w fun e w'=>∃x,e=tE (sE #[x,Y tA (Q4 l ws)])∧ZG w' x (XC l ws)∧L w w' G
theorem ZJ.down{base:Nat}{w:F}{v:H}{l:FL}(h:ZJ base w v l)(b2:Nat)(hb:b2<=base):ZJ b2 w v l:=by
 obtain⟨vs,h1,h2,h3⟩:=h;refine⟨vs,h1,⟨h2.1,?_⟩,h3⟩;rcases h2.2with h|⟨g,cap,cur,e,hb2,rest⟩;·exact .inl h
 ·exact .inr ⟨g,cap,cur,e,tN hb hb2,rest⟩
def jB:Prop:=∀(w:F)(v u:H)(l:FL)(ws:List Zi),ZG w v l->QS w u ws->VH l->vC ws->sV M 108 #[v,u] w fun e w'=>∃x,e=tE (sE #[x,Y tA (Q4 l ws)])∧ZJ w.heap.size w' x (XC l ws)∧L w w' G
theorem jB.ok(h:jB):Cc:=fun w v u l ws h1 h2 h3 h4=>(h w v u l ws h1 h2 h3 h4).mono (by
 rintro e w'⟨x,rfl,hx,hg⟩;exact⟨x,rfl,hx.list,hg⟩)
theorem xA(w:F)(b i:Nat)(u:H):∃W:F,Hid (W=tD w ⟨b,i,G⟩ u)∧L w W (I b):=⟨_,rfl,Y0 w b i u⟩
theorem xK{w:F}{ops:Array rJ}{o:rJ}{a:Act}{K:Act->F->Prop}{Q:Exit->Act->F->Prop}{E:Prop}(hgd:o.guard=G)(s x:rH)(ho:o.op=.call {callee:=.builtin .append,args:=#[s,x],argTypes:=#[86,86]})(rb:Nat)(v:H)(l:List Zi)(hs:a.eval s=v)(hown:Q6 rb 0 w v l)(vn vk vv:H)(p:Zi)(h1:Qj 0 w vn p.name)(h2:Qj 0 w vk p.key)(h3:Qj 0 w vv p.value)(nb:Nat)(hb:w.heap[nb]?=I (S #[vn,vk,tL p.gone,vv] 172))(hx:a.eval x=J (I ⟨nb,0,G⟩) 1 1)(hl:(l.length+1)*80<=140737488355328)(hbase:rb<=w.heap.size)(h:∀v' w',Q6 rb 0 w' v' (l++[p])->L w w' v.ownBlock->K (a.put o.dst v') w'):if sD o (pF ops a.tmps)=N then Oper.wp M o a w K Q else E:=by
 have hw:sD o (pF ops a.tmps)=N:=by simp[sD,hgd]
 rw[if_pos hw];obtain⟨i0,hi,hz0,hz1,hz2⟩:=r8 dY;have hrow:v.ownBlock=G∨∃g cur t fz,v.ownBlock=I g∧0<=g∧w.heap[g]?=I (S cur t fz)∧t≠5:=by rcases hown.row with h|⟨g,cur,fz,e,_,h⟩;(·exact .inl h);·exact .inr ⟨g,cur,_,fz,e,tQ _,h,uY⟩
 obtain⟨us,hul,hr,hp⟩:=hown;refine wp_append_lies w s x 86 ho rb 172 i0 (sQ #[J G 0 0,J G 0 0,tL O,J G 0 0]) 4 80 Tryz.underlying86 hi hz0 hz1 hz2 rfl (by decide) v l.length (Jg us) hs hr ⟨nb,0,G⟩ 1 1 (Jg [(p,vn,vk,vv)]) hx rfl (rA (cs:=#[vn,vk,tL p.gone,vv]) hb) ?_ (by omega) (by unfold pK;omega) hl hbase _ rfl ?_;·intro u hu;simp only[Jg,tP,rG,rK,tK,tM,or_false]at hu;rcases hu with rfl|rfl|rfl|rfl;(·exact ZQ h1);(·exact ZQ h2);(·rfl);·exact ZQ h3
 ·intro g cap w' q1 q2 _ _;refine h _ w' ⟨us++[(p,vn,vk,vv)],by simp[hul],?_,?_⟩ q2;(·rw[vL,tC];exact q1);·intro y hy;rcases tY.1 hy with hy|hy;(·exact⟨(hp y hy).1.keptT q2 hrow,(hp y hy).2.1.keptT q2 hrow,(hp y hy).2.2.keptT q2 hrow⟩);·simp only[tK,tM,or_false]at hy;subst hy;exact⟨h1.keptT q2 hrow,h2.keptT q2 hrow,h3.keptT q2 hrow⟩
theorem yR{w:F}{ops:Array rJ}{o:rJ}{a:Act}{K:Act->F->Prop}{Q:Exit->Act->F->Prop}{E:Prop}(hgd:o.guard=G)(s x:rH)(ho:o.op=.call {callee:=.builtin .append,args:=#[s,x],argTypes:=#[85,85]})(rb:Nat)(v:H)(l:List Rd)(hs:a.eval s=v)(hown:ZW rb 0 w v l)(vn vk vv:H)(p:Rd)(h1:Qj 0 w vn p.name)(h2:Qj 0 w vk p.key)(h3:Qj 0 w vv p.last)(nb:Nat)(hb:w.heap[nb]?=I (S #[vn,vk,tL p.wide,vv] 191))(hx:a.eval x=J (I ⟨nb,0,G⟩) 1 1)(hl:(l.length+1)*80<=140737488355328)(hbase:rb<=w.heap.size)(h:∀v' w',ZW rb 0 w' v' (l++[p])->L w w' v.ownBlock->K (a.put o.dst v') w'):if sD o (pF ops a.tmps)=N then Oper.wp M o a w K Q else E:=by
 have hw:sD o (pF ops a.tmps)=N:=by simp[sD,hgd]
 rw[if_pos hw];obtain⟨i0,hi,hz0,hz1,hz2⟩:=r8 mJ;have hrow:v.ownBlock=G∨∃g cur t fz,v.ownBlock=I g∧0<=g∧w.heap[g]?=I (S cur t fz)∧t≠5:=by rcases hown.row with h|⟨g,cur,fz,e,_,h⟩;(·exact .inl h);·exact .inr ⟨g,cur,_,fz,e,tQ _,h,mM⟩
 obtain⟨us,hul,hr,hp⟩:=hown;refine wp_append_lies w s x 85 ho rb 191 i0 (sQ #[J G 0 0,J G 0 0,tL O,J G 0 0]) 4 80 Tryz.underlying85 hi hz0 hz1 hz2 rfl (by decide) v l.length (GY us) hs hr ⟨nb,0,G⟩ 1 1 (GY [(p,vn,vk,vv)]) hx rfl (rA (cs:=#[vn,vk,tL p.wide,vv]) hb) ?_ (by omega) (by unfold pK;omega) hl hbase _ rfl ?_;·intro u hu;simp only[GY,tP,rG,rK,tK,tM,or_false]at hu;rcases hu with rfl|rfl|rfl|rfl;(·exact ZQ h1);(·exact ZQ h2);(·rfl);·exact ZQ h3
 ·intro g cap w' q1 q2 _ _;refine h _ w' ⟨us++[(p,vn,vk,vv)],by simp[hul],?_,?_⟩ q2;(·rw[MI,tC];exact q1);·intro y hy;rcases tY.1 hy with hy|hy;(·exact⟨(hp y hy).1.keptT q2 hrow,(hp y hy).2.1.keptT q2 hrow,(hp y hy).2.2.keptT q2 hrow⟩);·simp only[tK,tM,or_false]at hy;subst hy;exact⟨h1.keptT q2 hrow,h2.keptT q2 hrow,h3.keptT q2 hrow⟩
def dR:Prop:=∀(w:F)(v:H)(r:Rq),Vi w->XV w v r->jH r->sV M 98 #[v] w fun e w'=>∃x,e=tE (sE #[x,Y tA (Uy r)])∧YE w' x (ZC r)∧L w w' G
def Z6(K:Int)(n q l v:Nat):Nat->Bool|0=>O|1=>!QT K 0&&tR (0<n)|2=>(!QT K 0&&tR (0<n))||(!QT K 1&&tR (0<q))|3=>((!QT K 0&&tR (0<n))||(!QT K 1&&tR (0<q)))||(!QT K 2&&tR (0<l))|_=>(((!QT K 0&&tR (0<n))||(!QT K 1&&tR (0<q)))||(!QT K 2&&tR (0<l)))||(!QT K 3&&tR (0<v))
def nR(K:Int)(n q l v:Nat):Int:=if(tR (Qt n≠0)&&QT K 0)=N then Qt n else if(tR (Qn q≠0)&&QT K 1)=N then Qn q else if(tR (Qn l≠0)&&QT K 2)=N then Qn l else if 32<v then 1 else if Z6 K n q l v 4=N then 4 else 0
theorem mI(r:Rq)(hk:1<=r.kind∧r.kind<=8):Yy r=nR r.kind r.name.length r.key.length r.last.length r.value.length:=by
 rw[Yy,if_pos hk];have hf:ER r=if Z6 r.kind r.name.length r.key.length r.last.length r.value.length 4=N then 4 else 0:=by unfold ER;by_cases h1:QZ r.kind=O∧0<r.name.length+r.key.length;(·rw[if_pos h1,if_pos];by_cases h2:0<r.name.length;(·simp[Z6,QT,h1.1,h2]);·(have h3:0<r.key.length:=by omega);simp[Z6,QT,h1.1,h3]);·rw[if_neg h1];by_cases h2:(r.kind≠3∧0<r.last.length)∨(r.kind≠4∧0<r.value.length);(·rw[if_pos h2,if_pos];rcases h2 with⟨h2,h3⟩|⟨h2,h3⟩;(·simp[Z6,QT,h2,h3]);·simp[Z6,QT,h2,h3]);·rw[if_neg h2,if_neg];intro hb;simp only[Z6,QT,Bool.or_eq_true,rS,Bool.not_eq_true',decide_eq_true_iff,decide_eq_false_iff_not]at hb;rcases hb with((hb|hb)|hb)|hb;(·exact h1 ⟨hb.1,by omega⟩);(·exact h1 ⟨hb.1,by omega⟩);(·exact h2 (.inl hb));·exact h2 (.inr hb)
 rw[hf];unfold jP nR;generalize Z6 r.kind r.name.length r.key.length r.last.length r.value.length 4=B;show _=if(tR (Qt r.name.length≠0)&&QZ r.kind)=N then _ else if(tR (Qn r.key.length≠0)&&QZ r.kind)=N then _ else if(tR (Qn r.last.length≠0)&&tR (r.kind=3))=N then _ else _;have h3:r.kind=3->QZ r.kind=N:=fun h=>by rw[h];decide
 generalize Qt r.name.length=A at*;generalize Qn r.key.length=C at*;generalize Qn r.last.length=D at*;cases hN:QZ r.kind with|false=>(have h3':¬r.kind=3:=fun h=>by rw[h3 h]at hN;cases hN);simp[h3']|true=>by_cases hA:A=0;(·by_cases hC:C=0;(·by_cases h4:r.kind=3;(·by_cases hD:D=0;(·simp[hA,hC,h4,hD]);·simp[hA,hC,h4,hD]);·simp[hA,hC,h4]);·simp[hA,hC]);·simp[hA]
theorem l5(r:Rq)(hk:¬(1<=r.kind∧r.kind<=8)):Yy r=5:=by
 rw[Yy,if_neg hk]
def Wm:Prop:=∀(w:F)(v u a b:H)(l:FL)(t:Tx)(n k:List UInt8),ZG w v l->VH l->qT w u t->yG t->Qe w a n->Qe w b k->n.length<=140737488355328->k.length<=140737488355328->sV M 86 #[v,u,a,b] w fun e w'=>∃x,e=tE (sE #[sQ #[tL (Vs l t n k),x],tL (Gd l t n k),Y tA (KU l t n k)])∧Qj 0 w' x (Vf l t n k)∧L w w' G
def De:Prop:=∀(w:F)(v r u:H)(l:FL)(n k:List UInt8),ZG w v l->Qe w r n->Qe w u k->VH l->n.length<=140737488355328->k.length<=140737488355328->sV M 12 #[v,r,u] w fun e w'=>∃x,e=tE (sE #[sQ #[tL (KN l n k),x],Y tA (UR l n k)])∧Qe w' x (KO l n k)∧L w w' G
theorem Qe.findS{w:F}{v:H}{bs:List UInt8}(h:Qe w v bs){nb:Nat}{b:Bool}{xa:Option rC}{xn xc:Nat}{t:tW}(hb:w.heap[nb]?=I (S #[tL b,J xa xn xc] t))(u1 u2:H):Qe ((tD w ⟨nb,0,G⟩ u1).setCell ⟨nb,1,G⟩ u2) v bs:=by
 obtain⟨a,cap,rfl,hc,h⟩:=h;refine⟨a,cap,rfl,hc,?_⟩;rcases h with h|⟨c,o,rfl,h⟩;·exact .inl h
 ·refine .inr ⟨c,o,rfl,fun i hi=>?_⟩;have hx:=h i hi;(have hne:c≠nb:=by rintro rfl;match hj:o+i with|0=>rw[hj]at hx;simp[tS,hb]at hx|1=>rw[hj]at hx;simp[tS,hb]at hx|n+2=>rw[hj]at hx;simp[tS,hb]at hx);rw[r7 _ _ _ _ (fun e=>hne (congrArg Addr.block e).symm),r7 _ _ _ _ (fun e=>hne (congrArg Addr.block e).symm)];exact hx
theorem XY{w:F}{b:Nat}{x y:H}{t:tW}(h:w.heap[b]?=I (S #[x,y] t)):w.cell? ⟨b,0,G⟩=I x∧w.cell? ⟨b,1,G⟩=I y∧w.frozen? ⟨b,0,G⟩=O∧w.frozen? ⟨b,1,G⟩=O:=by
 refine⟨?_,?_,?_,?_⟩<;>simp[tS,pA,h]
section
variable{D:List UInt8->List UInt8}{v u:Sv}
theorem Cz(hD:∀x,(D x).length=4)(h:Zq D v)(hs:v.synced=v.commits.length){k:Int}(hk:0<=k):U7 D v k=GC O v.tape v.commits v.out:=by
 obtain⟨j,h1,h2,h3,_⟩:=zN hD h hk;obtain rfl:j=v.commits.length:=by omega
 rw[h3,sC];have hm:=h.mark;rw[hs,sC]at hm;have:(⟨Q7 D v.commits,((Q7 D v.commits).length:Int)⟩:Gz)=v.tape:=by rw[<-hm,<-h.data]
 rw[this]
end
section
structure Se where
  begun : Bool
  start : Int
  writes : List Zi
structure Md where
  ses : Nat -> Se
  states : List FL
variable{D:List UInt8->List UInt8}{v:Sv}{m:Md}
theorem G3(v:Sv)(n:Nat):ZN (QH v n):=VR _ _ UV
end
section
variable{D:List UInt8->List UInt8}{v:Sv}{m:Md}
theorem CQ{r:Rq}(hr:JE r)(hk:r.kind=2∨r.kind=3):(1<=r.name.length∧r.name.length<=8)∧(1<=r.key.length∧r.key.length<=16):=by
 have:QZ r.kind=N:=by rcases hk with e|e<;>rw[e]<;>decide
 exact⟨hr.name this,hr.key this⟩
end
def IL:Prop:=∀(w:F)(v u:H)(t:Tx)(l:List XO),qT w v t->yG t->Jk w u l->A9 l->sV M 107 #[v,u] w fun e w'=>e=tE (sE #[tL (U2 t l),Y tA (Rj t)])∧L w w' G
def iF:Prop:=∀(w:F)(v:H)(c:XO),Kn w v c->Mi c->sV M 133 #[v] w fun e w'=>∃x,e=tE (sE #[x,Y tA (Zb c)])∧Qe w' x (Ro c)∧L w w' G
def Wl:Prop:=∀(w:F)(v:H)(c:XO),Kn w v c->Mi c->sV M 137 #[v] w fun e w'=>e=tE (Y tA (Zb c))∧L w w' G
theorem Rc(w:F):(sizeOf (M.elem 24)).run M w=.ok 1 w:=by
 kernel_rfl
theorem Qe.cap{w:F}{a:Option rC}{n cap:Nat}{bs:List UInt8}(h:Qe w (J a n cap) bs):bs.length<=cap∧n=bs.length:=by
 obtain⟨a',cap',e,hc,_⟩:=h;simp only[tG]at e;obtain⟨_,rfl,rfl⟩:=e;exact⟨hc,rfl⟩
theorem Qe.byte{w:F}{a:Option rC}{n cap:Nat}{bs:List UInt8}(h:Qe w (J a n cap) bs)(i:Nat)(hi:i<bs.length):∃b o,a=I ⟨b,o,G⟩∧K6 w b o bs:=by
 obtain⟨a',cap',e,hc,h⟩:=h;simp only[tG]at e;obtain⟨rfl,rfl,rfl⟩:=e;rcases h with⟨rfl,_⟩|⟨b,o,rfl,h⟩;·simp at hi
 ·exact⟨b,o,rfl,h⟩
theorem Qe.sliced{w:F}{a:Option rC}{cap:Nat}{l:List UInt8}(h:Qe w (J a l.length cap) l)(i j:Nat)(hij:i<=j)(hj:j<=l.length):Qe w (sR a i j cap 1) ((l.take j).drop i):=by
 obtain⟨a',cap',e,hc,h⟩:=h;simp only[tG,true_and]at e;obtain⟨rfl,rfl⟩:=e;have hlen:((l.take j).drop i).length=j-i:=by simp;omega
 refine⟨if cap=i then a else a.map (·.add (i*1)),cap-i,by rw[hlen];rfl,by rw[hlen];omega,?_⟩;by_cases hci:cap=i;·left;exact⟨tJ (by rw[hlen];omega),fun _=>by omega⟩
 ·rw[if_neg hci];rcases h with⟨rfl,h⟩|⟨b,o,rfl,h⟩;(·left;refine⟨by simp,fun e=>?_⟩;cases a with|none=>have:=h rfl;simp at hj;omega|some x=>cases e);·right;refine⟨b,o+i,by simp[Xm],fun k hk=>?_⟩;rw[hlen]at hk;have:=h (i+k) (by omega);(have e:((l.take j).drop i).getD k 0=l.getD (i+k) 0:=by simp[show i+k<j by omega]);rw[e,show o+i+k=o+(i+k)by omega];exact this
theorem yB(a:Option rC)(cap:Nat)(l:List UInt8)(n:Nat)(hn:n<=l.length)(hc:l.length<=cap):∃a1 c1,(∀W,(rX 24 (J a l.length cap) G (I (Y tA (n:Int))) G).run M W=.ok (J a1 n c1) W)∧∀W,Qe W (J a l.length cap) l->Qe W (J a1 n c1) (l.take n):=by
 refine⟨if cap=0then a else a.map (·.add (0*1)),cap-0,fun W=>?_,fun W h=>?_⟩;·rw[run_slice_h _ _ _ _ _ (by kernel_rfl) _ _ (by omega) (by omega),Rc];simp only[rO,sR,rD,pJ]
 ·have:=h.sliced 0 n (by omega) hn;simpa only[sR,oR,pJ]using this
theorem qN(a:Option rC)(cap:Nat)(l:List UInt8)(i j:Nat)(hij:i<=j)(hj:j<=l.length)(hc:l.length<=cap):∃a1 c1,(∀W,(rX 24 (J a l.length cap) (I (Y tA (i:Int))) (I (Y tA (j:Int))) G).run M W=.ok (J a1 (j-i) c1) W)∧∀W,Qe W (J a l.length cap) l->Qe W (J a1 (j-i) c1) ((l.take j).drop i):=by
 refine⟨if cap=i then a else a.map (·.add (i*1)),cap-i,fun W=>?_,fun W h=>?_⟩;·rw[run_slice_lh _ _ _ _ _ (by kernel_rfl) _ _ _ _ (by omega) (by omega) (by omega),Rc];simp only[rO,sR,rD]
 ·have:=h.sliced i j hij hj;simpa only[sR]using this
theorem Gl(a:Option rC)(cap:Nat)(l:List UInt8)(n:Nat)(hn:n<=l.length):∃a1 c1,(∀W,(rX 24 (J a l.length cap) (I (Y tA (n:Int))) G G).run M W=.ok (J a1 (l.length-n) c1) W)∧∀W,Qe W (J a l.length cap) l->Qe W (J a1 (l.length-n) c1) (l.drop n):=by
 refine⟨if cap=n then a else a.map (·.add (n*1)),cap-n,fun W=>?_,fun W h=>?_⟩;·rw[run_slice_l _ _ _ _ _ (by kernel_rfl) _ _ (by omega) (by omega),Rc];simp only[rO,sR,rD]
 ·have:=h.sliced n l.length hn (sA _);simpa only[sR,sC]using this
theorem CS{ws:List Zi}(hn:ws.length<=1000)(h:∀w∈ws,QD w=0):vC ws:=⟨by
 omega,fun j hj=>by
 have h0:=h ws[j] (sP hj);rw[show ws[j]=ws.getD j Qr by simp[hj]]at h0;have h2:=(XU _).1 h0;have h3:(ws.getD j Qr).value.length<=32:=by have:=h2.2.2;split at this;(·rw[this];simp);·exact this
 exact⟨by omega,by omega,by omega⟩⟩
theorem DV{c:XO}(h:Zb c=0):Mi c:=by
 obtain⟨h1,h2,h3⟩:=(Ud c).1 h;exact⟨by omega,CS (by omega) h3⟩
def Od:Prop:=∀(w:F)(v u a b c:H)(l:FL)(t:Tx)(n k m:List UInt8),ZG w v l->VH l->qT w u t->yG t->Qe w a n->Qe w b k->Qe w c m->n.length<=140737488355328->k.length<=140737488355328->m.length<=140737488355328->sV M 88 #[v,u,a,b,c] w fun e w'=>∃x,e=tE (sE #[x,Y tA (KW l t n k m)])∧QP 0 w' x (Gu l t n k m)∧L w w' G
def OK:Prop:=∀(w:F)(v u x:H)(l:PL)(f t:List UInt8),Qq w v l->Qe w u f->Qe w x t->kX l->f.length<=140737488355328->t.length<=140737488355328->sV M 122 #[v,u,x] w fun e w'=>∃y,e=tE (sE #[y,Y tA (YM l f t)])∧QP 0 w' y (Uc l f t)∧L w w' G
def Oe:Prop:=∀(w:F)(v r u t:H)(l:FL)(n k m:List UInt8),ZG w v l->Qe w r n->Qe w u k->Qe w t m->VH l->n.length<=140737488355328->k.length<=140737488355328->m.length<=140737488355328->sV M 100 #[v,r,u,t] w fun e w'=>∃x,e=tE (sE #[x,Y tA (YP l n k m)])∧QP 0 w' x (KH l n k m)∧L w w' G
def Mz:Prop:=∀(w:F)(v:H)(bs:List UInt8)(i:Int),Qe w v bs->sV M 67 #[v,Y tA i] w fun e w'=>e=tE (sE #[tL (vX bs i).1,Y tA (vX bs i).2])∧L w w' G
theorem Mz.of(hB:Mz)(w:F)(v:H)(k:List UInt8)(i:Nat)(hv:Qe w v k)(hk:1<=k.length∧k.length<=16)(hi:i<145):sV M 67 #[v,Y tA (i:Int)] w fun e w'=>e=tE (sE #[tL (ZH k i),Y tA 0])∧L w w' G:=by
 have:=hB w v k i hv;rw[gA k i hk hi]at this;exact this
def EF:Prop:=∀(w:F)(v u:H)(a b:List UInt8),Qe w v a->Qe w u b->sV M 65 #[v,u] w fun e w'=>e=tE (sE #[Y tA (TW a b).1,Y tA (TW a b).2])∧L w w' G
theorem EF.of(hP:EF)(w:F)(v u:H)(a b:List UInt8)(hv:Qe w v a)(hu:Qe w u b)(ha:1<=a.length∧a.length<=16)(hb:1<=b.length∧b.length<=16):sV M 65 #[v,u] w fun e w'=>e=tE (sE #[Y tA (J8 a b),Y tA 0])∧L w w' G:=by
 have:=hP w v u a b hv hu;rw[cK a b ha hb]at this;exact this
def Ls:Prop:=∀(w:F)(v u:H)(t:Tx)(r:Zi),qT w v t->yG t->Xg w u r->Y6 r->sV M 90 #[v,u] w fun e w'=>∃x,e=tE (sE #[x,Y tA (Xp t r)])∧qO w' x (YQ t r)∧L w w' G
def Ww:Prop:=∀(w:F)(v:H)(r:Rq),Vi w->XV w v r->jH r->sV M 89 #[v] w fun e w'=>∃x,e=tE (sE #[x,Y tA (Jz r)])∧Xg w' x (XG r)∧L w w' G
def cM:Prop:=∀(w:F)(n t:Int),-9223372036854775808<=n->n<=9223372036854775807->-9223372036854775808<=t->t<=9223372036854775807->sV M 85 #[Y tA n,Y tA t] w fun e w'=>e=tE (tL (Z9 n t))∧L w w' G
def fL:Prop:=∀(w:F)(v:H)(b:List UInt8),Vi w->Qe w v b->b.length<=140737488355328->sV M 11 #[v] w fun e w'=>∃x,e=tE (sE #[x,Y tA (QK b)])∧XV w' x (Qw b)∧L w w' G
theorem Ok(b:List UInt8)(n:Nat)(h:n<b.length):ZD (b.drop n)=if n+1+(b.getD n 0).toNat<=b.length then I ((b.take (n+1+(b.getD n 0).toNat)).drop (n+1),b.drop (n+1+(b.getD n 0).toNat))else G:=by
 rw[sW h,ZD,show b[n]=b.getD n 0 by simp[h],pV];by_cases hc:n+1+(b.getD n 0).toNat<=b.length;·rw[if_pos (by omega),if_pos hc,List.drop_take,List.drop_drop,Nat.add_sub_cancel_left]
 ·rw[if_neg (by omega),if_neg hc]
def Ep(ws:List Zi):Prop:=∀p∈ws,p.name.length<=255∧p.key.length<=255∧p.value.length<=255
theorem BN{ws:List Zi}{p:Zi}(h:Ep ws)(hp:p.name.length<=255∧p.key.length<=255∧p.value.length<=255):Ep (ws++[p]):=fun q hq=>by
 rcases tY.1 hq with hq|hq;·exact h q hq
 ·simp only[tK,tM,or_false]at hq;rw[hq];exact hp
theorem IC{b:List UInt8}(h:4000<b.length):YU b=1∧JZ b=Zr:=by
 have:YU b=1:=by rw[YU,if_pos h]
 exact⟨this,by rw[JZ,this,if_neg (by decide)]⟩
theorem Lp{b:List UInt8}(h:b.length<4):YU b=14∧JZ b=Zr:=by
 have:YU b=14:=by rw[YU,if_neg (by omega),if_pos h]
 exact⟨this,by rw[JZ,this,if_neg (by decide)]⟩
theorem Wy{b:List UInt8}(h1:¬4000<b.length)(h2:¬b.length<4)(h:qX b=G):YU b=14∧JZ b=Zr:=by
 have:YU b=14:=by rw[YU,if_neg h1,if_neg h2,h]
 exact⟨this,by rw[JZ,this,if_neg (by decide)]⟩
theorem Wj{b r:List UInt8}{ws:List Zi}(h1:¬4000<b.length)(h2:¬b.length<4)(h:qX b=I (ws,r))(hr:r.length≠0):YU b=4∧JZ b=Zr:=by
 have:YU b=4:=by rw[YU,if_neg h1,if_neg h2,h];show(if r.length=0then _ else(4:Int))=4;rw[if_neg hr]
 exact⟨this,by rw[JZ,this,if_neg (by decide)]⟩
theorem IZ{b r:List UInt8}{ws:List Zi}(h1:¬4000<b.length)(h2:¬b.length<4)(h:qX b=I (ws,r))(hr:r.length=0):YU b=Zb ⟨(GF b:Int),ws⟩∧(YU b=0->JZ b=⟨(GF b:Int),ws⟩)∧(YU b≠0->JZ b=Zr):=by
 have:YU b=Zb ⟨(GF b:Int),ws⟩:=by rw[YU,if_neg h1,if_neg h2,h];show(if r.length=0then _ else(4:Int))=_;rw[if_pos hr]
 refine⟨this,fun h0=>?_,fun h0=>?_⟩;·rw[JZ,if_pos h0,h]
 ·rw[JZ,if_neg h0]
def Xn(k:Int)(m:Nat)(p0 p1 p2 p3 r:List UInt8):Option (Rq×List UInt8):=match m with|0=>Ym k r|1=>VC k p0 r|2=>VG k p0 p1 r|3=>VE k p0 p1 p2 r|_=>I (⟨k,p0,p1,p2,p3⟩,r)
theorem Km(r:List UInt8):Jt N r=ZD r:=rfl
theorem jQ(r:List UInt8)(h:r.length=0):ZD r=G:=by
 rw[tJ h];rfl
theorem vF(r:List UInt8)(h:0<r.length):ZD r=if 1+(r.getD 0 0).toNat<=r.length then I ((r.take (1+(r.getD 0 0).toNat)).drop 1,r.drop (1+(r.getD 0 0).toNat))else G:=by
 have:=Ok r 0 h;rw[sN]at this;exact this
theorem zI(k:Int)(p0 p1 p2 p3 r:List UInt8):(QT k 0=O->Xn k 0 p0 p1 p2 p3 r=Xn k 1 [] p1 p2 p3 r)∧(QT k 1=O->Xn k 1 p0 p1 p2 p3 r=Xn k 2 p0 [] p2 p3 r)∧(QT k 2=O->Xn k 2 p0 p1 p2 p3 r=Xn k 3 p0 p1 [] p3 r)∧(QT k 3=O->Xn k 3 p0 p1 p2 p3 r=Xn k 4 p0 p1 p2 [] r):=by
 refine⟨fun h=>?_,fun h=>?_,fun h=>?_,fun h=>?_⟩;·show Ym k r=VC k [] r;rw[Ym,show QZ k=O from h];rfl
 ·show VC k p0 r=VG k p0 [] r;rw[VC,show QZ k=O from h];rfl
 ·show VG k p0 p1 r=VE k p0 p1 [] r;rw[VG,show tR (k=3)=O from h];rfl
 ·show VE k p0 p1 p2 r=I (⟨k,p0,p1,p2,[]⟩,r);rw[VE,show tR (k=4)=O from h];rfl
theorem GH(k:Int)(p0 p1 p2 p3 r:List UInt8)(h0:ZD r=G)(m:Nat)(hm:m<4)(h:QT k m=N):Xn k m p0 p1 p2 p3 r=G:=by
 match m,hm with|0,_=>show Ym k r=G;rw[Ym,show QZ k=N from h,Km,h0]|1,_=>show VC k p0 r=G;rw[VC,show QZ k=N from h,Km,h0]|2,_=>show VG k p0 p1 r=G;rw[VG,show tR (k=3)=N from h,Km,h0]|3,_=>show VE k p0 p1 p2 r=G;rw[VE,show tR (k=4)=N from h,Km,h0]
theorem GJ(k:Int)(p0 p1 p2 p3 r p r2:List UInt8)(h0:ZD r=I (p,r2)):(QT k 0=N->Xn k 0 p0 p1 p2 p3 r=Xn k 1 p p1 p2 p3 r2)∧(QT k 1=N->Xn k 1 p0 p1 p2 p3 r=Xn k 2 p0 p p2 p3 r2)∧(QT k 2=N->Xn k 2 p0 p1 p2 p3 r=Xn k 3 p0 p1 p p3 r2)∧(QT k 3=N->Xn k 3 p0 p1 p2 p3 r=Xn k 4 p0 p1 p2 p r2):=by
 refine⟨fun h=>?_,fun h=>?_,fun h=>?_,fun h=>?_⟩;·show Ym k r=VC k p r2;rw[Ym,show QZ k=N from h,Km,h0]
 ·show VC k p0 r=VG k p0 p r2;rw[VC,show QZ k=N from h,Km,h0]
 ·show VG k p0 p1 r=VE k p0 p1 p r2;rw[VG,show tR (k=3)=N from h,Km,h0]
 ·show VE k p0 p1 p2 r=I (⟨k,p0,p1,p2,p⟩,r2);rw[VE,show tR (k=4)=N from h,Km,h0]
def IF(k:Int)(b:List UInt8):Int:=match Ym k b with|none=>14|I (_,x)=>if x.length=0then 0 else 4
def Rr(k:Int)(b:List UInt8):Rq:=match Ym k b with|none=>GA|I (r,x)=>if x.length=0then r else GA
theorem Tz{k:Int}{b:List UInt8}(h:Ym k b=G):IF k b=14∧Rr k b=GA:=by
 unfold IF Rr;rw[h];exact⟨rfl,rfl⟩
theorem TJ{k:Int}{b x:List UInt8}{r:Rq}(h:Ym k b=I (r,x))(hx:0<x.length):IF k b=4∧Rr k b=GA:=by
 unfold IF Rr;rw[h];exact⟨if_neg (by omega),if_neg (by omega)⟩
theorem Ty{k:Int}{b x:List UInt8}{r:Rq}(h:Ym k b=I (r,x))(hx:x.length=0):IF k b=0∧Rr k b=r:=by
 unfold IF Rr;rw[h];exact⟨if_pos hx,if_pos hx⟩
theorem gL{k:Int}{b:List UInt8}(h:IF k b=0):(Rr k b).kind=k:=by
 match hD:Ym k b with|none=>rw[(Tz hD).1]at h;cases h|I (r,x)=>by_cases hx:x.length=0;(·rw[(Ty hD hx).2];exact(Rn hD).2);·rw[(TJ hD (by omega)).1]at h;cases h
theorem gE{b:List UInt8}(h1:¬4000<b.length)(h2:¬b.length=0)(hk:1<=UJ b∧UJ b<=8):QK b=(if IF (UJ b) (b.drop 1)=0then Yy (Rr (UJ b) (b.drop 1))else IF (UJ b) (b.drop 1))∧(QK b=0->Qw b=Rr (UJ b) (b.drop 1)):=by
 match hD:Ym (UJ b) (b.drop 1)with|none=>obtain⟨e1,e2⟩:=Tz hD;(have:QK b=14:=by rw[QK,if_neg h1,if_neg h2,if_pos hk,hD]);rw[e1,this];exact⟨rfl,fun h=>by cases h⟩|I (r,x)=>(have hw:QK b=if x.length=0then Yy r else 4:=by rw[QK,if_neg h1,if_neg h2,if_pos hk,hD]);by_cases hx:x.length=0;(·obtain⟨e1,e2⟩:=Ty hD hx;rw[if_pos hx]at hw;rw[e1,e2,if_pos rfl];exact⟨hw,fun h=>by rw[Qw,if_pos h,hD]⟩);·obtain⟨e1,e2⟩:=TJ hD (by omega);rw[if_neg hx]at hw;rw[e1,hw];exact⟨rfl,fun h=>by cases h⟩
theorem fK{k:Int}{b:List UInt8}(hb:b.length<=4000):(Rr k b).name.length<=4000∧(Rr k b).key.length<=4000∧(Rr k b).last.length<=4000∧(Rr k b).value.length<=4000:=by
 match hD:Ym k b with|none=>rw[(Tz hD).2];simp[GA]|I (r,x)=>by_cases hx:x.length=0;(·rw[(Ty hD hx).2];obtain⟨_,r1,r2,r3,h1,h2,h3,h4⟩:=uU hD;(have key:∀{c:Bool}{r p r2:List UInt8},Jt c r=I (p,r2)->p.length<=r.length∧r2.length<=r.length:=by intro c r p r2 h;have hf:=Gi h;cases c with|false=>have:=IU h rfl;subst this;rw[hf];exact⟨tQ _,by simp[Xv]⟩|true=>rw[hf];simp[Xv,XX];omega);have a1:=key h1;have a2:=key h2;have a3:=key h3;have a4:=key h4;omega);·rw[(TJ hD (by omega)).2];simp[GA]
theorem M9{w:F}{o:rJ}{a:Act}{K:Act->F->Prop}{Q:Exit->Act->F->Prop}(s x:rH)(ho:o.op=.call {callee:=.builtin .append,args:=#[s,x],argTypes:=#[37,37]})(rb:Nat)(v:H)(l:List Ac)(hs:a.eval s=v)(hown:Gt rb w v l)(vd:H)(r:Ac)(h1:Qj 0 w vd r.data)(nb:Nat)(hb:w.heap[nb]?=I (S #[Y tA r.kind,Y tA r.sess,Y tA r.keep,vd] 35))(hx:a.eval x=J (I ⟨nb,0,G⟩) 1 1)(hl:(l.length+1)*48<=140737488355328)(hbase:rb<=w.heap.size)(h:∀v' w',Gt rb w' v' (l++[r])->L w w' v.ownBlock->K (a.put o.dst v') w'):o.wp M a w K Q:=by
 obtain⟨i0,hi,hz0,hz1,hz2⟩:=r8 mD;have hrow:v.ownBlock=G∨∃g cur t fz,v.ownBlock=I g∧0<=g∧w.heap[g]?=I (S cur t fz)∧t≠5:=by rcases hown.row with h|⟨g,cur,fz,e,_,h⟩;(·exact .inl h);·exact .inr ⟨g,cur,_,fz,e,tQ _,h,gT⟩
 obtain⟨us,hul,hr,hp⟩:=hown;refine wp_append_lies w s x 37 ho rb 35 i0 (sQ #[Y tA 0,Y tA 0,Y tA 0,J G 0 0]) 4 48 Tryz.underlying37 hi hz0 hz1 hz2 rfl (by decide) v l.length (GQ us) hs hr ⟨nb,0,G⟩ 1 1 (GQ [(r,vd)]) hx rfl (rA (cs:=#[Y tA r.kind,Y tA r.sess,Y tA r.keep,vd]) hb) ?_ (by omega) (by unfold pK;omega) hl hbase _ rfl ?_;·intro u hu;simp only[GQ,tP,rG,rK,tK,tM,or_false]at hu;rcases hu with rfl|rfl|rfl|rfl;(·rfl);(·rfl);(·rfl);·exact ZQ h1
 ·intro g cap w' q1 q2 _ _;refine h _ w' ⟨us++[(r,vd)],by simp[hul],?_,?_⟩ q2;(·rw[Dj,tC];exact q1);·intro y hy;rcases tY.1 hy with hy|hy;(·exact(hp y hy).keptT q2 hrow);·simp only[tK,tM,or_false]at hy;subst hy;exact h1.keptT q2 hrow
theorem PQ{w:F}{ops:Array rJ}{rest:List rJ}{o:rJ}{a:Act}{Q:Exit->Act->F->Prop}(hgd:o.guard=G)(s x:rH)(ho:o.op=.call {callee:=.builtin .append,args:=#[s,x],argTypes:=#[37,37]})(rb:Nat)(v:H)(l:List Ac)(hs:a.eval s=v)(hown:Gt rb w v l)(vd:H)(r:Ac)(h1:Qj 0 w vd r.data)(nb:Nat)(hb:w.heap[nb]?=I (S #[Y tA r.kind,Y tA r.sess,Y tA r.keep,vd] 35))(hx:a.eval x=J (I ⟨nb,0,G⟩) 1 1)(hl:(l.length+1)*48<=140737488355328)(hbase:rb<=w.heap.size)(h:∀v' w',Gt rb w' v' (l++[r])->L w w' v.ownBlock->wpList M ops Q rest (a.put o.dst v') w'):wpList M ops Q (o::rest) a w:=wpList_plain hgd fun _ hK=>M9 s x ho rb v l hs hown vd r h1 nb hb hx hl hbase fun v' w' h1 h2=>hK _ _ (h v' w' h1 h2)
def dU:Prop:=∀(w:F)(u v:H)(k:List UInt8)(p:GI),Qe w u k->Xy w v p->jL p->sV M 37 #[u,v] w fun e w'=>e=tE (Y tA (Yh k p))∧L w w' G
structure VM where
  rest : List UInt8
  short : Bool
def Tm(r:VM)(n:Nat):List UInt8:=if r.short=N∨r.rest.length<n then[]else r.rest.take n
def Az(r:VM)(n:Nat):VM:=if r.short=N∨r.rest.length<n then⟨r.rest,N⟩else⟨r.rest.drop n,O⟩
theorem TV{r:VM}{n:Nat}(h:r.short=N∨r.rest.length<n):Tm r n=[]∧Az r n=⟨r.rest,N⟩:=⟨if_pos h,if_pos h⟩
theorem Pn{r:VM}{n:Nat}(h:¬(r.short=N∨r.rest.length<n)):Tm r n=r.rest.take n∧Az r n=⟨r.rest.drop n,O⟩:=⟨if_neg h,if_neg h⟩
theorem eZ(r:VM)(n:Nat):(Tm r n).length<=n:=by
 unfold Tm;split;·simp
 ·rw[pB];omega
def Xl(r:VM):VM:=Az r 1
def J4(r:VM):Nat:=if(Xl r).short=N then 0 else((Tm r 1).getD 0 0).toNat
theorem Yu(r:VM):J4 r<256:=by
 unfold J4;split;·omega
 ·exact((Tm r 1).getD 0 0).toNat_lt
theorem Ja(x:UInt8)(l:List UInt8):Xl ⟨x::l,O⟩=⟨l,O⟩∧J4 ⟨x::l,O⟩=x.toNat:=by
 have h:¬((⟨x::l,O⟩:VM).short=N∨(⟨x::l,O⟩:VM).rest.length<1):=by simp
 obtain⟨h1,h2⟩:=Pn h;have h3:Xl ⟨x::l,O⟩=⟨l,O⟩:=h2;refine⟨h3,?_⟩;rw[J4,h3,h1,if_neg (by simp)];rfl
theorem PY{r:VM}(h:r.short=N)(n:Nat):(Az r n).short=N:=by
 rw[(TV (.inl h)).2]
theorem KD{r:VM}(h:r.short=N):(Xl r).short=N:=PY h 1
theorem jK:(Xl ⟨[],O⟩).short=N:=rfl
def L7(r:VM):List UInt8:=Tm (Xl r) (J4 r)
def K5(r:VM):VM:=Az (Xl r) (J4 r)
theorem V9{r:VM}(h:r.short=N):(K5 r).short=N:=PY (KD h) _
theorem Pz{l p l2:List UInt8}(h:ZD l=I (p,l2)):L7 ⟨l,O⟩=p∧K5 ⟨l,O⟩=⟨l2,O⟩:=by
 cases l with|nil=>cases h|cons x l=>rw[ZD]at h;obtain⟨h1,h2⟩:=Ja x l;unfold L7 K5;rw[h1,h2];by_cases hx:x.toNat<=l.length;(·rw[if_pos hx]at h;simp only[tB,rY]at h;obtain⟨rfl,rfl⟩:=h;exact Pn (by simp;omega));·rw[if_neg hx]at h;cases h
theorem TG{l:List UInt8}(h:ZD l=G):(K5 ⟨l,O⟩).short=N:=by
 cases l with|nil=>exact PY jK _|cons x l=>rw[ZD]at h;obtain⟨h1,h2⟩:=Ja x l;unfold K5;rw[h1,h2];by_cases hx:x.toNat<=l.length;(·rw[if_pos hx]at h;cases h);·rw[(TV (.inr (by show l.length<x.toNat;omega))).2]
theorem El(r:VM):(L7 r).length<=255:=tN (eZ _ _) (pW (Yu r))
def TY(r:VM):Zi:=if J4 (K5 (K5 r))=255then⟨L7 r,L7 (K5 r),[],N⟩else⟨L7 r,L7 (K5 r),L7 (K5 (K5 r)),O⟩
def Ar(r:VM):VM:=if J4 (K5 (K5 r))=255then Xl (K5 (K5 r))else K5 (K5 (K5 r))
theorem C9{r:VM}(h:r.short=N):(Ar r).short=N:=by
 unfold Ar;split;·exact KD (V9 (V9 h))
 ·exact V9 (V9 (V9 h))
theorem Ee{r:VM}(h:(K5 (K5 r)).short=N):(Ar r).short=N:=by
 unfold Ar;split;·exact KD h
 ·exact V9 h
theorem gG{l l2:List UInt8}{p:Zi}(h:Jl l=I (p,l2)):TY ⟨l,O⟩=p∧Ar ⟨l,O⟩=⟨l2,O⟩:=by
 unfold Jl at h;cases h1:ZD l with|none=>rw[h1]at h;cases h|some q=>obtain⟨n,la⟩:=q;rw[h1]at h;have h:Dn n la=I (p,l2):=h;unfold Dn at h;obtain⟨a1,a2⟩:=Pz h1;cases h2:ZD la with|none=>rw[h2]at h;cases h|some q=>obtain⟨k,lb⟩:=q;rw[h2]at h;have h:vT n k lb=I (p,l2):=h;unfold vT at h;obtain⟨b1,b2⟩:=Pz h2;unfold TY Ar;rw[a1,a2,b1,b2];cases lb with|nil=>cases h|cons x lb=>obtain⟨c1,c2⟩:=Ja x lb;by_cases hx:(x::lb).head?=I 255;(·rw[if_pos hx]at h;simp only[tB,rY]at h;obtain⟨rfl,rfl⟩:=h;have:x=255:=oU hx;subst this;rw[c2,c1,if_pos (by rfl),if_pos (by rfl)];exact⟨rfl,rfl⟩);·rw[if_neg hx]at h;have hne:¬x.toNat=255:=fun e=>hx (by rw[show x=255from pX.1 e];rfl);rw[c2,if_neg hne,if_neg hne];cases h3:ZD (x::lb)with|none=>rw[h3]at h;cases h|some q=>obtain⟨v,lc⟩:=q;rw[h3]at h;simp only[tB,rY]at h;obtain⟨rfl,rfl⟩:=h;obtain⟨d1,d2⟩:=Pz h3;rw[d1,d2];exact⟨rfl,rfl⟩
theorem fQ{l:List UInt8}(h:Jl l=G):(Ar ⟨l,O⟩).short=N:=by
 unfold Jl at h;cases h1:ZD l with|none=>exact Ee (V9 (TG h1))|some q=>obtain⟨n,la⟩:=q;rw[h1]at h;have h:Dn n la=G:=h;unfold Dn at h;obtain⟨a1,a2⟩:=Pz h1;cases h2:ZD la with|none=>exact Ee (by rw[a2];exact TG h2)|some q=>obtain⟨k,lb⟩:=q;rw[h2]at h;have h:vT n k lb=G:=h;unfold vT at h;obtain⟨b1,b2⟩:=Pz h2;unfold Ar;rw[a2,b2];cases lb with|nil=>split;(·exact jK);·exact TG rfl|cons x lb=>obtain⟨c1,c2⟩:=Ja x lb;by_cases hx:(x::lb).head?=I 255;(·rw[if_pos hx]at h;cases h);·rw[if_neg hx]at h;have hne:¬x.toNat=255:=fun e=>hx (by rw[show x=255from pX.1 e];rfl);rw[c2,if_neg hne];cases h3:ZD (x::lb)with|none=>exact TG h3|some q=>obtain⟨v,lc⟩:=q;rw[h3]at h;cases h
theorem aR(r:VM):(TY r).name.length<=255∧(TY r).key.length<=255∧(TY r).value.length<=255:=by
 unfold TY;split;·exact⟨El _,El _,by simp⟩
 ·exact⟨El _,El _,El _⟩
def UY:Nat->VM->VM|0,r=>r|n+1,r=>Ar (UY n r)
def UQ:Nat->VM->List Zi|0,_=>[]|n+1,r=>UQ n r++[TY (UY n r)]
theorem Dx:∀(n:Nat)(r:VM),(UQ n r).length=n|0,_=>rfl|n+1,r=>by rw[UQ,tC,Dx n r];rfl
theorem NW:∀(n:Nat)(r:VM),Ep (UQ n r)|0,_=>fun p hp=>by simp[UQ]at hp|n+1,r=>BN (NW n r) (aR _)
theorem NP:∀(n:Nat){r:VM},r.short=N->(UY n r).short=N|0,_,h=>h|n+1,_,h=>C9 (NP n h)
theorem Pk:∀(n:Nat){l l2:List UInt8}{ws:List Zi},ZZ n l=I (ws,l2)->UQ n ⟨l,O⟩=ws∧UY n ⟨l,O⟩=⟨l2,O⟩|0,l,l2,ws,h=>by rw[ZZ]at h;simp only[tB,rY]at h;obtain⟨rfl,rfl⟩:=h;exact⟨rfl,rfl⟩|n+1,l,l2,ws,h=>by rw[yC]at h;cases h1:ZZ n l with|none=>rw[h1]at h;cases h|some q=>obtain⟨ws1,l1⟩:=q;rw[h1]at h;have h:(match Jl l1 with|I (w,r2)=>I (ws1++[w],r2)|none=>G)=I (ws,l2):=h;obtain⟨e1,e2⟩:=Pk n h1;cases h2:Jl l1 with|none=>rw[h2]at h;cases h|some q=>obtain⟨p,l3⟩:=q;rw[h2]at h;simp only[tB,rY]at h;obtain⟨rfl,rfl⟩:=h;obtain⟨d1,d2⟩:=gG h2;rw[UQ,UY,e1,e2,d1,d2];exact⟨rfl,rfl⟩
theorem CZ:∀(n:Nat){l:List UInt8},ZZ n l=G->(UY n ⟨l,O⟩).short=N|0,l,h=>by rw[ZZ]at h;cases h|n+1,l,h=>by rw[yC]at h;cases h1:ZZ n l with|none=>exact C9 (CZ n h1)|some q=>obtain⟨ws1,l1⟩:=q;rw[h1]at h;have h:(match Jl l1 with|I (w,r2)=>I (ws1++[w],r2)|none=>G)=G:=h;obtain⟨e1,e2⟩:=Pk n h1;cases h2:Jl l1 with|none=>rw[UY,e2];exact fQ h2|some q=>obtain⟨p,l3⟩:=q;rw[h2]at h;cases h
def Nf(r:VM):VM:=UY (J4 (Xl (Xl (Xl r)))) (Xl (Xl (Xl (Xl r))))
def Nn(r:VM):XO:=⟨((65536*J4 r+256*J4 (Xl r)+J4 (Xl (Xl r)):Nat):Int),UQ (J4 (Xl (Xl (Xl r)))) (Xl (Xl (Xl (Xl r))))⟩
theorem Cp(r:VM):Ep (Nn r).writes∧(Nn r).writes.length<=255:=⟨NW _ _,by
 show(UQ _ _).length<=255;rw[Dx];exact pW (Yu _)⟩
theorem Hx(b:List UInt8)(h:¬b.length<4):J4 ⟨b,O⟩=(b.getD 0 0).toNat∧J4 (Xl ⟨b,O⟩)=(b.getD 1 0).toNat∧J4 (Xl (Xl ⟨b,O⟩))=(b.getD 2 0).toNat∧J4 (Xl (Xl (Xl ⟨b,O⟩)))=(b.getD 3 0).toNat∧Xl (Xl (Xl (Xl ⟨b,O⟩)))=⟨b.drop 4,O⟩:=by
 match b,h with|[],h=>exact absurd (by simp) h|[_],h=>exact absurd (by simp) h|[_,_],h=>exact absurd (by simp) h|[_,_,_],h=>exact absurd (by simp) h|x0::x1::x2::x3::b,_=>obtain⟨a1,a2⟩:=Ja x0 (x1::x2::x3::b);obtain⟨b1,b2⟩:=Ja x1 (x2::x3::b);obtain⟨c1,c2⟩:=Ja x2 (x3::b);obtain⟨d1,d2⟩:=Ja x3 b;rw[a1,b1,c1,d1];exact⟨a2,b2,c2,d2,rfl⟩
theorem mF(b:List UInt8)(h:b.length<4):(Nf ⟨b,O⟩).short=N:=by
 unfold Nf;refine NP _ ?_;match b,h with|[],_=>exact KD (KD (KD jK))|[x],_=>rw[(Ja x []).1];exact KD (KD jK)|[x,y],_=>rw[(Ja x [y]).1,(Ja y []).1];exact KD jK|[x,y,z],_=>rw[(Ja x [y,z]).1,(Ja y [z]).1,(Ja z []).1];exact jK|_::_::_::_::_,h=>exact absurd h (by simp only[rB];omega)
theorem aL{b:List UInt8}(h0:¬4000<b.length)(h:(Nf ⟨b,O⟩).short=N):YU b=14∧JZ b=Zr:=by
 by_cases h4:b.length<4;·exact Lp h4
 ·obtain⟨_,_,_,e3,e4⟩:=Hx b h4;cases hb:qX b with|none=>exact Wy h0 h4 hb|some q=>obtain⟨ws,l⟩:=q;obtain⟨_,e5⟩:=Pk _ hb;unfold Nf at h;rw[e3,e4,e5]at h;cases h
theorem Cd{b:List UInt8}(h:(Nf ⟨b,O⟩).short=O):¬b.length<4∧qX b=I ((Nn ⟨b,O⟩).writes,(Nf ⟨b,O⟩).rest)∧(GF b:Int)=(Nn ⟨b,O⟩).turn:=by
 by_cases h4:b.length<4;·rw[mF b h4]at h;cases h
 ·obtain⟨e0,e1,e2,e3,e4⟩:=Hx b h4;refine⟨h4,?_,?_⟩;(·cases hb:qX b with|none=>have:=CZ _ hb;unfold Nf at h;rw[e3,e4,this]at h;cases h|some q=>obtain⟨ws,l⟩:=q;obtain⟨e5,e6⟩:=Pk _ hb;unfold Nf Nn;rw[e3,e4,e5,e6]);·unfold Nn;rw[e0,e1,e2];rfl
theorem iM{b:List UInt8}(h0:¬4000<b.length)(h:(Nf ⟨b,O⟩).short=O)(hr:(Nf ⟨b,O⟩).rest.length≠0):YU b=4∧JZ b=Zr:=by
 obtain⟨h4,hb,_⟩:=Cd h;exact Wj h0 h4 hb hr
theorem iA{b:List UInt8}(h0:¬4000<b.length)(h:(Nf ⟨b,O⟩).short=O)(hr:(Nf ⟨b,O⟩).rest.length=0):YU b=Zb (Nn ⟨b,O⟩)∧(YU b=0->JZ b=Nn ⟨b,O⟩)∧(YU b≠0->JZ b=Zr):=by
 obtain⟨h4,hb,ht⟩:=Cd h;have:=IZ h0 h4 hb hr;rw[ht]at this;exact this
theorem ZM(w:F)(o:Obj):∃W:F,Hid (W=w.alloc o)∧L w W G∧Hid (W.heap[w.heap.size]?=I o):=⟨w.alloc o,rfl,sM _ _ _,oT w o⟩
theorem uA(w:F)(b i:Nat)(u:H):∃W:F,Hid (W=tD w ⟨b,i,G⟩ u)∧L w W (I b):=⟨_,rfl,Y0 w b i u⟩
theorem nS:(229:Nat)≠5:=by
 decide
theorem i5:(229:Nat)≠172:=by
 decide
theorem Qe.rdr{w w':F}{b:Nat}{a0:Option rC}{n0 c0:Nat}{s:Bool}{t:tW}{v:H}{bs:List UInt8}(h:Qe w v bs)(hb:w.heap[b]?=I (S #[J a0 n0 c0,tL s] t))(hg:L w w' (I b)):Qe w' v bs:=by
 obtain⟨a,cap,rfl,hc,h⟩:=h;refine⟨a,cap,rfl,hc,?_⟩;rcases h with h|⟨pb,o,rfl,h⟩;·exact .inl h
 ·by_cases h0:bs=[];(·exact .inl ⟨h0,fun e=>by cases e⟩);·refine .inr ⟨pb,o,rfl,h.grown hg ?_⟩;intro e;cases e;have hc0:=h 0 (rW.2 h0);simp only[tS,hb,Nat.add_zero]at hc0;match o,hc0 with|0,hc0=>simp at hc0|1,hc0=>simp at hc0|o+2,hc0=>simp at hc0
structure Zg (w0 w : F) (b : Nat) (r : VM) : Prop where
  at_ : ∃ a cap, w.heap[b]? = I (S #[J a r.rest.length cap, tL r.short] 229) ∧ Qe w0 (J a r.rest.length cap) r.rest
  old : ∃ a n c s, w0.heap[b]? = I (S #[J a n c, tL s] 229)
  grown : L w0 w (I b)
theorem Zg.lt{w0 w:F}{b:Nat}{r:VM}(h:Zg w0 w b r):b<w.heap.size:=by
 obtain⟨a,cap,h,_⟩:=h.at_;exact(tI.1 h).1
theorem Zg.now{w0 w:F}{b:Nat}{r:VM}(h:Zg w0 w b r){v:H}{bs:List UInt8}(hv:Qe w0 v bs):Qe w v bs:=by
 obtain⟨a,n,c,s,h0⟩:=h.old;exact hv.rdr h0 h.grown
theorem Zg.row{w0 w:F}{b:Nat}{r:VM}(h:Zg w0 w b r):I b=G∨∃g cur t fz,I b=I g∧0<=g∧w.heap[g]?=I (S cur t fz)∧t≠5:=by
 obtain⟨a,cap,h,_⟩:=h.at_;exact .inr ⟨b,_,_,_,rfl,tQ _,h,nS⟩
theorem Qj.rdr{w0 w w':F}{b:Nat}{r:VM}{v:H}{bs:List UInt8}(h:Qj 0 w v bs)(hb:Zg w0 w b r)(hg:L w w' (I b)):Qj 0 w' v bs:=h.keptT hg hb.row
theorem Xz{w w':F}(hg:L w w' G)(r:Option Nat):L w w' r:=⟨hg.os,hg.tape,hg.output,hg.size,fun i hi _=>hg.block i hi (by
 simp)⟩
theorem Zg.kept{w0 w w':F}{b:Nat}{r:VM}(h:Zg w0 w b r)(hg:L w w' G):Zg w0 w' b r:=by
 have hl:=h.lt;obtain⟨a,cap,h1,hs⟩:=h.at_;exact⟨⟨a,cap,by rw[hg.block b hl (by simp)];exact h1,hs⟩,h.old,Qa h.grown (Xz hg _)⟩
theorem Xi{w w':F}{b:Nat}(hg:L w w' (I b)){c:Nat}{o:Obj}(hc:w.heap[c]?=I o)(hne:c≠b):w'.heap[c]?=I o:=by
 rw[hg.block c (tI.1 hc).1 (by simpa using hne)];exact hc
theorem Zg.apart{w0 w w':F}{b:Nat}{r:VM}(h:Zg w0 w b r){c:Nat}(hne:b≠c)(hc:w0.heap.size<=c)(hg:L w w' (I c)):Zg w0 w' b r:=by
 have hl:=h.lt;obtain⟨a,cap,h1,hs⟩:=h.at_;exact⟨⟨a,cap,by rw[hg.block b hl (by simpa using hne)];exact h1,hs⟩,h.old,JX h.grown hc hg⟩
theorem Q6.rdr{rb:Nat}{w0 w w':F}{b:Nat}{r:VM}{v:H}{l:List Zi}(h:Q6 rb 0 w v l)(hb:Zg w0 w b r)(hg:L w w' (I b)):Q6 rb 0 w' v l:=by
 obtain⟨a,cap,h0,_⟩:=hb.at_;exact h.kept hg (.inr (h.ne h0 i5)) hb.row
theorem Zg.ownV{rb:Nat}{w0 w w':F}{b:Nat}{r:VM}{v:H}{l:List Zi}(h:Zg w0 w b r)(ho:Q6 rb 0 w v l)(hb:w0.heap.size<=rb)(hg:L w w' v.ownBlock):Zg w0 w' b r:=by
 obtain⟨a,cap,h1,hs⟩:=h.at_;have hne:=ho.ne h1 i5;cases hv:v.ownBlock with|none=>rw[hv]at hg;exact h.kept hg|some g=>rw[hv]at hg hne;exact h.apart (c:=g) (fun e=>hne (by rw[e])) (tN hb (ho.lt g hv).1) hg
section
open Go.ChangeShapes Go.WideShapes Go.ChangeAt Go.RowKit
theorem oD:ownKnob M.godebug=G:=by
 kernel_rfl
theorem fR:laidOutB M=N:=by
 kernel_rfl
theorem Gq{n:Int}(h:(Lit.int tA n).wf=N):-9223372036854775808<=n∧n<=9223372036854775807:=bounds_i64 h
theorem cI{w w':F}(h:L w w' G):Below w.heap.size w w':=⟨h.os,h.tape,h.output,h.size,fun k hk=>h.block k hk (by
 simp)⟩
end
structure PZ(g:Gr):Prop where kind:-9223372036854775808<=g.kind∧g.kind<=9223372036854775807sess:-9223372036854775808<=g.sess∧g.sess<=9223372036854775807name:-9223372036854775808<=g.name∧g.name<=9223372036854775807key:-9223372036854775808<=g.key∧g.key<=9223372036854775807value:-9223372036854775808<=g.value∧g.value<=9223372036854775807
def eQ(w:F)(b o:Nat)(g:Gr):Prop:=w.cell? ⟨b,o,G⟩=I (Y tA g.kind)∧w.cell? ⟨b,o+1,G⟩=I (Y tA g.sess)∧w.cell? ⟨b,o+2,G⟩=I (Y tA g.name)∧w.cell? ⟨b,o+3,G⟩=I (Y tA g.key)∧w.cell? ⟨b,o+4,G⟩=I (Y tA g.value)
theorem eQ.grown{w w':F}{b o:Nat}{g:Gr}(h:eQ w b o g)(hg:L w w' G):eQ w' b o g:=⟨hg.cell h.1 (by
 simp),hg.cell h.2.1 (by
 simp),hg.cell h.2.2.1 (by
 simp),hg.cell h.2.2.2.1 (by
 simp),hg.cell h.2.2.2.2 (by
 simp)⟩
def UK(w:F)(v:H)(l:List Gr):Prop:=∃a cap,v=J a l.length cap∧l.length<=cap∧(l=[]∨∃b o,a=I ⟨b,o,G⟩∧∀i,i<l.length->eQ w b (o+i*5) (l.getD i uM))
theorem UK.shape{w:F}{v:H}{l:List Gr}(h:UK w v l):∃a cap,v=J a l.length cap:=by
 obtain⟨a,cap,rfl,_⟩:=h;exact⟨a,cap,rfl⟩
theorem UK.grown{w w':F}{v:H}{l:List Gr}(h:UK w v l)(hg:L w w' G):UK w' v l:=by
 obtain⟨a,cap,rfl,hc,h⟩:=h;refine⟨a,cap,rfl,hc,?_⟩;rcases h with h|⟨b,o,rfl,h⟩;·exact .inl h
 ·exact .inr ⟨b,o,rfl,fun i hi=>(h i hi).grown hg⟩
theorem UK.at{w:F}{a:Option rC}{n cap:Nat}{l:List Gr}(h:UK w (J a n cap) l)(i:Nat)(hi:i<l.length):∃b o,a=I ⟨b,o,G⟩∧eQ w b (o+i*5) (l.getD i uM):=by
 obtain⟨a',cap',e,_,h⟩:=h;simp only[tG]at e;obtain⟨rfl,_,_⟩:=e;rcases h with rfl|⟨b,o,rfl,h⟩;·simp at hi
 ·exact⟨b,o,rfl,h i hi⟩
def Ae(l:List Gr):Prop:=∀g∈l,PZ g
theorem Du{l:List Gr}{m:Nat}(h:m<l.length):Yp l (m+1)=Yp l m++[E5 (l.getD m uM)]:=by
 unfold Yp;rw[List.take_add_one,List.map_append];simp[h]
theorem Aa(l:List Gr)(m:Nat):(Yp l m).length=min m l.length:=by
 simp[Yp]
def Ov:Prop:=∀(w:F)(v:H)(t:Gz),Ug w v t->yV t->sV M 62 #[v] w fun e w'=>∃x,e=tE (sE #[x,Y tA (Eo t)])∧YI w' x (KM t)∧L w w' G
def Sk:Prop:=∀(w:F)(v:H)(t:Gz)(keep:Int),Ug w v t->yV t->-9223372036854775808<=keep->keep<=9223372036854775807->sV M 78 #[v,Y tA keep] w fun e w'=>∃x,e=tE (sE #[x,Y tA (UG t keep)])∧YI w' x (XA t keep)∧L w w' G
theorem Nm:(82:Nat)≠5:=by
 decide
theorem Hm:(82:Nat)≠172:=by
 decide
theorem Nh:(82:Nat)≠181:=by
 decide
def On:Prop:=∀(w:F)(v:H)(a:Ac),WZ w v a->SP a->sV M 28 #[v] w fun e w'=>e=tE (Y tA (Jc a))∧L w w' G
theorem aM(s q:Int)(d:List UInt8):Jc ⟨1,s,q,d⟩=if 0<=s∧s<=7then(if 4000<d.length then 1 else if q=0then 0 else 4)else 2:=by
 unfold Jc;rw[if_pos (by show(1:Int)<=1∧(1:Int)<=4;omega)];by_cases h1:0<=s∧s<=7;·rw[if_pos h1,if_neg (by rintro(⟨_,h⟩|⟨h,_⟩);exact h h1;cases h)];by_cases h2:4000<d.length;(·rw[if_pos h2,if_pos h2]);·rw[if_neg h2,if_neg h2];by_cases h3:q=0;(·rw[if_pos h3,if_neg];rintro(⟨h,_⟩|⟨_,h⟩|⟨h,_⟩);(·exact h rfl);(·exact h h3);·exact h rfl);·rw[if_neg h3,if_pos (.inr (.inl ⟨by show(1:Int)≠3;decide,h3⟩))]
 ·rw[if_neg h1,if_pos (.inl ⟨rfl,h1⟩)]
theorem Lh(s q:Int)(d:List UInt8):Jc ⟨3,s,q,d⟩=if 0<=q∧q<=200000then(if 4000<d.length then 1 else if s=0then(if 0<d.length then 4 else 0)else 4)else 2:=by
 unfold Jc;rw[if_pos (by show(1:Int)<=3∧(3:Int)<=4;omega)];by_cases h1:0<=q∧q<=200000;·rw[if_pos h1,if_neg (by rintro(⟨h,_⟩|⟨_,h⟩);cases h;exact h h1)];by_cases h2:4000<d.length;(·rw[if_pos h2,if_pos h2]);·rw[if_neg h2,if_neg h2];by_cases h3:s=0;(·rw[if_pos h3];by_cases h4:0<d.length;(·rw[if_pos h4,if_pos (.inr (.inr ⟨by show(3:Int)≠1;decide,h4⟩))]);·rw[if_neg h4,if_neg];rintro(⟨_,h⟩|⟨h,_⟩|⟨_,h⟩);(·exact h h3);(·exact h rfl);·exact h4 h);·rw[if_neg h3,if_pos (.inl ⟨by show(3:Int)≠1;decide,h3⟩)]
 ·rw[if_neg h1,if_pos (.inr ⟨rfl,h1⟩)]
theorem Al(k s q:Int)(d:List UInt8)(hk:k=2∨k=4):Jc ⟨k,s,q,d⟩=if 4000<d.length then 1 else if s=0then(if q=0then(if 0<d.length then 4 else 0)else 4)else 4:=by
 unfold Jc;have k1:¬k=1:=by omega
 have k3:¬k=3:=by omega
 rw[if_pos (by show 1<=k∧k<=4;omega),if_neg (by rintro(⟨h,_⟩|⟨h,_⟩);exact k1 h;exact k3 h)];by_cases h2:4000<d.length;·rw[if_pos h2,if_pos h2]
 ·rw[if_neg h2,if_neg h2];by_cases h3:s=0;(·rw[if_pos h3];by_cases h5:q=0;(·rw[if_pos h5];by_cases h4:0<d.length;(·rw[if_pos h4,if_pos (.inr (.inr ⟨k1,h4⟩))]);·rw[if_neg h4,if_neg];rintro(⟨_,h⟩|⟨_,h⟩|⟨_,h⟩);(·exact h h3);(·exact h h5);·exact h4 h);·rw[if_neg h5,if_pos (.inr (.inl ⟨k3,h5⟩))]);·rw[if_neg h3,if_pos (.inl ⟨k1,h3⟩)]
def X8(r:Rq):Nat->List UInt8|0=>[sU r.kind.toNat]|1=>[sU r.kind.toNat]++Xv (QT r.kind 0) r.name|2=>[sU r.kind.toNat]++Xv (QT r.kind 0) r.name++Xv (QT r.kind 1) r.key|3=>[sU r.kind.toNat]++Xv (QT r.kind 0) r.name++Xv (QT r.kind 1) r.key++Xv (QT r.kind 2) r.last|_=>[sU r.kind.toNat]++Xv (QT r.kind 0) r.name++Xv (QT r.kind 1) r.key++Xv (QT r.kind 2) r.last++Xv (QT r.kind 3) r.value
theorem Iy(r:Rq):X8 r 4=VN r:=by
 show[sU r.kind.toNat]++Xv (QZ r.kind) r.name++Xv (QZ r.kind) r.key++Xv (tR (r.kind=3)) r.last++Xv (tR (r.kind=4)) r.value=_;rw[VN,xO];simp[List.append_assoc]
theorem WI{r:Rq}(h:JE r)(m:Nat):(X8 r m).length<=200:=by
 have k1:r.name.length<=8:=by by_cases e:QZ r.kind=N;(·exact(h.name e).2);·rw[h.noName (by simpa using e)];simp
 have k2:r.key.length<=16:=by by_cases e:QZ r.kind=N;(·exact(h.key e).2);·rw[h.noKey (by simpa using e)];simp
 have k3:r.last.length<=16:=by by_cases e:r.kind=3;(·exact(h.last e).2);·rw[h.noLast e];simp
 have k4:=h.value;have l1:=Uj (QT r.kind 0) r.name;have l2:=Uj (QT r.kind 1) r.key;have l3:=Uj (QT r.kind 2) r.last;have l4:=Uj (QT r.kind 3) r.value;match m with|0=>simp[X8]|1=>simp only[X8,tC,tZ];omega|2=>simp only[X8,tC,tZ];omega|3=>simp only[X8,tC,tZ];omega|m+4=>simp only[X8,tC,tZ];omega
end Go.Proofs.YtahggnmfofgddaaGreatDoor
