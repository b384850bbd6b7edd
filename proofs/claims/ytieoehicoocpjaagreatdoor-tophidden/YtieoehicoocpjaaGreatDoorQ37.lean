/-
  Texts of this proof, joined, with few blanks: SvLt, RgF, RgL.
-/
import Derived.OrdersHeld
import Derived.Test.YtieoehicoocpjaaGreatDoorQ36
set_option maxRecDepth 100000
set_option maxHeartbeats 8000000
open Array renaming getElem?_eq_none->M,any_eq_true'->O,getElem?_setIfInBounds_ne->Y,setIfInBounds_comm->tB,all_eq_true_iff_forall_mem->tJ,getElem?_eq_some_iff->tN,getElem?_eq_getElem->tP,size_setIfInBounds->tQ,ext->sB
open Bool renaming true->A,false->C,and_eq_true->E,or_eq_true->tM
open Decidable renaming decide->tE,not_not->sD
open Go renaming World->B,Value->J,Oper->L,yielded->tI,Operand->tU,undef->sC
open Go.Region renaming ready->D,binds->G,wanted->I,Mode->W,noSelect->tG,free->tK,noSelect_spec->tS,free_spec->tW
open Go.World renaming grownBy->X
open List renaming getD_eq_getElem?_getD->z,getElem?_eq_some_iff->tA,getElem?_eq_getElem->tC,range->tD,mem_range->tH,all_eq_true->tL,pairwise_iff_getElem->tR,getElem_toArray->tV,count_eq_zero->tX,getElem_range->tY,getElem_map->tZ,mem_cons->sA
open Nat renaming lt_or_ge->V
open Option renaming some->F,none->T
namespace Go.Proofs.YtieoehicoocpjaaGreatDoor
open Go.RowKit
section
section
variable{P:Program}{ops:Array L}{Q:Exit->Act->B->Prop}{md:W}{S:B->Prop}{k:Nat}
def ZC(P:Program)(md:W)(ops:Array L)(Q:Exit->Act->B->Prop)(S:B->Prop)(k:Nat):Nat->Array Bool->Act->B->Prop|0,done,a,w=>D md ops done=[]∧Q .normal a w|n+1,done,a,w=>(D md ops done=[]->Q .normal a w)∧∀i∈D md ops done,wpOp P ops Q i (fun a' w'=>if i=k then wpAny P md ops Q n (done.setIfInBounds i A) a' w' else S w'∧ZC P md ops Q S k n (done.setIfInBounds i A) a' w') a w
theorem ZC.any:∀(n:Nat)(done:Array Bool)(a:Act)(w:B),ZC P md ops Q S k n done a w->wpAny P md ops Q n done a w|0,_,_,_,h=>h|n+1,done,_,_,h=>⟨h.1,fun i hi=>wpOp_mono (fun a' w' h'=>by by_cases e:i=k;(·rw[if_pos e]at h';exact h');·rw[if_neg e]at h';exact ZC.any n _ a' w' h'.2) (h.2 i hi)⟩
def Vx(md:W)(ops:Array L)(k i:Nat):Bool:=match ops[k]?with|F o=>o.after.any fun e=>G md e&&e.on==i|none=>C
def yI(md:W)(ops:Array L)(done:Array Bool):Prop:=∀j o,ops[j]?=F o->done.getD j A=A->∀e∈o.after,G md e=A->done.getD e.on C=A
def Ml(md:W)(ops:Array L)(done:Array Bool):Bool:=(tD ops.size).all fun j=>!done.getD j A||match ops[j]?with|F o=>o.after.all fun e=>!G md e||done.getD e.on C|none=>A
theorem Ij{done:Array Bool}(h:Ml md ops done=A):yI md ops done:=fun j o ho hd e he hb=>by
 have hlt:j<ops.size:=(tN.1 ho).1;have h1:=tL.1 h j (tH.2 hlt);rw[hd,ho]at h1;simp only[Bool.not_true,Bool.false_or,tJ]at h1;have h2:=h1 e he;rw[hb]at h2;simpa using h2
theorem yI.step{done:Array Bool}(h:yI md ops done){j:Nat}(hj:j∈D md ops done):yI md ops (done.setIfInBounds j A):=fun m o hm hd e he hb=>by
 by_cases q:j=m;·subst q;obtain⟨_,o',ho',hall⟩:=mem_ready.1 hj;rw[hm]at ho';cases ho';exact getD_set_true (hall e he hb)
 ·rw[getD_set_ne A q]at hd;exact getD_set_true (h m o hm hd e he hb)
def kC(md:W)(ops:Array L)(k:Nat):Nat->List Nat->Bool|i,[]=>Vx md ops k i|i,x::xs=>Vx md ops x i&&kC md ops k x xs
theorem Mc{done:Array Bool}{i:Nat}(h:done.getD i A=C):done.getD i C≠A:=by
 rcases V i done.size with h'|h';·simp[h']at h⊢;exact h
 ·simp[M h']at h
theorem Ps{done:Array Bool}(hc:yI md ops done):∀(xs:List Nat)(i:Nat),kC md ops k i xs=A->done.getD i A=C->k∉D md ops done|[],i,hw,h0,hk=>by obtain⟨_,o,ho,hall⟩:=mem_ready.1 hk;rw[kC,Vx,ho]at hw;obtain⟨e,he,hb⟩:=O.1 hw;simp only[E,beq_iff_eq]at hb;have h1:=hall e he hb.1;rw[hb.2]at h1;exact Mc h0 h1|x::xs,i,hw,h0,hk=>by rw[kC,E]at hw;refine Ps hc xs x hw.2 ?_ hk;cases hx:done.getD x A with|false=>rfl|true=>have hw1:=hw.1;rw[Vx]at hw1;cases ho:ops[x]?with|none=>rw[ho]at hw1;cases hw1|some o=>rw[ho]at hw1;obtain⟨e,he,hb⟩:=O.1 hw1;simp only[E,beq_iff_eq]at hb;have h1:=hc x o ho hx e he hb.1;rw[hb.2]at h1;exact absurd h1 (Mc h0)
theorem Sw{i:Nat}{oi:L}{v:J}(hi:ops[i]?=F oi)(hsel:∀(j:Nat)(o:L)cs b,ops[j]?=F o->o.op≠.select cs b)(hQ:∀c a w,Q (.panic c) (a.put oi.dst v) w->Q (.panic c) a w){xs:List Nat}(hw:kC md ops k i xs=A):∀(n:Nat)(done:Array Bool)(a:Act)(w:B),(∀j oj,ops[j]?=F oj->j≠i->done.getD j A=C->(∀e∈oj.after,G md e=A->e.on≠i)->oi.apart ops oj=A)->yI md ops done->i∈D md ops done->YieldsIf P ops S oi v a->S w->ZC P md ops Q S k n (done.setIfInBounds i A) (a.put oi.dst v) w->ZC P md ops Q S k (n+1) done a w:=by
 intro n;induction n with|zero=>intro done a w _ hcl hr hy hS H;refine⟨fun h=>absurd hr (by rw[h];simp),fun j hj=>?_⟩;have hjk:j≠k:=fun e=>Ps hcl xs i hw (mem_ready.1 hr).1 (e▸hj);by_cases e:j=i;(·subst e;refine hy.wpOp hi hS ?_;rw[if_neg hjk];exact⟨hS,H⟩);·have:=ready_mono hj e;rw[H.1]at this;cases this|succ n ih=>intro done a w hfree hcl hr hy hS H;refine⟨fun h=>absurd hr (by rw[h];simp),fun j hj=>?_⟩;have hjk:j≠k:=fun e=>Ps hcl xs i hw (mem_ready.1 hr).1 (e▸hj);by_cases e:j=i;(·subst e;refine hy.wpOp hi hS ?_;rw[if_neg hjk];exact⟨hS,H⟩);·have h1:=H.2 j (ready_mono hj e);obtain⟨hjun,oj,hoj,hall⟩:=mem_ready.1 hj;(have hnot:∀d∈oj.after,G md d=A->d.on≠i:=fun d hd hb hq=>by have h1:=hall d hd hb;have h0:=(mem_ready.1 hr).1;rw[hq]at h1;rcases V i done.size with h'|h';(·simp[h']at h0 h1;rw[h0]at h1;cases h1);·simp[M h']at h1);rw[show(fun a' w'=>if j=k then wpAny P md ops Q n ((done.setIfInBounds i A).setIfInBounds j A) a' w' else S w'∧ZC P md ops Q S k n ((done.setIfInBounds i A).setIfInBounds j A) a' w')=(fun a' w'=>S w'∧ZC P md ops Q S k n ((done.setIfInBounds i A).setIfInBounds j A) a' w')from funext fun a'=>funext fun w'=>if_neg hjk]at h1;have h2:=wpOp_putIf hoj (hfree j oj hoj e hjun hnot) (fun cs b=>hsel i oi cs b hi) (fun cs b=>hsel j oj cs b hoj) hQ hy h1;refine wpOp_mono (fun a' w' h3=>?_) h2;rw[if_neg hjk];refine⟨h3.2.1,ih (done.setIfInBounds j A) a' w' (fun m om hm hmi hun hno=>?_) (hcl.step hj) (ready_mono hr (Ne.symm e)) h3.1 h3.2.1 ?_⟩;(·refine hfree m om hm hmi ?_ hno;by_cases hq:j=m;(·subst hq;exact hjun);·rw[getD_set_ne A hq]at hun;exact hun);·rw[tB _ _ e];exact h3.2.2
theorem Iw{i:Nat}{oi:L}{v:J}{n:Nat}{done:Array Bool}{a:Act}{w:B}(hi:ops[i]?=F oi)(hs:tG ops=A)(hf:tK md ops done i=A)(hr:(D md ops done).contains i=A){xs:List Nat}(hcl:Ml md ops done=A)(hw:kC md ops k i xs=A)(hQ:∀c a w,Q (.panic c) (a.put oi.dst v) w->Q (.panic c) a w)(hS:S w)(hwa:I oi (tI ops a.tmps)=A)(hy:∀w,S w->(execOp a.eval oi).run P w=.ok (.value v) w)(h:ZC P md ops Q S k n (done.setIfInBounds i A) (a.put oi.dst v) w):ZC P md ops Q S k (n+1) done a w:=Sw hi (tS hs) hQ hw n done a w (tW hi hf) (Ij hcl) (by
 simpa using hr) (.inl ⟨hwa,hy⟩) hS h
theorem X0(i:Nat)(xs:List Nat)(v:J){oi:L}{n:Nat}{done:Array Bool}{a:Act}{w:B}(hi:ops[i]?=F oi)(hS:S w)(hy:∀w,S w->(execOp a.eval oi).run P w=.ok (.value v) w)(h:ZC P md ops Q S k n (done.setIfInBounds i A) (a.put oi.dst v) w)(hs:tG ops=A:=by
 kernel_rfl)(hf:tK md ops done i=A:=by
 kernel_rfl)(hr:(D md ops done).contains i=A:=by
 kernel_rfl)(hcl:Ml md ops done=A:=by
 kernel_rfl)(hw:kC md ops k i xs=A:=by
 kernel_rfl)(hQ:∀c a w,Q (.panic c) (a.put oi.dst v) w->Q (.panic c) a w:=by
 exact fun _ _ _ h=>h)(hwa:I oi (tI ops a.tmps)=A:=by
 kernel_rfl):ZC P md ops Q S k (n+1) done a w:=Iw hi hs hf hr hcl hw hQ hS hwa hy h
theorem AZ{oi:L}{v:J}{a:Act}(h:YieldsIf P ops (fun _=>True) oi v a):Yields P ops oi v a:=h.imp (fun⟨hw,hv⟩=>⟨hw,fun w=>hv w trivial⟩) id
theorem Hv{i:Nat}{oi:L}{v:J}(hi:ops[i]?=F oi)(hsel:∀(j:Nat)(o:L)cs b,ops[j]?=F o->o.op≠.select cs b)(hQ:∀c a w,Q (.panic c) (a.put oi.dst v) w->Q (.panic c) a w)(hik:i≠k):∀(n:Nat)(done:Array Bool)(a:Act)(w:B),(∀j oj,ops[j]?=F oj->j≠i->done.getD j A=C->(∀e∈oj.after,G md e=A->e.on≠i)->oi.apart ops oj=A)->i∈D md ops done->YieldsIf P ops (fun _=>True) oi v a->S w->ZC P md ops Q S k n (done.setIfInBounds i A) (a.put oi.dst v) w->ZC P md ops Q S k (n+1) done a w:=by
 intro n;induction n with|zero=>intro done a w _ hr hy hS H;refine⟨fun h=>absurd hr (by rw[h];simp),fun j hj=>?_⟩;by_cases e:j=i;(·subst e;refine hy.wpOp hi trivial ?_;rw[if_neg hik];exact⟨hS,H⟩);·have:=ready_mono hj e;rw[H.1]at this;cases this|succ n ih=>intro done a w hfree hr hy hS H;refine⟨fun h=>absurd hr (by rw[h];simp),fun j hj=>?_⟩;by_cases e:j=i;(·subst e;refine hy.wpOp hi trivial ?_;rw[if_neg hik];exact⟨hS,H⟩);·have h1:=H.2 j (ready_mono hj e);obtain⟨hjun,oj,hoj,hall⟩:=mem_ready.1 hj;(have hnot:∀d∈oj.after,G md d=A->d.on≠i:=fun d hd hb hq=>by have h1:=hall d hd hb;rw[hq]at h1;exact Mc (mem_ready.1 hr).1 h1);(have hfree':∀m om,ops[m]?=F om->m≠i->(done.setIfInBounds j A).getD m A=C->(∀e∈om.after,G md e=A->e.on≠i)->oi.apart ops om=A:=fun m om hm hmi hun hno=>by refine hfree m om hm hmi ?_ hno;by_cases hq:j=m;(·subst hq;exact hjun);·rw[getD_set_ne A hq]at hun;exact hun);have h2:=wpOp_putIf hoj (hfree j oj hoj e hjun hnot) (fun cs b=>hsel i oi cs b hi) (fun cs b=>hsel j oj cs b hoj) hQ hy h1;refine wpOp_mono (fun a' w' h3=>?_) h2;by_cases hjk:j=k;(·have h4:=h3.2;rw[if_pos hjk]at h4⊢;refine wpAny_first hi hsel hQ n (done.setIfInBounds j A) a' w' hfree' (ready_mono hr (Ne.symm e)) (AZ h3.1) ?_;rw[tB _ _ e];exact h4);·have h4:=h3.2;rw[if_neg hjk]at h4⊢;refine⟨h4.1,ih (done.setIfInBounds j A) a' w' hfree' (ready_mono hr (Ne.symm e)) h3.1 h4.1 ?_⟩;rw[tB _ _ e];exact h4.2
theorem Ai{i:Nat}{oi:L}{v:J}{n:Nat}{done:Array Bool}{a:Act}{w:B}(hi:ops[i]?=F oi)(hs:tG ops=A)(hf:tK md ops done i=A)(hr:(D md ops done).contains i=A)(hik:i≠k)(hQ:∀c a w,Q (.panic c) (a.put oi.dst v) w->Q (.panic c) a w)(hS:S w)(hwa:I oi (tI ops a.tmps)=A)(hy:∀w,(execOp a.eval oi).run P w=.ok (.value v) w)(h:ZC P md ops Q S k n (done.setIfInBounds i A) (a.put oi.dst v) w):ZC P md ops Q S k (n+1) done a w:=Hv hi (tS hs) hQ hik n done a w (tW hi hf) (by
 simpa using hr) (.inl ⟨hwa,fun w _=>hy w⟩) hS h
theorem Gl(i:Nat)(v:J){oi:L}{n:Nat}{done:Array Bool}{a:Act}{w:B}(hi:ops[i]?=F oi)(hS:S w)(hy:∀w,(execOp a.eval oi).run P w=.ok (.value v) w)(h:ZC P md ops Q S k n (done.setIfInBounds i A) (a.put oi.dst v) w)(hs:tG ops=A:=by
 kernel_rfl)(hf:tK md ops done i=A:=by
 kernel_rfl)(hr:(D md ops done).contains i=A:=by
 kernel_rfl)(hik:i≠k:=by
 decide)(hQ:∀c a w,Q (.panic c) (a.put oi.dst v) w->Q (.panic c) a w:=by
 exact fun _ _ _ h=>h)(hwa:I oi (tI ops a.tmps)=A:=by
 kernel_rfl):ZC P md ops Q S k (n+1) done a w:=Ai hi hs hf hr hik hQ hS hwa hy h
def Za(P:Program)(md:W)(ops:Array L)(Q:Exit->Act->B->Prop)(S:B->Prop)(k n:Nat)(done:Array Bool)(a:Act)(w:B)(rs:List Nat):Prop:=∀i∈rs,wpOp P ops Q i (fun a' w'=>if i=k then wpAny P md ops Q n (done.setIfInBounds i A) a' w' else S w'∧ZC P md ops Q S k n (done.setIfInBounds i A) a' w') a w
theorem Za.nil{n:Nat}{done:Array Bool}{a:Act}{w:B}:Za P md ops Q S k n done a w []:=fun _ h=>by
 cases h
theorem Za.cons{n:Nat}{done:Array Bool}{a:Act}{w:B}{i:Nat}{o:L}{rs:List Nat}(ho:ops[i]?=F o)(hk:i≠k)(h:∀K':Act->B->Prop,(∀a w,S w->ZC P md ops Q S k n (done.setIfInBounds i A) a w->K' a w)->if I o (tI ops a.tmps)=A then Oper.wp P o a w K' Q else K' (a.put o.dst sC) w)(hs:Za P md ops Q S k n done a w rs):Za P md ops Q S k n done a w (i::rs):=fun j hj=>by
 rcases sA.1 hj with rfl|hj;·refine wpOp_step ho (fun K' hK=>h K' (fun a w hS hW=>hK a w ?_));rw[if_neg hk];exact⟨hS,hW⟩
 ·exact hs j hj
theorem Sp{rs:List Nat}{n:Nat}{done:Array Bool}{a:Act}{w:B}(hr:D md ops done=rs)(hne:rs≠[])(h:Za P md ops Q S k n done a w rs):ZC P md ops Q S k (n+1) done a w:=⟨fun h0=>absurd (hr▸h0) hne,hr▸h⟩
theorem KR(rs:List Nat){n:Nat}{done:Array Bool}{a:Act}{w:B}(h:Za P md ops Q S k n done a w rs)(hr:D md ops done=rs:=by
 kernel_rfl)(hne:rs≠[]:=by
 simp):ZC P md ops Q S k (n+1) done a w:=Sp hr hne h
theorem UJ{n:Nat}{done:Array Bool}{a:Act}{w:B}(hr:D md ops done=[k]){o:L}(ho:ops[k]?=F o)(h:∀K':Act->B->Prop,(∀a w,wpAny P md ops Q n (done.setIfInBounds k A) a w->K' a w)->if I o (tI ops a.tmps)=A then Oper.wp P o a w K' Q else K' (a.put o.dst sC) w):ZC P md ops Q S k (n+1) done a w:=by
 refine⟨fun h0=>(by rw[hr]at h0;cases h0),fun i hi=>?_⟩;rw[hr]at hi;obtain rfl:i=k:=by simpa using hi
 refine wpOp_step ho (fun K' hK=>h K' (fun a w hW=>hK a w ?_));rw[if_pos rfl];exact hW
end
end
section
structure SP where
  p : J -> B -> Prop
  st : ∀ v w w', X w w' T -> p v w -> p v w'
def SP.any:SP:=⟨fun _ _=>True,fun _ _ _ _ _=>trivial⟩
def SP.eq(c:J):SP:=⟨fun v _=>v=c,fun _ _ _ _ h=>h⟩
section
variable{P:Program}{Q:Exit->Act->B->Prop}{l:List L}
def jK(f:Nat->J)(ts:List Nat)(a:Act):Act:=ts.foldl (fun a t=>a.put (F t) (f t)) a
theorem Ng(f:Nat->J):∀(ts:List Nat)(a:Act),(jK f ts a).tmps.size=a.tmps.size|[],_=>rfl|t::ts,a=>by show(jK f ts (a.put (F t) (f t))).tmps.size=_;rw[Ng f ts];simp[Act.put]
theorem P9(f:Nat->J):∀(ts:List Nat)(a:Act),(jK f ts a).defers=a.defers|[],_=>rfl|t::ts,a=>by show(jK f ts (a.put (F t) (f t))).defers=_;rw[P9 f ts];rfl
theorem LP(f:Nat->J):∀(ts:List Nat)(a:Act)(t:Nat),t<a.tmps.size->(jK f ts a).tmps[t]?=if t∈ts then F (f t)else a.tmps[t]?|[],_,_,_=>by simp[jK]|s::ts,a,t,h=>by show(jK f ts (a.put (F s) (f s))).tmps[t]?=_;rw[LP f ts _ t (by simpa[Act.put]using h)];by_cases h1:t∈ts;(·rw[if_pos h1,if_pos (List.mem_cons_of_mem _ h1)]);·rw[if_neg h1];by_cases h2:t=s;(·subst h2;rw[if_pos List.mem_cons_self];simp[Act.put,h]);·rw[if_neg (by simp[h1,h2])];simp only[Act.put];rw[Y (fun e=>h2 e.symm)]
def Ux(P:Program)(o:L)(ev:tU->J)(w:B)(R:J->B->Prop):Prop:=match(execOp ev o).run P w with|.ok (.value v) w'=>R v w'|.ok (.enter f args) w'=>Calls P f args w' (fun e w''=>∃v,e=.returned v∧R v w'')|_=>False
theorem Ux.val{o:L}{ev:tU->J}{w w':B}{v:J}{R:J->B->Prop}(h:(execOp ev o).run P w=.ok (.value v) w')(hr:R v w'):Ux P o ev w R:=by
 unfold Ux;rw[h];exact hr
theorem Ux.call{o:L}{ev:tU->J}{w w':B}{f:Nat}{args:Array J}{R:J->B->Prop}(h:(execOp ev o).run P w=.ok (.enter f args) w')(hr:Calls P f args w' (fun e w''=>∃v,e=.returned v∧R v w'')):Ux P o ev w R:=by
 unfold Ux;rw[h];exact hr
theorem Ux.wp{o:L}{a:Act}{w:B}{R:J->B->Prop}{K:Act->B->Prop}(h:Ux P o a.eval w R)(hk:∀v w',R v w'->K (a.put o.dst v) w'):o.wp P a w K Q:=by
 unfold Ux at h;unfold Oper.wp;generalize(execOp a.eval o).run P w=r at h;cases r with|ok n w'=>(cases n with|value v=>exact hk _ _ h|enter f args=>refine Calls.mono h ?_;rintro e w''⟨v,rfl,hr⟩;exact hk _ _ hr|_=>exact h.elim)|halt x w'=>exact h.elim
theorem un{P:Program}{o:L}{ev:tU->J}{w:B}{R:J->B->Prop}{ts:List Nat}(h:Ux P o ev w R)(hg:o.guard=T:=by
 rfl):(∀g b,o.guard=F (g,b)->ev (.tmp (ts.getD g 0))=.bool b)∧Ux P o ev w R:=⟨fun g b e=>(by
 rw[hg]at e;cases e),h⟩
def N6(ops:Array L):Nat->Nat->Nat->Bool|0,_,_=>C|n+1,i,j=>match ops[i]?with|F o=>o.after.any fun e=>G .any e&&(e.on==j||N6 ops n e.on j)|none=>C
theorem RG{ops:Array L}{done:Array Bool}(hc:yI .any ops done):∀(n i j:Nat),N6 ops n i j=A->(∀o,ops[i]?=F o->∀e∈o.after,G .any e=A->done.getD e.on C=A)->done.getD j C=A|0,_,_,h,_=>by cases h|n+1,i,j,h,hi=>by rw[N6]at h;cases ho:ops[i]?with|none=>rw[ho]at h;cases h|some o=>rw[ho]at h;obtain⟨e,he,hb⟩:=O.1 h;simp only[E,tM,beq_iff_eq]at hb;have h1:=hi o ho e he hb.1;rcases hb.2with h2|h2;(·rw[<-h2];exact h1);·refine RG hc n e.on j h2 fun o' ho' e' he' hb'=>hc e.on o' ho' ?_ e' he' hb';(have hlt:e.on<done.size:=by rcases V e.on done.size with h|h;(·exact h);·simp[M h]at h1);simpa[hlt]using h1
def Kr(n m:Nat):Array Bool:=((tD n).map fun j=>tE (j<m)).toArray
theorem Re:∀n k,k<=n->(Kr n k).toList.count C=n-k|0,k,h=>by simp[Kr]|n+1,k,h=>by(have e:(Kr (n+1) k).toList=(Kr n k).toList++[tE (n<k)]:=by simp[Kr,List.range_succ]);rw[e,List.count_append];by_cases hk:k<=n;(·rw[Re n k hk];simp[Nat.not_lt.2 hk];omega);·(obtain rfl:k=n+1:=by omega);(have:(Kr n (n+1)).toList.count C=0:=by rw[tX];simp only[Kr,List.mem_map,tH,decide_eq_false_iff_not,not_exists,not_and,sD];intro x hx;omega);rw[this];simp
theorem qS(a:Act)(t:Nat):a.eval (.tmp t)=(a.tmps[t]?).getD sC:=by
 simp[Act.eval]
theorem Wi{done:Array Bool}{i n:Nat}(h:done.getD i A=C)(hc:done.toList.count C=n+1):(done.setIfInBounds i A).toList.count C=n:=by
 have hlt:i<done.size:=by rcases V i done.size with h'|h';(·exact h');·simp[M h']at h
 have hi:done.toList[i]'(by simpa using hlt)=C:=by simpa[hlt]using h
 rw[Array.toList_setIfInBounds,List.count_set (by simpa using hlt),hi,hc];simp
theorem eH:∀{x y:Act},x.tmps=y.tmps->x.defers=y.defers->x=y:=fun{x y}h1 h2=>by
 cases x;cases y;cases h1;cases h2;rfl
theorem Wj(p:Nat->Bool):∀n,p n=C->∃k,k<=n∧p k=C∧∀j,j<k->p j=A:=fun n=>by
 induction n using Nat.strongRecOn with|ind n ih=>intro h;by_cases hx:∃j,j<n∧p j=C;(·obtain⟨j,hj,hp⟩:=hx;obtain⟨k,h1,h2,h3⟩:=ih j hj hp;exact⟨k,by omega,h2,h3⟩);·exact⟨n,Nat.le_refl _,h,fun j hj=>by cases e:p j with|true=>rfl|false=>exact absurd ⟨j,hj,e⟩ hx⟩
theorem GZ(k:Nat){n:Nat}{done:Array Bool}{a:Act}{w:B}{o:L}(ho:l.toArray[k]?=F o)(h:o.wp P a w (fun a' w'=>wpAny P .any l.toArray Q n (done.setIfInBounds k A) a' w') Q)(hg:o.guard=T:=by
 rfl)(hr:D .any l.toArray done=[k]:=by
 kernel_rfl):wpAny P .any l.toArray Q (n+1) done a w:=by
 refine⟨fun h0=>(by rw[hr]at h0;cases h0),fun i hi=>?_⟩;rw[hr]at hi;obtain rfl:i=k:=by simpa using hi
 refine wpOp_step ho fun K hK=>?_;rw[if_pos (by simp[I,hg])];exact Oper.wp_mono hK h
theorem To{n:Nat}{done:Array Bool}{a:Act}{w:B}(h:Q .normal a w)(hr:D .any l.toArray done=[]:=by
 kernel_rfl):wpAny P .any l.toArray Q n done a w:=by
 cases n with|zero=>exact⟨hr,h⟩|succ n=>exact⟨fun _=>h,fun i hi=>by rw[hr]at hi;cases hi⟩
end
end
section
section
variable{P:Program}{Q:Exit->Act->B->Prop}{l:List L}{lin:Nat->Option Nat}
def lY(P:Program)(o:L)(a:Act)(w:B)(R:J->B->Prop):Prop:=∀(K:Act->B->Prop)(Q:Exit->Act->B->Prop),(∀v w',R v w'->K (a.put o.dst v) w')->o.wp P a w K Q
def lU(P:Program)(l:List L)(ts:List Nat)(Fs:List SP)(lin:Nat->Option Nat)(W0:B)(a0:Act)(i:Nat)(o:L):Prop:=∀(a:Act)(w:B),(∀t,t∉ts->a.eval (.tmp t)=a0.eval (.tmp t))->(∀j,j<ts.length->Vx .any l.toArray i j=A->(lin j=T∨lin j=F i)->(Fs.getD j SP.any).p (a.eval (.tmp (ts.getD j 0))) w)->X W0 w T->(∀g b,o.guard=F (g,b)->a.eval (.tmp (ts.getD g 0))=.bool b)∧lY P o a w (fun v w'=>X W0 w' T∧(Fs.getD i SP.any).p v w'∧∀j,j<ts.length->j≠i->lin j≠F i->∀u,(Fs.getD j SP.any).p u w->(Fs.getD j SP.any).p u w')
theorem lU.ev{ts:List Nat}{Fs:List SP}{W0:B}{a0:Act}{i:Nat}{o:L}(h:∀(ev:tU->J)(w:B),(∀v,ev (.const v)=v)->(∀g,ev (.global g)=.pointer (F ⟨g,0,T⟩))->(∀f,ev (.func f)=.func (.func f) #[] #[])->(∀t,t∉ts->ev (.tmp t)=a0.eval (.tmp t))->(∀j,j<ts.length->Vx .any l.toArray i j=A->(lin j=T∨lin j=F i)->(Fs.getD j SP.any).p (ev (.tmp (ts.getD j 0))) w)->X W0 w T->(∀g b,o.guard=F (g,b)->ev (.tmp (ts.getD g 0))=.bool b)∧Ux P o ev w (fun v w'=>X w w' T∧(Fs.getD i SP.any).p v w')):lU P l ts Fs lin W0 a0 i o:=fun a w hb hf hg=>by
 obtain⟨h1,h2⟩:=h a.eval w (fun _=>rfl) (fun _=>rfl) (fun _=>rfl) hb hf hg;exact⟨h1,fun K Q hK=>h2.wp fun v w' hr=>hK v w' ⟨Qa hg hr.1,hr.2,fun j _ _ _ u hu=>(Fs.getD j SP.any).st u w w' hr.1 hu⟩⟩
def AT(P:Program)(l:List L)(ts:List Nat)(Fs:List SP)(lin:Nat->Option Nat)(W0:B)(a0:Act):Nat->Nat->List L->Prop|0,_,_=>True|_+1,_,[]=>True|m+1,i,o::os=>lU P l ts Fs lin W0 a0 i o∧AT P l ts Fs lin W0 a0 m (i+1) os
theorem AT.at{ts:List Nat}{Fs:List SP}{W0:B}{a0:Act}:∀(m i:Nat)(os:List L),AT P l ts Fs lin W0 a0 m i os->∀j o,j<m->os[j]?=F o->lU P l ts Fs lin W0 a0 (i+j) o|0,_,_,_,_,_,h,_=>absurd h (Nat.not_lt_zero _)|_+1,_,[],_,_,_,_,h=>by simp at h|m+1,i,o::os,h,0,o',_,e=>by(obtain rfl:o=o':=by simpa using e);exact h.1|m+1,i,o::os,h,j+1,o',hj,e=>by have:=AT.at m (i+1) os h.2 j o' (by omega) (by simpa using e);rwa[show i+(j+1)=i+1+j by omega]
structure lS (l : List L) (ts : List Nat) (Fs : List SP) (lin : Nat -> Option Nat) (W0 : B) (a0 : Act) (n : Nat) (done : Array Bool) (a : Act) (w : B) : Prop where
  size : done.size = l.length
  count : done.toList.count C = n
  closed : yI .any l.toArray done
  late : ∀ j, ts.length <= j -> done.getD j C = C
  good : X W0 w T
  asize : a.tmps.size = a0.tmps.size
  defers : a.defers = a0.defers
  base : ∀ t, t ∉ ts -> a.tmps[t]? = a0.tmps[t]?
  fact : ∀ j, j < ts.length -> done.getD j C = A -> (∀ c, lin j = F c -> done.getD c C = C) -> (Fs.getD j SP.any).p (a.eval (.tmp (ts.getD j 0))) w
def vE(n m x:Nat):Array Bool:=((tD n).map fun j=>tE (j<m)&&!tE (j=x)).toArray
def Ls(l:List L)(ts:List Nat)(size x:Nat):Bool:=(tD l.length).all (fun i=>match l[i]?with|F o=>(o.after.all fun e=>!G .any e||tE (e.on<i))&&(if i<ts.length then(o.dst==F (ts.getD i 0))&&(match o.guard with|none=>A|F (g,_)=>tE (g<i))&&tE (ts.getD i 0<size)else((tD l.length).any fun j=>tE (ts.length<=j)&&Vx .any l.toArray i j)||((tD ts.length).all fun j=>tE (j=x)||N6 l.toArray l.length i j))|none=>A)&&tE ts.Nodup&&tE (ts.length<=l.length)
theorem Ou{ts:List Nat}{Fs:List SP}{W0:B}{a0:Act}{n:Nat}{done:Array Bool}{a:Act}{w:B}(S:lS l ts Fs lin W0 a0 n done a w):a=jK (fun t=>a.eval (.tmp t)) ts a0:=by
 refine eH (Array.ext_getElem? fun t=>?_) (by rw[P9];exact S.defers);rcases V t a0.tmps.size with ht|ht;·rw[LP _ _ _ _ ht];by_cases hm:t∈ts;(·rw[if_pos hm,qS];(have ht':t<a.tmps.size:=by rw[S.asize];exact ht);simp[ht']);·rw[if_neg hm];exact S.base t hm
 ·rw[M (by rw[S.asize];exact ht),M (by rw[Ng];exact ht)]
theorem cZ{x:Nat}{ts:List Nat}{Fs:List SP}{W0:B}{a0:Act}{n:Nat}{done:Array Bool}{a:Act}{w:B}(S:lS l ts Fs lin W0 a0 n done a w)(hall:∀j,j<ts.length->j≠x->done.getD j C=A)(hx:done.getD x C=C)(hend:∀(f:Nat->J)(w:B),X W0 w T->(∀j,j<ts.length->j≠x->lin j=T->(Fs.getD j SP.any).p (f (ts.getD j 0)) w)->wpAny P .any l.toArray Q ((vE l.length ts.length x).toList.count C) (vE l.length ts.length x) (jK f ts a0) w):wpAny P .any l.toArray Q n done a w:=by
 have hd:done=vE l.length ts.length x:=by refine sB (by simp[vE,S.size]) fun j h1 h2=>?_;simp only[vE,tV,tZ,tY];by_cases hj:j<ts.length;(·by_cases hjx:j=x;(·subst hjx;simp[h1]at hx;simp[hx]);·have:=hall j hj hjx;simp[h1]at this;simp[this,hj,hjx]);·have:=S.late j (by omega);simp[h1]at this;simp[this,hj]
 have ha:=Ou S;have hn:=S.count;subst hd;rw[<-hn,ha];exact hend _ w S.good fun j hj hjx hl=>S.fact j hj (hall j hj hjx) fun c hc=>(by rw[hl]at hc;cases hc)
theorem O0{ts:List Nat}{Fs:List SP}{W0:B}{a0:Act}{n:Nat}{done:Array Bool}{a:Act}{w:B}(S:lS l ts Fs lin W0 a0 n done a w)(hall:∀j,j<ts.length->done.getD j C=A)(hend:∀(f:Nat->J)(w:B),X W0 w T->(∀j,j<ts.length->lin j=T->(Fs.getD j SP.any).p (f (ts.getD j 0)) w)->wpAny P .any l.toArray Q ((Kr l.length ts.length).toList.count C) (Kr l.length ts.length) (jK f ts a0) w):wpAny P .any l.toArray Q n done a w:=by
 have hd:done=Kr l.length ts.length:=by refine sB (by simp[Kr,S.size]) fun j h1 h2=>?_;simp only[Kr,tV,tZ,tY];by_cases hj:j<ts.length;(·have:=hall j hj;simp[h1]at this;simp[this,hj]);·have:=S.late j (by omega);simp[h1]at this;simp[this,hj]
 have ha:=Ou S;have hn:=S.count;subst hd;rw[<-hn,ha];exact hend _ w S.good fun j hj hl=>S.fact j hj (hall j hj) fun c hc=>(by rw[hl]at hc;cases hc)
theorem i9{x:Nat}{ts:List Nat}{Fs:List SP}{W0:B}{a0:Act}(hf:Ls l ts a0.tmps.size x=A)(hops:AT P l ts Fs lin W0 a0 ts.length 0 l)(hend:∀(f:Nat->J)(w:B),X W0 w T->(∀j,j<ts.length->lin j=T->(Fs.getD j SP.any).p (f (ts.getD j 0)) w)->wpAny P .any l.toArray Q ((Kr l.length ts.length).toList.count C) (Kr l.length ts.length) (jK f ts a0) w)(hendX:∀(f:Nat->J)(w:B),X W0 w T->(∀j,j<ts.length->j≠x->lin j=T->(Fs.getD j SP.any).p (f (ts.getD j 0)) w)->wpAny P .any l.toArray Q ((vE l.length ts.length x).toList.count C) (vE l.length ts.length x) (jK f ts a0) w):∀(n:Nat)(done:Array Bool)(a:Act)(w:B),lS l ts Fs lin W0 a0 n done a w->wpAny P .any l.toArray Q n done a w:=by
 simp only[Ls,E,decide_eq_true_eq,tL,tH]at hf;obtain⟨⟨hform,hnd⟩,hml⟩:=hf;have hlow:∀(i:Nat)(o:L),l[i]?=F o->∀e∈o.after,G .any e=A->e.on<i:=fun i o ho e he hb=>by have h:=hform i (tA.1 ho).1;rw[ho]at h;simp only[E,tJ,tM,decide_eq_true_eq]at h;rcases h.1 e he with h|h;(·rw[hb]at h;cases h);·exact h
 have hear:∀(i:Nat)(o:L),i<ts.length->l[i]?=F o->o.dst=F (ts.getD i 0)∧(∀g b,o.guard=F (g,b)->g<i)∧ts.getD i 0<a0.tmps.size:=fun i o hi ho=>by have h:=hform i (tA.1 ho).1;rw[ho]at h;simp only[E]at h;have h:=h.2;rw[if_pos hi]at h;simp only[E,beq_iff_eq,decide_eq_true_eq]at h;refine⟨h.1.1,fun g b e=>?_,h.2⟩;have h2:=h.1.2;rw[e]at h2;simpa using h2
 intro n;induction n with|zero=>intro done a w S;by_cases hall:∀j,j<ts.length->done.getD j C=A;(·exact O0 S hall hend);(·exfalso;refine hall fun j hj=>?_;have h0:=tX.1 S.count;(have hlt:j<done.size:=by rw[S.size];omega);cases e:done[j]with|true=>simp[hlt,e]|false=>exact absurd (by rw[<-e];exact Array.getElem_mem_toList hlt) h0)|succ n ih=>intro done a w S;by_cases hall:∀j,j<ts.length->done.getD j C=A;(·exact O0 S hall hend);·by_cases hallX:∀j,j<ts.length->j≠x->done.getD j C=A;(·refine cZ S hallX ?_ hendX;cases e:done.getD x C with|false=>rfl|true=>exact absurd (fun j hj=>if h:j=x then(h▸e)else hallX j hj h) hall);(have hun:∃j,j<ts.length∧done.getD j C=C:=by refine Classical.byContradiction fun hc=>hall fun j hj=>?_;cases e:done.getD j C with|true=>rfl|false=>exact absurd ⟨j,hj,e⟩ hc);obtain⟨j0,hj0,hd0⟩:=hun;obtain⟨k,hk,hdk,hbef⟩:=Wj (fun j=>done.getD j C) j0 hd0;(have hkl:k<l.length:=by omega);have hkr:k∈D .any l.toArray done:=mem_ready.2 ⟨by(have hlt:k<done.size:=by rw[S.size];exact hkl);simpa[hlt]using hdk,l[k],by simp[hkl],fun e he hb=>hbef _ (hlow k l[k] (by simp[hkl]) e he hb)⟩;refine⟨fun h=>(by rw[h]at hkr;cases hkr),fun i hi=>?_⟩;obtain⟨hiu,o,ho,hdep⟩:=mem_ready.1 hi;(have ho':l[i]?=F o:=by simpa using ho);have hil:i<l.length:=(tA.1 ho').1;by_cases him:i<ts.length;(·obtain⟨h1,h2,h3⟩:=hear i o him ho';(have hiu':done.getD i C=C:=by(have hlt:i<done.size:=by rw[S.size];exact hil);simpa[hlt]using hiu);refine wpOp_step ho fun K hK=>?_;have hO:=AT.at ts.length 0 l hops i o him ho';rw[Nat.zero_add]at hO;obtain⟨hgd,hr⟩:=hO a w (fun t ht=>by rw[qS,qS,S.base t ht]) (fun j hj hw hl=>by refine S.fact j hj ?_ fun c hc=>(by rcases hl with hl|hl<;>rw[hl]at hc<;>cases hc;exact hiu');rw[Vx,ho]at hw;obtain⟨e,he,hb⟩:=O.1 hw;simp only[E,beq_iff_eq]at hb;rw[<-hb.2];exact hdep e he hb.1) S.good;rw[if_pos (by cases hg:o.guard with|none=>simp[I,hg]|some p=>obtain⟨g,b⟩:=p;have hgi:=h2 g b hg;have hv:=hgd g b hg;obtain⟨o2,ho2⟩:∃o2,l[g]?=F o2:=⟨l[g],by simp⟩;obtain⟨k1,_,k3⟩:=hear g o2 (by omega) ho2;(have hlt:ts.getD g 0<a.tmps.size:=by rw[S.asize];exact k3);(have hy:tI l.toArray a.tmps g=F b:=by generalize ts.getD g 0=q at k1 hlt hv;(have ht:a.tmps[q]?=F (.bool b):=by rw[qS,tP hlt]at hv;rw[tP hlt,<-hv];rfl);simp[tI,ho2,k1,ht]);simp[I,hg,hy])];refine hr _ _ fun v w' hv=>hK _ _ (ih _ _ _ ?_);rw[h1];(have hia:ts.getD i 0<a.tmps.size:=by rw[S.asize];exact h3);refine⟨by rw[tQ];exact S.size,Wi hiu S.count,S.closed.step hi,fun j hj=>?_,hv.1,?_,S.defers,fun t ht=>?_,fun j hj hd hl=>?_⟩;(·rw[getD_set_ne C (by omega)];exact S.late j hj);(·show(a.tmps.setIfInBounds _ _).size=_;rw[tQ];exact S.asize);(·have hne:ts.getD i 0≠t:=fun e=>ht (by rw[<-e,z,tC him];exact List.getElem_mem him);show(a.tmps.setIfInBounds _ _)[t]?=_;rw[Y hne];exact S.base t ht);·by_cases e:i=j;(·subst e;(have:(a.put (F (ts.getD i 0)) v).eval (.tmp (ts.getD i 0))=v:=by generalize ts.getD i 0=q at hia⊢;rw[qS];simp[Act.put,hia]);rw[this];exact hv.2.1);·have hne:ts.getD i 0≠ts.getD j 0:=fun he=>(by rw[z,z,tC him,tC hj]at he;(have he:ts[i]=ts[j]:=by simpa using he);rcases Nat.lt_or_gt_of_ne e with h|h;(·exact absurd he (tR.1 hnd i j him hj h));·exact absurd he.symm (tR.1 hnd j i hj him h));(have:(a.put (F (ts.getD i 0)) v).eval (.tmp (ts.getD j 0))=a.eval (.tmp (ts.getD j 0)):=by rw[qS,qS];show((a.tmps.setIfInBounds _ _)[ts.getD j 0]?).getD sC=_;rw[Y hne]);rw[this];rw[getD_set_ne C e]at hd;(have hne2:lin j≠F i:=fun hc=>by have h9:=hl i hc;(have hlt:i<done.size:=by rw[S.size];exact hil);simp[hlt]at h9);refine hv.2.2 j hj (fun e'=>e e'.symm) hne2 _ (S.fact j hj hd fun c hc=>?_);have h9:=hl c hc;rwa[getD_set_ne C (fun e'=>hne2 (by rw[e'];exact hc))]at h9);·exfalso;have h:=hform i hil;rw[ho']at h;simp only[E]at h;have h:=h.2;rw[if_neg him,tM,List.any_eq_true,tL]at h;rcases h with⟨j,hj,hb⟩|hb;(·simp only[E,decide_eq_true_eq]at hb;have hw:=hb.2;rw[Vx,ho]at hw;obtain⟨e,he,hbb⟩:=O.1 hw;simp only[E,beq_iff_eq]at hbb;have:=hdep e he hbb.1;rw[hbb.2,S.late j hb.1]at this;cases this);·refine hallX fun j hj hjx=>RG S.closed _ i j ((by simpa[hjx]using hb j (tH.2 hj))) fun o2 ho2 e he hbe=>?_;rw[ho]at ho2;cases ho2;exact hdep e he hbe
theorem El(n k N x:Nat)(lin:Nat->Option Nat){id:Nat}{ts:List Nat}{Fs:List SP}{a0:Act}{w:B}(hm:P.follows .mixedOrders=A)(hf:Ls l ts a0.tmps.size x=A)(hn:l.length=n)(hk:ts.length=k)(hops:AT P l ts Fs lin w a0 ts.length 0 l)(hN:(vE n k x).toList.count C=N)(hendX:∀(f:Nat->J)(w':B),X w w' T->(∀j,j<k->j≠x->lin j=T->(Fs.getD j SP.any).p (f (ts.getD j 0)) w')->wpAny P .any l.toArray Q N (vE n k x) (jK f ts a0) w')(hend:∀(f:Nat->J)(w':B),X w w' T->(∀j,j<k->lin j=T->(Fs.getD j SP.any).p (f (ts.getD j 0)) w')->wpAny P .any l.toArray Q (n-k) (Kr n k) (jK f ts a0) w'):(Code.region id l.toArray A).wp P Q a0 w:=by
 subst hn hk hN;have hml:ts.length<=l.length:=by simp only[Ls,E,decide_eq_true_eq]at hf;exact hf.2
 have hc:(Kr l.length ts.length).toList.count C=l.length-ts.length:=Re _ _ hml;refine wp_region_any hm (i9 hf hops (by rw[hc];exact hend) hendX _ _ _ _ ⟨by simp,by simp,?_,fun j _=>?_,Ql (Qb _ _),rfl,rfl,fun _ _=>rfl,fun j _ h _=>?_⟩);·intro j o ho hd;(have hlt:j<l.length:=by simpa using(tN.1 ho).1);simp[hlt]at hd
 ·rcases V j l.length with h|h<;>simp[h]
 ·exfalso;rcases V j l.length with h'|h'<;>simp[h']at h
theorem cT(j k:Nat){n:Nat}{done:Array Bool}{a:Act}{w:B}{o p:L}(ho:l.toArray[j]?=F o)(hp:l.toArray[k]?=F p)(h1:o.wp P a w (fun a' w'=>wpAny P .any l.toArray Q n (done.setIfInBounds j A) a' w') Q)(h2:p.wp P a w (fun a' w'=>wpAny P .any l.toArray Q n (done.setIfInBounds k A) a' w') Q)(hg:o.guard=T:=by
 rfl)(hq:p.guard=T:=by
 rfl)(hr:D .any l.toArray done=[j,k]:=by
 kernel_rfl):wpAny P .any l.toArray Q (n+1) done a w:=by
 refine⟨fun h0=>(by rw[hr]at h0;cases h0),fun i hi=>?_⟩;rw[hr]at hi;simp only[sA,List.not_mem_nil,or_false]at hi;rcases hi with rfl|rfl;·refine wpOp_step ho fun K hK=>?_;rw[if_pos (by simp[I,hg])];exact Oper.wp_mono hK h1
 ·refine wpOp_step hp fun K hK=>?_;rw[if_pos (by simp[I,hq])];exact Oper.wp_mono hK h2
end
end
end Go.Proofs.YtieoehicoocpjaaGreatDoor
