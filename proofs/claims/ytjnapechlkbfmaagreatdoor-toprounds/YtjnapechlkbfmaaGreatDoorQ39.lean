/-
  Texts of this proof, joined, with few blanks: SvLt, RgF.
-/
import Derived.OrdersHeld
import Derived.Test.YtjnapechlkbfmaaGreatDoorQ36
set_option maxRecDepth 100000
set_option maxHeartbeats 8000000
open Array renaming getElem?_eq_none->G,any_eq_true'->N,getElem?_setIfInBounds_ne->V,setIfInBounds_comm->Y,all_eq_true_iff_forall_mem->tD,getElem?_eq_some_iff->tH,getElem?_eq_getElem->tI,size_setIfInBounds->tJ
open Bool renaming true->A,and_eq_true->C,false->E,or_eq_true->tR
open Go renaming World->B,Value->I,Oper->L,yielded->tB,Operand->tN,undef->tS
open Go.Region renaming ready->D,binds->J,wanted->M,Mode->T,noSelect->z,free->tE,noSelect_spec->tM,free_spec->tP
open List renaming getD_eq_getElem?_getD->W,getElem?_eq_some_iff->X,getElem?_eq_getElem->u,mem_range->tA,range->tC,all_eq_true->tG,pairwise_iff_getElem->tK,count_eq_zero->tQ
open Nat renaming lt_or_ge->O
open Option renaming some->F,none->tL
namespace Go.Proofs.YtjnapechlkbfmaaGreatDoor
open Go.RowKit
section
section
variable{P:Program}{ops:Array L}{Q:Exit->Act->B->Prop}{md:T}{S:B->Prop}{k:Nat}
def ZK(P:Program)(md:T)(ops:Array L)(Q:Exit->Act->B->Prop)(S:B->Prop)(k:Nat):Nat->Array Bool->Act->B->Prop|0,done,a,w=>D md ops done=[]∧Q .normal a w|n+1,done,a,w=>(D md ops done=[]->Q .normal a w)∧∀i∈D md ops done,wpOp P ops Q i (fun a' w'=>if i=k then wpAny P md ops Q n (done.setIfInBounds i A) a' w' else S w'∧ZK P md ops Q S k n (done.setIfInBounds i A) a' w') a w
theorem ZK.any:∀(n:Nat)(done:Array Bool)(a:Act)(w:B),ZK P md ops Q S k n done a w->wpAny P md ops Q n done a w|0,_,_,_,h=>h|n+1,done,_,_,h=>⟨h.1,fun i hi=>wpOp_mono (fun a' w' h'=>by by_cases e:i=k;(·rw[if_pos e]at h';exact h');·rw[if_neg e]at h';exact ZK.any n _ a' w' h'.2) (h.2 i hi)⟩
def Gg(md:T)(ops:Array L)(k i:Nat):Bool:=match ops[k]?with|F o=>o.after.any fun e=>J md e&&e.on==i|none=>E
def yE(md:T)(ops:Array L)(done:Array Bool):Prop:=∀j o,ops[j]?=F o->done.getD j A=A->∀e∈o.after,J md e=A->done.getD e.on E=A
def Mz(md:T)(ops:Array L)(done:Array Bool):Bool:=(tC ops.size).all fun j=>!done.getD j A||match ops[j]?with|F o=>o.after.all fun e=>!J md e||done.getD e.on E|none=>A
theorem It{done:Array Bool}(h:Mz md ops done=A):yE md ops done:=fun j o ho hd e he hb=>by
 have hlt:j<ops.size:=(tH.1 ho).1;have h1:=tG.1 h j (tA.2 hlt);rw[hd,ho]at h1;simp only[Bool.not_true,Bool.false_or,tD]at h1;have h2:=h1 e he;rw[hb]at h2;simpa using h2
theorem yE.step{done:Array Bool}(h:yE md ops done){j:Nat}(hj:j∈D md ops done):yE md ops (done.setIfInBounds j A):=fun m o hm hd e he hb=>by
 by_cases q:j=m;·subst q;obtain⟨_,o',ho',hall⟩:=mem_ready.1 hj;rw[hm]at ho';cases ho';exact getD_set_true (hall e he hb)
 ·rw[getD_set_ne A q]at hd;exact getD_set_true (h m o hm hd e he hb)
def jZ(md:T)(ops:Array L)(k:Nat):Nat->List Nat->Bool|i,[]=>Gg md ops k i|i,x::xs=>Gg md ops x i&&jZ md ops k x xs
theorem Mo{done:Array Bool}{i:Nat}(h:done.getD i A=E):done.getD i E≠A:=by
 rcases O i done.size with h'|h';·simp[h']at h⊢;exact h
 ·simp[G h']at h
theorem Pi{done:Array Bool}(hc:yE md ops done):∀(xs:List Nat)(i:Nat),jZ md ops k i xs=A->done.getD i A=E->k∉D md ops done|[],i,hw,h0,hk=>by obtain⟨_,o,ho,hall⟩:=mem_ready.1 hk;rw[jZ,Gg,ho]at hw;obtain⟨e,he,hb⟩:=N.1 hw;simp only[C,beq_iff_eq]at hb;have h1:=hall e he hb.1;rw[hb.2]at h1;exact Mo h0 h1|x::xs,i,hw,h0,hk=>by rw[jZ,C]at hw;refine Pi hc xs x hw.2 ?_ hk;cases hx:done.getD x A with|false=>rfl|true=>have hw1:=hw.1;rw[Gg]at hw1;cases ho:ops[x]?with|none=>rw[ho]at hw1;cases hw1|some o=>rw[ho]at hw1;obtain⟨e,he,hb⟩:=N.1 hw1;simp only[C,beq_iff_eq]at hb;have h1:=hc x o ho hx e he hb.1;rw[hb.2]at h1;exact absurd h1 (Mo h0)
theorem SH{i:Nat}{oi:L}{v:I}(hi:ops[i]?=F oi)(hsel:∀(j:Nat)(o:L)cs b,ops[j]?=F o->o.op≠.select cs b)(hQ:∀c a w,Q (.panic c) (a.put oi.dst v) w->Q (.panic c) a w){xs:List Nat}(hw:jZ md ops k i xs=A):∀(n:Nat)(done:Array Bool)(a:Act)(w:B),(∀j oj,ops[j]?=F oj->j≠i->done.getD j A=E->(∀e∈oj.after,J md e=A->e.on≠i)->oi.apart ops oj=A)->yE md ops done->i∈D md ops done->YieldsIf P ops S oi v a->S w->ZK P md ops Q S k n (done.setIfInBounds i A) (a.put oi.dst v) w->ZK P md ops Q S k (n+1) done a w:=by
 intro n;induction n with|zero=>intro done a w _ hcl hr hy hS H;refine⟨fun h=>absurd hr (by rw[h];simp),fun j hj=>?_⟩;have hjk:j≠k:=fun e=>Pi hcl xs i hw (mem_ready.1 hr).1 (e▸hj);by_cases e:j=i;(·subst e;refine hy.wpOp hi hS ?_;rw[if_neg hjk];exact⟨hS,H⟩);·have:=ready_mono hj e;rw[H.1]at this;cases this|succ n ih=>intro done a w hfree hcl hr hy hS H;refine⟨fun h=>absurd hr (by rw[h];simp),fun j hj=>?_⟩;have hjk:j≠k:=fun e=>Pi hcl xs i hw (mem_ready.1 hr).1 (e▸hj);by_cases e:j=i;(·subst e;refine hy.wpOp hi hS ?_;rw[if_neg hjk];exact⟨hS,H⟩);·have h1:=H.2 j (ready_mono hj e);obtain⟨hjun,oj,hoj,hall⟩:=mem_ready.1 hj;(have hnot:∀d∈oj.after,J md d=A->d.on≠i:=fun d hd hb hq=>by have h1:=hall d hd hb;have h0:=(mem_ready.1 hr).1;rw[hq]at h1;rcases O i done.size with h'|h';(·simp[h']at h0 h1;rw[h0]at h1;cases h1);·simp[G h']at h1);rw[show(fun a' w'=>if j=k then wpAny P md ops Q n ((done.setIfInBounds i A).setIfInBounds j A) a' w' else S w'∧ZK P md ops Q S k n ((done.setIfInBounds i A).setIfInBounds j A) a' w')=(fun a' w'=>S w'∧ZK P md ops Q S k n ((done.setIfInBounds i A).setIfInBounds j A) a' w')from funext fun a'=>funext fun w'=>if_neg hjk]at h1;have h2:=wpOp_putIf hoj (hfree j oj hoj e hjun hnot) (fun cs b=>hsel i oi cs b hi) (fun cs b=>hsel j oj cs b hoj) hQ hy h1;refine wpOp_mono (fun a' w' h3=>?_) h2;rw[if_neg hjk];refine⟨h3.2.1,ih (done.setIfInBounds j A) a' w' (fun m om hm hmi hun hno=>?_) (hcl.step hj) (ready_mono hr (Ne.symm e)) h3.1 h3.2.1 ?_⟩;(·refine hfree m om hm hmi ?_ hno;by_cases hq:j=m;(·subst hq;exact hjun);·rw[getD_set_ne A hq]at hun;exact hun);·rw[Y _ _ e];exact h3.2.2
theorem II{i:Nat}{oi:L}{v:I}{n:Nat}{done:Array Bool}{a:Act}{w:B}(hi:ops[i]?=F oi)(hs:z ops=A)(hf:tE md ops done i=A)(hr:(D md ops done).contains i=A){xs:List Nat}(hcl:Mz md ops done=A)(hw:jZ md ops k i xs=A)(hQ:∀c a w,Q (.panic c) (a.put oi.dst v) w->Q (.panic c) a w)(hS:S w)(hwa:M oi (tB ops a.tmps)=A)(hy:∀w,S w->(execOp a.eval oi).run P w=.ok (.value v) w)(h:ZK P md ops Q S k n (done.setIfInBounds i A) (a.put oi.dst v) w):ZK P md ops Q S k (n+1) done a w:=SH hi (tM hs) hQ hw n done a w (tP hi hf) (It hcl) (by
 simpa using hr) (.inl ⟨hwa,hy⟩) hS h
theorem Ye(i:Nat)(xs:List Nat)(v:I){oi:L}{n:Nat}{done:Array Bool}{a:Act}{w:B}(hi:ops[i]?=F oi)(hS:S w)(hy:∀w,S w->(execOp a.eval oi).run P w=.ok (.value v) w)(h:ZK P md ops Q S k n (done.setIfInBounds i A) (a.put oi.dst v) w)(hs:z ops=A:=by
 kernel_rfl)(hf:tE md ops done i=A:=by
 kernel_rfl)(hr:(D md ops done).contains i=A:=by
 kernel_rfl)(hcl:Mz md ops done=A:=by
 kernel_rfl)(hw:jZ md ops k i xs=A:=by
 kernel_rfl)(hQ:∀c a w,Q (.panic c) (a.put oi.dst v) w->Q (.panic c) a w:=by
 exact fun _ _ _ h=>h)(hwa:M oi (tB ops a.tmps)=A:=by
 kernel_rfl):ZK P md ops Q S k (n+1) done a w:=II hi hs hf hr hcl hw hQ hS hwa hy h
theorem Sf{oi:L}{v:I}{a:Act}(h:YieldsIf P ops (fun _=>True) oi v a):Yields P ops oi v a:=h.imp (fun⟨hw,hv⟩=>⟨hw,fun w=>hv w trivial⟩) id
theorem Wc{i:Nat}{oi:L}{v:I}(hi:ops[i]?=F oi)(hsel:∀(j:Nat)(o:L)cs b,ops[j]?=F o->o.op≠.select cs b)(hQ:∀c a w,Q (.panic c) (a.put oi.dst v) w->Q (.panic c) a w)(hik:i≠k):∀(n:Nat)(done:Array Bool)(a:Act)(w:B),(∀j oj,ops[j]?=F oj->j≠i->done.getD j A=E->(∀e∈oj.after,J md e=A->e.on≠i)->oi.apart ops oj=A)->i∈D md ops done->YieldsIf P ops (fun _=>True) oi v a->S w->ZK P md ops Q S k n (done.setIfInBounds i A) (a.put oi.dst v) w->ZK P md ops Q S k (n+1) done a w:=by
 intro n;induction n with|zero=>intro done a w _ hr hy hS H;refine⟨fun h=>absurd hr (by rw[h];simp),fun j hj=>?_⟩;by_cases e:j=i;(·subst e;refine hy.wpOp hi trivial ?_;rw[if_neg hik];exact⟨hS,H⟩);·have:=ready_mono hj e;rw[H.1]at this;cases this|succ n ih=>intro done a w hfree hr hy hS H;refine⟨fun h=>absurd hr (by rw[h];simp),fun j hj=>?_⟩;by_cases e:j=i;(·subst e;refine hy.wpOp hi trivial ?_;rw[if_neg hik];exact⟨hS,H⟩);·have h1:=H.2 j (ready_mono hj e);obtain⟨hjun,oj,hoj,hall⟩:=mem_ready.1 hj;(have hnot:∀d∈oj.after,J md d=A->d.on≠i:=fun d hd hb hq=>by have h1:=hall d hd hb;rw[hq]at h1;exact Mo (mem_ready.1 hr).1 h1);(have hfree':∀m om,ops[m]?=F om->m≠i->(done.setIfInBounds j A).getD m A=E->(∀e∈om.after,J md e=A->e.on≠i)->oi.apart ops om=A:=fun m om hm hmi hun hno=>by refine hfree m om hm hmi ?_ hno;by_cases hq:j=m;(·subst hq;exact hjun);·rw[getD_set_ne A hq]at hun;exact hun);have h2:=wpOp_putIf hoj (hfree j oj hoj e hjun hnot) (fun cs b=>hsel i oi cs b hi) (fun cs b=>hsel j oj cs b hoj) hQ hy h1;refine wpOp_mono (fun a' w' h3=>?_) h2;by_cases hjk:j=k;(·have h4:=h3.2;rw[if_pos hjk]at h4⊢;refine wpAny_first hi hsel hQ n (done.setIfInBounds j A) a' w' hfree' (ready_mono hr (Ne.symm e)) (Sf h3.1) ?_;rw[Y _ _ e];exact h4);·have h4:=h3.2;rw[if_neg hjk]at h4⊢;refine⟨h4.1,ih (done.setIfInBounds j A) a' w' hfree' (ready_mono hr (Ne.symm e)) h3.1 h4.1 ?_⟩;rw[Y _ _ e];exact h4.2
theorem At{i:Nat}{oi:L}{v:I}{n:Nat}{done:Array Bool}{a:Act}{w:B}(hi:ops[i]?=F oi)(hs:z ops=A)(hf:tE md ops done i=A)(hr:(D md ops done).contains i=A)(hik:i≠k)(hQ:∀c a w,Q (.panic c) (a.put oi.dst v) w->Q (.panic c) a w)(hS:S w)(hwa:M oi (tB ops a.tmps)=A)(hy:∀w,(execOp a.eval oi).run P w=.ok (.value v) w)(h:ZK P md ops Q S k n (done.setIfInBounds i A) (a.put oi.dst v) w):ZK P md ops Q S k (n+1) done a w:=Wc hi (tM hs) hQ hik n done a w (tP hi hf) (by
 simpa using hr) (.inl ⟨hwa,fun w _=>hy w⟩) hS h
theorem Gh(i:Nat)(v:I){oi:L}{n:Nat}{done:Array Bool}{a:Act}{w:B}(hi:ops[i]?=F oi)(hS:S w)(hy:∀w,(execOp a.eval oi).run P w=.ok (.value v) w)(h:ZK P md ops Q S k n (done.setIfInBounds i A) (a.put oi.dst v) w)(hs:z ops=A:=by
 kernel_rfl)(hf:tE md ops done i=A:=by
 kernel_rfl)(hr:(D md ops done).contains i=A:=by
 kernel_rfl)(hik:i≠k:=by
 decide)(hQ:∀c a w,Q (.panic c) (a.put oi.dst v) w->Q (.panic c) a w:=by
 exact fun _ _ _ h=>h)(hwa:M oi (tB ops a.tmps)=A:=by
 kernel_rfl):ZK P md ops Q S k (n+1) done a w:=At hi hs hf hr hik hQ hS hwa hy h
def Ze(P:Program)(md:T)(ops:Array L)(Q:Exit->Act->B->Prop)(S:B->Prop)(k n:Nat)(done:Array Bool)(a:Act)(w:B)(rs:List Nat):Prop:=∀i∈rs,wpOp P ops Q i (fun a' w'=>if i=k then wpAny P md ops Q n (done.setIfInBounds i A) a' w' else S w'∧ZK P md ops Q S k n (done.setIfInBounds i A) a' w') a w
theorem Ze.nil{n:Nat}{done:Array Bool}{a:Act}{w:B}:Ze P md ops Q S k n done a w []:=fun _ h=>by
 cases h
theorem Ze.cons{n:Nat}{done:Array Bool}{a:Act}{w:B}{i:Nat}{o:L}{rs:List Nat}(ho:ops[i]?=F o)(hk:i≠k)(h:∀K':Act->B->Prop,(∀a w,S w->ZK P md ops Q S k n (done.setIfInBounds i A) a w->K' a w)->if M o (tB ops a.tmps)=A then Oper.wp P o a w K' Q else K' (a.put o.dst tS) w)(hs:Ze P md ops Q S k n done a w rs):Ze P md ops Q S k n done a w (i::rs):=fun j hj=>by
 rcases List.mem_cons.1 hj with rfl|hj;·refine wpOp_step ho (fun K' hK=>h K' (fun a w hS hW=>hK a w ?_));rw[if_neg hk];exact⟨hS,hW⟩
 ·exact hs j hj
theorem Sy{rs:List Nat}{n:Nat}{done:Array Bool}{a:Act}{w:B}(hr:D md ops done=rs)(hne:rs≠[])(h:Ze P md ops Q S k n done a w rs):ZK P md ops Q S k (n+1) done a w:=⟨fun h0=>absurd (hr▸h0) hne,hr▸h⟩
theorem KJ(rs:List Nat){n:Nat}{done:Array Bool}{a:Act}{w:B}(h:Ze P md ops Q S k n done a w rs)(hr:D md ops done=rs:=by
 kernel_rfl)(hne:rs≠[]:=by
 simp):ZK P md ops Q S k (n+1) done a w:=Sy hr hne h
theorem UB{n:Nat}{done:Array Bool}{a:Act}{w:B}(hr:D md ops done=[k]){o:L}(ho:ops[k]?=F o)(h:∀K':Act->B->Prop,(∀a w,wpAny P md ops Q n (done.setIfInBounds k A) a w->K' a w)->if M o (tB ops a.tmps)=A then Oper.wp P o a w K' Q else K' (a.put o.dst tS) w):ZK P md ops Q S k (n+1) done a w:=by
 refine⟨fun h0=>(by rw[hr]at h0;cases h0),fun i hi=>?_⟩;rw[hr]at hi;obtain rfl:i=k:=by simpa using hi
 refine wpOp_step ho (fun K' hK=>h K' (fun a w hW=>hK a w ?_));rw[if_pos rfl];exact hW
end
end
section
structure SP where
  p : I -> B -> Prop
  st : ∀ v w w', w.grownBy w' tL -> p v w -> p v w'
def SP.any:SP:=⟨fun _ _=>True,fun _ _ _ _ _=>trivial⟩
def SP.eq(c:I):SP:=⟨fun v _=>v=c,fun _ _ _ _ h=>h⟩
section
variable{P:Program}{Q:Exit->Act->B->Prop}{l:List L}
def Pd(f:Nat->I)(ts:List Nat)(a:Act):Act:=ts.foldl (fun a t=>a.put (F t) (f t)) a
theorem Nl(f:Nat->I):∀(ts:List Nat)(a:Act),(Pd f ts a).tmps.size=a.tmps.size|[],_=>rfl|t::ts,a=>by show(Pd f ts (a.put (F t) (f t))).tmps.size=_;rw[Nl f ts];simp[Act.put]
theorem PZ(f:Nat->I):∀(ts:List Nat)(a:Act),(Pd f ts a).defers=a.defers|[],_=>rfl|t::ts,a=>by show(Pd f ts (a.put (F t) (f t))).defers=_;rw[PZ f ts];rfl
theorem LY(f:Nat->I):∀(ts:List Nat)(a:Act)(t:Nat),t<a.tmps.size->(Pd f ts a).tmps[t]?=if t∈ts then F (f t)else a.tmps[t]?|[],_,_,_=>by simp[Pd]|s::ts,a,t,h=>by show(Pd f ts (a.put (F s) (f s))).tmps[t]?=_;rw[LY f ts _ t (by simpa[Act.put]using h)];by_cases h1:t∈ts;(·rw[if_pos h1,if_pos (List.mem_cons_of_mem _ h1)]);·rw[if_neg h1];by_cases h2:t=s;(·subst h2;rw[if_pos List.mem_cons_self];simp[Act.put,h]);·rw[if_neg (by simp[h1,h2])];simp only[Act.put];rw[V (fun e=>h2 e.symm)]
def V6(P:Program)(o:L)(ev:tN->I)(w:B)(R:I->B->Prop):Prop:=match(execOp ev o).run P w with|.ok (.value v) w'=>R v w'|.ok (.enter f args) w'=>Calls P f args w' (fun e w''=>∃v,e=.returned v∧R v w'')|_=>False
theorem V6.val{o:L}{ev:tN->I}{w w':B}{v:I}{R:I->B->Prop}(h:(execOp ev o).run P w=.ok (.value v) w')(hr:R v w'):V6 P o ev w R:=by
 unfold V6;rw[h];exact hr
theorem V6.call{o:L}{ev:tN->I}{w w':B}{f:Nat}{args:Array I}{R:I->B->Prop}(h:(execOp ev o).run P w=.ok (.enter f args) w')(hr:Calls P f args w' (fun e w''=>∃v,e=.returned v∧R v w'')):V6 P o ev w R:=by
 unfold V6;rw[h];exact hr
theorem V6.wp{o:L}{a:Act}{w:B}{R:I->B->Prop}{K:Act->B->Prop}(h:V6 P o a.eval w R)(hk:∀v w',R v w'->K (a.put o.dst v) w'):o.wp P a w K Q:=by
 unfold V6 at h;unfold Oper.wp;generalize(execOp a.eval o).run P w=r at h;cases r with|ok n w'=>(cases n with|value v=>exact hk _ _ h|enter f args=>refine Calls.mono h ?_;rintro e w''⟨v,rfl,hr⟩;exact hk _ _ hr|_=>exact h.elim)|halt x w'=>exact h.elim
def lJ(P:Program)(l:List L)(ts:List Nat)(Fs:List SP)(W0:B)(a0:Act)(i:Nat)(o:L):Prop:=∀(ev:tN->I)(w:B),(∀v,ev (.const v)=v)->(∀g,ev (.global g)=.pointer (F ⟨g,0,tL⟩))->(∀f,ev (.func f)=.func (.func f) #[] #[])->(∀t,t∉ts->ev (.tmp t)=a0.eval (.tmp t))->(∀j,j<ts.length->Gg .any l.toArray i j=A->(Fs.getD j SP.any).p (ev (.tmp (ts.getD j 0))) w)->W0.grownBy w tL->(∀g b,o.guard=F (g,b)->ev (.tmp (ts.getD g 0))=.bool b)∧V6 P o ev w (fun v w'=>w.grownBy w' tL∧(Fs.getD i SP.any).p v w')
theorem un{P:Program}{o:L}{ev:tN->I}{w:B}{R:I->B->Prop}{ts:List Nat}(h:V6 P o ev w R)(hg:o.guard=tL:=by
 rfl):(∀g b,o.guard=F (g,b)->ev (.tmp (ts.getD g 0))=.bool b)∧V6 P o ev w R:=⟨fun g b e=>(by
 rw[hg]at e;cases e),h⟩
def TY(P:Program)(l:List L)(ts:List Nat)(Fs:List SP)(W0:B)(a0:Act):Nat->Nat->List L->Prop|0,_,_=>True|_+1,_,[]=>True|m+1,i,o::os=>lJ P l ts Fs W0 a0 i o∧TY P l ts Fs W0 a0 m (i+1) os
theorem TY.at{ts:List Nat}{Fs:List SP}{W0:B}{a0:Act}:∀(m i:Nat)(os:List L),TY P l ts Fs W0 a0 m i os->∀j o,j<m->os[j]?=F o->lJ P l ts Fs W0 a0 (i+j) o|0,_,_,_,_,_,h,_=>absurd h (Nat.not_lt_zero _)|_+1,_,[],_,_,_,_,h=>by simp at h|m+1,i,o::os,h,0,o',_,e=>by(obtain rfl:o=o':=by simpa using e);exact h.1|m+1,i,o::os,h,j+1,o',hj,e=>by have:=TY.at m (i+1) os h.2 j o' (by omega) (by simpa using e);rwa[show i+(j+1)=i+1+j by omega]
def Mg(ops:Array L):Nat->Nat->Nat->Bool|0,_,_=>E|n+1,i,j=>match ops[i]?with|F o=>o.after.any fun e=>J .any e&&(e.on==j||Mg ops n e.on j)|none=>E
theorem RW{ops:Array L}{done:Array Bool}(hc:yE .any ops done):∀(n i j:Nat),Mg ops n i j=A->(∀o,ops[i]?=F o->∀e∈o.after,J .any e=A->done.getD e.on E=A)->done.getD j E=A|0,_,_,h,_=>by cases h|n+1,i,j,h,hi=>by rw[Mg]at h;cases ho:ops[i]?with|none=>rw[ho]at h;cases h|some o=>rw[ho]at h;obtain⟨e,he,hb⟩:=N.1 h;simp only[C,tR,beq_iff_eq]at hb;have h1:=hi o ho e he hb.1;rcases hb.2with h2|h2;(·rw[<-h2];exact h1);·refine RW hc n e.on j h2 fun o' ho' e' he' hb'=>hc e.on o' ho' ?_ e' he' hb';(have hlt:e.on<done.size:=by rcases O e.on done.size with h|h;(·exact h);·simp[G h]at h1);simpa[hlt]using h1
def Lw(l:List L)(ts:List Nat)(size:Nat):Bool:=(tC l.length).all (fun i=>match l[i]?with|F o=>(o.after.all fun e=>decide (e.on<i))&&(if i<ts.length then(o.dst==F (ts.getD i 0))&&(match o.guard with|none=>A|F (g,_)=>decide (g<i))&&decide (ts.getD i 0<size)else((tC l.length).any fun j=>decide (ts.length<=j)&&Gg .any l.toArray i j)||((tC ts.length).all fun j=>Mg l.toArray l.length i j))|none=>A)&&decide ts.Nodup&&decide (ts.length<=l.length)
structure mD (l : List L) (ts : List Nat) (Fs : List SP) (W0 : B) (a0 : Act) (n : Nat) (done : Array Bool) (a : Act) (w : B) : Prop where
  size : done.size = l.length
  count : done.toList.count E = n
  closed : yE .any l.toArray done
  late : ∀ j, ts.length <= j -> done.getD j E = E
  good : W0.grownBy w tL
  asize : a.tmps.size = a0.tmps.size
  defers : a.defers = a0.defers
  base : ∀ t, t ∉ ts -> a.tmps[t]? = a0.tmps[t]?
  fact : ∀ j, j < ts.length -> done.getD j E = A -> (Fs.getD j SP.any).p (a.eval (.tmp (ts.getD j 0))) w
def Kl(n m:Nat):Array Bool:=((tC n).map fun j=>decide (j<m)).toArray
theorem Re:∀n k,k<=n->(Kl n k).toList.count E=n-k|0,k,h=>by simp[Kl]|n+1,k,h=>by(have e:(Kl (n+1) k).toList=(Kl n k).toList++[decide (n<k)]:=by simp[Kl,List.range_succ]);rw[e,List.count_append];by_cases hk:k<=n;(·rw[Re n k hk];simp[Nat.not_lt.2 hk];omega);·(obtain rfl:k=n+1:=by omega);(have:(Kl n (n+1)).toList.count E=0:=by rw[tQ];simp only[Kl,List.mem_map,tA,decide_eq_false_iff_not,not_exists,not_and,Decidable.not_not];intro x hx;omega);rw[this];simp
theorem qQ(a:Act)(t:Nat):a.eval (.tmp t)=(a.tmps[t]?).getD tS:=by
 simp[Act.eval]
theorem Wq{done:Array Bool}{i n:Nat}(h:done.getD i A=E)(hc:done.toList.count E=n+1):(done.setIfInBounds i A).toList.count E=n:=by
 have hlt:i<done.size:=by rcases O i done.size with h'|h';(·exact h');·simp[G h']at h
 have hi:done.toList[i]'(by simpa using hlt)=E:=by simpa[hlt]using h
 rw[Array.toList_setIfInBounds,List.count_set (by simpa using hlt),hi,hc];simp
theorem eU:∀{x y:Act},x.tmps=y.tmps->x.defers=y.defers->x=y:=fun{x y}h1 h2=>by
 cases x;cases y;cases h1;cases h2;rfl
theorem Wr(p:Nat->Bool):∀n,p n=E->∃k,k<=n∧p k=E∧∀j,j<k->p j=A:=fun n=>by
 induction n using Nat.strongRecOn with|ind n ih=>intro h;by_cases hx:∃j,j<n∧p j=E;(·obtain⟨j,hj,hp⟩:=hx;obtain⟨k,h1,h2,h3⟩:=ih j hj hp;exact⟨k,by omega,h2,h3⟩);·exact⟨n,Nat.le_refl _,h,fun j hj=>by cases e:p j with|true=>rfl|false=>exact absurd ⟨j,hj,e⟩ hx⟩
theorem cT{ts:List Nat}{Fs:List SP}{W0:B}{a0:Act}{n:Nat}{done:Array Bool}{a:Act}{w:B}(S:mD l ts Fs W0 a0 n done a w)(hall:∀j,j<ts.length->done.getD j E=A)(hend:∀(f:Nat->I)(w:B),W0.grownBy w tL->(∀j,j<ts.length->(Fs.getD j SP.any).p (f (ts.getD j 0)) w)->wpAny P .any l.toArray Q ((Kl l.length ts.length).toList.count E) (Kl l.length ts.length) (Pd f ts a0) w):wpAny P .any l.toArray Q n done a w:=by
 have hd:done=Kl l.length ts.length:=by refine Array.ext (by simp[Kl,S.size]) fun j h1 h2=>?_;simp only[Kl,List.getElem_toArray,List.getElem_map,List.getElem_range];by_cases hj:j<ts.length;(·have:=hall j hj;simp[h1]at this;simp[this,hj]);·have:=S.late j (by omega);simp[h1]at this;simp[this,hj]
 have ha:a=Pd (fun t=>a.eval (.tmp t)) ts a0:=by refine eU (Array.ext_getElem? fun t=>?_) (by rw[PZ];exact S.defers);rcases O t a0.tmps.size with ht|ht;(·rw[LY _ _ _ _ ht];by_cases hm:t∈ts;(·rw[if_pos hm,qQ];(have ht':t<a.tmps.size:=by rw[S.asize];exact ht);simp[ht']);·rw[if_neg hm];exact S.base t hm);·rw[G (by rw[S.asize];exact ht),G (by rw[Nl];exact ht)]
 have hn:=S.count;subst hd;rw[<-hn,ha];exact hend _ w S.good fun j hj=>S.fact j hj (hall j hj)
theorem lS{ts:List Nat}{Fs:List SP}{W0:B}{a0:Act}(hf:Lw l ts a0.tmps.size=A)(hops:TY P l ts Fs W0 a0 ts.length 0 l)(hend:∀(f:Nat->I)(w:B),W0.grownBy w tL->(∀j,j<ts.length->(Fs.getD j SP.any).p (f (ts.getD j 0)) w)->wpAny P .any l.toArray Q ((Kl l.length ts.length).toList.count E) (Kl l.length ts.length) (Pd f ts a0) w):∀(n:Nat)(done:Array Bool)(a:Act)(w:B),mD l ts Fs W0 a0 n done a w->wpAny P .any l.toArray Q n done a w:=by
 simp only[Lw,C,decide_eq_true_eq,tG,tA]at hf;obtain⟨⟨hform,hnd⟩,hml⟩:=hf;have hlow:∀(i:Nat)(o:L),l[i]?=F o->∀e∈o.after,e.on<i:=fun i o ho e he=>by have h:=hform i (X.1 ho).1;rw[ho]at h;simp only[C,tD,decide_eq_true_eq]at h;exact h.1 e he
 have hear:∀(i:Nat)(o:L),i<ts.length->l[i]?=F o->o.dst=F (ts.getD i 0)∧(∀g b,o.guard=F (g,b)->g<i)∧ts.getD i 0<a0.tmps.size:=fun i o hi ho=>by have h:=hform i (X.1 ho).1;rw[ho]at h;simp only[C]at h;have h:=h.2;rw[if_pos hi]at h;simp only[C,beq_iff_eq,decide_eq_true_eq]at h;refine⟨h.1.1,fun g b e=>?_,h.2⟩;have h2:=h.1.2;rw[e]at h2;simpa using h2
 intro n;induction n with|zero=>intro done a w S;by_cases hall:∀j,j<ts.length->done.getD j E=A;(·exact cT S hall hend);(·exfalso;refine hall fun j hj=>?_;have h0:=tQ.1 S.count;(have hlt:j<done.size:=by rw[S.size];omega);cases e:done[j]with|true=>simp[hlt,e]|false=>exact absurd (by rw[<-e];exact Array.getElem_mem_toList hlt) h0)|succ n ih=>intro done a w S;by_cases hall:∀j,j<ts.length->done.getD j E=A;(·exact cT S hall hend);·(have hun:∃j,j<ts.length∧done.getD j E=E:=by refine Classical.byContradiction fun hc=>hall fun j hj=>?_;cases e:done.getD j E with|true=>rfl|false=>exact absurd ⟨j,hj,e⟩ hc);obtain⟨j0,hj0,hd0⟩:=hun;obtain⟨k,hk,hdk,hbef⟩:=Wr (fun j=>done.getD j E) j0 hd0;(have hkl:k<l.length:=by omega);have hkr:k∈D .any l.toArray done:=mem_ready.2 ⟨by(have hlt:k<done.size:=by rw[S.size];exact hkl);simpa[hlt]using hdk,l[k],by simp[hkl],fun e he _=>hbef _ (hlow k l[k] (by simp[hkl]) e he)⟩;refine⟨fun h=>(by rw[h]at hkr;cases hkr),fun i hi=>?_⟩;obtain⟨hiu,o,ho,hdep⟩:=mem_ready.1 hi;(have ho':l[i]?=F o:=by simpa using ho);have hil:i<l.length:=(X.1 ho').1;by_cases him:i<ts.length;(·obtain⟨h1,h2,h3⟩:=hear i o him ho';refine wpOp_step ho fun K hK=>?_;have hO:=TY.at ts.length 0 l hops i o him ho';rw[Nat.zero_add]at hO;obtain⟨hgd,hr⟩:=hO a.eval w (fun _=>rfl) (fun _=>rfl) (fun _=>rfl) (fun t ht=>by rw[qQ,qQ,S.base t ht]) (fun j hj hw=>by refine S.fact j hj ?_;rw[Gg,ho]at hw;obtain⟨e,he,hb⟩:=N.1 hw;simp only[C,beq_iff_eq]at hb;rw[<-hb.2];exact hdep e he hb.1) S.good;rw[if_pos (by cases hg:o.guard with|none=>simp[M,hg]|some p=>obtain⟨g,b⟩:=p;have hgi:=h2 g b hg;have hv:=hgd g b hg;obtain⟨o2,ho2⟩:∃o2,l[g]?=F o2:=⟨l[g],by simp⟩;obtain⟨k1,_,k3⟩:=hear g o2 (by omega) ho2;(have hlt:ts.getD g 0<a.tmps.size:=by rw[S.asize];exact k3);(have hy:tB l.toArray a.tmps g=F b:=by generalize ts.getD g 0=q at k1 hlt hv;(have ht:a.tmps[q]?=F (.bool b):=by rw[qQ,tI hlt]at hv;rw[tI hlt,<-hv];rfl);simp[tB,ho2,k1,ht]);simp[M,hg,hy])];refine hr.wp fun v w' hv=>hK _ _ (ih _ _ _ ?_);rw[h1];(have hia:ts.getD i 0<a.tmps.size:=by rw[S.asize];exact h3);refine⟨by rw[tJ];exact S.size,Wq hiu S.count,S.closed.step hi,fun j hj=>?_,Qa S.good hv.1,?_,S.defers,fun t ht=>?_,fun j hj hd=>?_⟩;(·rw[getD_set_ne E (by omega)];exact S.late j hj);(·show(a.tmps.setIfInBounds _ _).size=_;rw[tJ];exact S.asize);(·have hne:ts.getD i 0≠t:=fun e=>ht (by rw[<-e,W,u him];exact List.getElem_mem him);show(a.tmps.setIfInBounds _ _)[t]?=_;rw[V hne];exact S.base t ht);·by_cases e:i=j;(·subst e;(have:(a.put (F (ts.getD i 0)) v).eval (.tmp (ts.getD i 0))=v:=by generalize ts.getD i 0=q at hia⊢;rw[qQ];simp[Act.put,hia]);rw[this];exact hv.2);·have hne:ts.getD i 0≠ts.getD j 0:=fun he=>(by rw[W,W,u him,u hj]at he;(have he:ts[i]=ts[j]:=by simpa using he);rcases Nat.lt_or_gt_of_ne e with h|h;(·exact absurd he (tK.1 hnd i j him hj h));·exact absurd he.symm (tK.1 hnd j i hj him h));(have:(a.put (F (ts.getD i 0)) v).eval (.tmp (ts.getD j 0))=a.eval (.tmp (ts.getD j 0)):=by rw[qQ,qQ];show((a.tmps.setIfInBounds _ _)[ts.getD j 0]?).getD tS=_;rw[V hne]);rw[this];rw[getD_set_ne E e]at hd;exact(Fs.getD j SP.any).st _ _ _ hv.1 (S.fact j hj hd));·exfalso;have h:=hform i hil;rw[ho']at h;simp only[C]at h;have h:=h.2;rw[if_neg him,tR,List.any_eq_true,tG]at h;rcases h with⟨j,hj,hb⟩|hb;(·simp only[C,decide_eq_true_eq]at hb;have hw:=hb.2;rw[Gg,ho]at hw;obtain⟨e,he,hbb⟩:=N.1 hw;simp only[C,beq_iff_eq]at hbb;have:=hdep e he hbb.1;rw[hbb.2,S.late j hb.1]at this;cases this);·refine hall fun j hj=>RW S.closed _ i j (hb j (tA.2 hj)) fun o2 ho2 e he hbe=>?_;rw[ho]at ho2;cases ho2;exact hdep e he hbe
theorem zO(n k:Nat){id:Nat}{ts:List Nat}{Fs:List SP}{a0:Act}{w:B}(hm:P.follows .mixedOrders=A)(hf:Lw l ts a0.tmps.size=A)(hn:l.length=n)(hk:ts.length=k)(hops:TY P l ts Fs w a0 ts.length 0 l)(hend:∀(f:Nat->I)(w':B),w.grownBy w' tL->(∀j,j<k->(Fs.getD j SP.any).p (f (ts.getD j 0)) w')->wpAny P .any l.toArray Q (n-k) (Kl n k) (Pd f ts a0) w'):(Code.region id l.toArray A).wp P Q a0 w:=by
 subst hn hk;have hml:ts.length<=l.length:=by simp only[Lw,C,decide_eq_true_eq]at hf;exact hf.2
 have hc:(Kl l.length ts.length).toList.count E=l.length-ts.length:=Re _ _ hml;refine wp_region_any hm (lS hf hops (by rw[hc];exact hend) _ _ _ _ ⟨by simp,by simp,?_,fun j _=>?_,Qk (Qb _ _),rfl,rfl,fun _ _=>rfl,fun j _ h=>?_⟩);·intro j o ho hd;(have hlt:j<l.length:=by simpa using(tH.1 ho).1);simp[hlt]at hd
 ·rcases O j l.length with h|h<;>simp[h]
 ·exfalso;rcases O j l.length with h'|h'<;>simp[h']at h
theorem Rh(k:Nat){n:Nat}{done:Array Bool}{a:Act}{w:B}{o:L}(ho:l.toArray[k]?=F o)(h:o.wp P a w (fun a' w'=>wpAny P .any l.toArray Q n (done.setIfInBounds k A) a' w') Q)(hg:o.guard=tL:=by
 rfl)(hr:D .any l.toArray done=[k]:=by
 kernel_rfl):wpAny P .any l.toArray Q (n+1) done a w:=by
 refine⟨fun h0=>(by rw[hr]at h0;cases h0),fun i hi=>?_⟩;rw[hr]at hi;obtain rfl:i=k:=by simpa using hi
 refine wpOp_step ho fun K hK=>?_;rw[if_pos (by simp[M,hg])];exact Oper.wp_mono hK h
theorem DH{n:Nat}{done:Array Bool}{a:Act}{w:B}(h:Q .normal a w)(hr:D .any l.toArray done=[]:=by
 kernel_rfl):wpAny P .any l.toArray Q n done a w:=by
 cases n with|zero=>exact⟨hr,h⟩|succ n=>exact⟨fun _=>h,fun i hi=>by rw[hr]at hi;cases hi⟩
end
end
end Go.Proofs.YtjnapechlkbfmaaGreatDoor
