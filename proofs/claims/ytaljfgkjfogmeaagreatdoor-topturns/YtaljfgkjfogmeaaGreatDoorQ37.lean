/-
  Texts of this proof, joined, with few blanks: SvLt.
-/
import Derived.OrdersHeld
import Derived.Test.YtaljfgkjfogmeaaGreatDoorQ34
set_option maxRecDepth 100000
set_option maxHeartbeats 8000000
open Array renaming setIfInBounds_comm->G,getElem?_eq_none->R,any_eq_true'->W,getElem?_eq_some_iff->Y,all_eq_true_iff_forall_mem->f
open Bool renaming true->A,and_eq_true->M,false->N
open Go renaming World->C,Oper->I,yielded->O,Value->V
open Go.Region renaming ready->B,binds->D,Mode->E,wanted->F,noSelect->J,free->L,noSelect_spec->T,free_spec->X
open Option renaming some->K
namespace Go.Proofs.YtaljfgkjfogmeaaGreatDoor
open Go.RowKit
section
section
variable{P:Program}{ops:Array I}{Q:Exit->Act->C->Prop}{md:E}{S:C->Prop}{k:Nat}
def Zz(P:Program)(md:E)(ops:Array I)(Q:Exit->Act->C->Prop)(S:C->Prop)(k:Nat):Nat->Array Bool->Act->C->Prop|0,done,a,w=>B md ops done=[]∧Q .normal a w|n+1,done,a,w=>(B md ops done=[]->Q .normal a w)∧∀i∈B md ops done,wpOp P ops Q i (fun a' w'=>if i=k then wpAny P md ops Q n (done.setIfInBounds i A) a' w' else S w'∧Zz P md ops Q S k n (done.setIfInBounds i A) a' w') a w
theorem Zz.any:∀(n:Nat)(done:Array Bool)(a:Act)(w:C),Zz P md ops Q S k n done a w->wpAny P md ops Q n done a w|0,_,_,_,h=>h|n+1,done,_,_,h=>⟨h.1,fun i hi=>wpOp_mono (fun a' w' h'=>by by_cases e:i=k;(·rw[if_pos e]at h';exact h');·rw[if_neg e]at h';exact Zz.any n _ a' w' h'.2) (h.2 i hi)⟩
def Fy(md:E)(ops:Array I)(k i:Nat):Bool:=match ops[k]?with|K o=>o.after.any fun e=>D md e&&e.on==i|none=>N
def Pu(md:E)(ops:Array I)(done:Array Bool):Prop:=∀j o,ops[j]?=K o->done.getD j A=A->∀e∈o.after,D md e=A->done.getD e.on N=A
def ND(md:E)(ops:Array I)(done:Array Bool):Bool:=(List.range ops.size).all fun j=>!done.getD j A||match ops[j]?with|K o=>o.after.all fun e=>!D md e||done.getD e.on N|none=>A
theorem Wq{done:Array Bool}(h:ND md ops done=A):Pu md ops done:=fun j o ho hd e he hb=>by
 have hlt:j<ops.size:=(Y.1 ho).1;have h1:=List.all_eq_true.1 h j (List.mem_range.2 hlt);rw[hd,ho]at h1;simp only[Bool.not_true,Bool.false_or,f]at h1;have h2:=h1 e he;rw[hb]at h2;simpa using h2
theorem Pu.step{done:Array Bool}(h:Pu md ops done){j:Nat}(hj:j∈B md ops done):Pu md ops (done.setIfInBounds j A):=fun m o hm hd e he hb=>by
 by_cases q:j=m;·subst q;obtain⟨_,o',ho',hall⟩:=mem_ready.1 hj;rw[hm]at ho';cases ho';exact getD_set_true (hall e he hb)
 ·rw[getD_set_ne A q]at hd;exact getD_set_true (h m o hm hd e he hb)
def jQ(md:E)(ops:Array I)(k:Nat):Nat->List Nat->Bool|i,[]=>Fy md ops k i|i,x::xs=>Fy md ops x i&&jQ md ops k x xs
theorem Nt{done:Array Bool}{i:Nat}(h:done.getD i A=N):done.getD i N≠A:=by
 rcases Nat.lt_or_ge i done.size with h'|h';·simp[h']at h⊢;exact h
 ·simp[R h']at h
theorem vX{done:Array Bool}(hc:Pu md ops done):∀(xs:List Nat)(i:Nat),jQ md ops k i xs=A->done.getD i A=N->k∉B md ops done|[],i,hw,h0,hk=>by obtain⟨_,o,ho,hall⟩:=mem_ready.1 hk;rw[jQ,Fy,ho]at hw;obtain⟨e,he,hb⟩:=W.1 hw;simp only[M,beq_iff_eq]at hb;have h1:=hall e he hb.1;rw[hb.2]at h1;exact Nt h0 h1|x::xs,i,hw,h0,hk=>by rw[jQ,M]at hw;refine vX hc xs x hw.2 ?_ hk;cases hx:done.getD x A with|false=>rfl|true=>have hw1:=hw.1;rw[Fy]at hw1;cases ho:ops[x]?with|none=>rw[ho]at hw1;cases hw1|some o=>rw[ho]at hw1;obtain⟨e,he,hb⟩:=W.1 hw1;simp only[M,beq_iff_eq]at hb;have h1:=hc x o ho hx e he hb.1;rw[hb.2]at h1;exact absurd h1 (Nt h0)
theorem AR{i:Nat}{oi:I}{v:V}(hi:ops[i]?=K oi)(hsel:∀(j:Nat)(o:I)cs b,ops[j]?=K o->o.op≠.select cs b)(hQ:∀c a w,Q (.panic c) (a.put oi.dst v) w->Q (.panic c) a w){xs:List Nat}(hw:jQ md ops k i xs=A):∀(n:Nat)(done:Array Bool)(a:Act)(w:C),(∀j oj,ops[j]?=K oj->j≠i->done.getD j A=N->(∀e∈oj.after,D md e=A->e.on≠i)->oi.apart ops oj=A)->Pu md ops done->i∈B md ops done->YieldsIf P ops S oi v a->S w->Zz P md ops Q S k n (done.setIfInBounds i A) (a.put oi.dst v) w->Zz P md ops Q S k (n+1) done a w:=by
 intro n;induction n with|zero=>intro done a w _ hcl hr hy hS H;refine⟨fun h=>absurd hr (by rw[h];simp),fun j hj=>?_⟩;have hjk:j≠k:=fun e=>vX hcl xs i hw (mem_ready.1 hr).1 (e▸hj);by_cases e:j=i;(·subst e;refine hy.wpOp hi hS ?_;rw[if_neg hjk];exact⟨hS,H⟩);·have:=ready_mono hj e;rw[H.1]at this;cases this|succ n ih=>intro done a w hfree hcl hr hy hS H;refine⟨fun h=>absurd hr (by rw[h];simp),fun j hj=>?_⟩;have hjk:j≠k:=fun e=>vX hcl xs i hw (mem_ready.1 hr).1 (e▸hj);by_cases e:j=i;(·subst e;refine hy.wpOp hi hS ?_;rw[if_neg hjk];exact⟨hS,H⟩);·have h1:=H.2 j (ready_mono hj e);obtain⟨hjun,oj,hoj,hall⟩:=mem_ready.1 hj;(have hnot:∀d∈oj.after,D md d=A->d.on≠i:=fun d hd hb hq=>by have h1:=hall d hd hb;have h0:=(mem_ready.1 hr).1;rw[hq]at h1;rcases Nat.lt_or_ge i done.size with h'|h';(·simp[h']at h0 h1;rw[h0]at h1;cases h1);·simp[R h']at h1);rw[show(fun a' w'=>if j=k then wpAny P md ops Q n ((done.setIfInBounds i A).setIfInBounds j A) a' w' else S w'∧Zz P md ops Q S k n ((done.setIfInBounds i A).setIfInBounds j A) a' w')=(fun a' w'=>S w'∧Zz P md ops Q S k n ((done.setIfInBounds i A).setIfInBounds j A) a' w')from funext fun a'=>funext fun w'=>if_neg hjk]at h1;have h2:=wpOp_putIf hoj (hfree j oj hoj e hjun hnot) (fun cs b=>hsel i oi cs b hi) (fun cs b=>hsel j oj cs b hoj) hQ hy h1;refine wpOp_mono (fun a' w' h3=>?_) h2;rw[if_neg hjk];refine⟨h3.2.1,ih (done.setIfInBounds j A) a' w' (fun m om hm hmi hun hno=>?_) (hcl.step hj) (ready_mono hr (Ne.symm e)) h3.1 h3.2.1 ?_⟩;(·refine hfree m om hm hmi ?_ hno;by_cases hq:j=m;(·subst hq;exact hjun);·rw[getD_set_ne A hq]at hun;exact hun);·rw[G _ _ e];exact h3.2.2
theorem WI{i:Nat}{oi:I}{v:V}{n:Nat}{done:Array Bool}{a:Act}{w:C}(hi:ops[i]?=K oi)(hs:J ops=A)(hf:L md ops done i=A)(hr:(B md ops done).contains i=A){xs:List Nat}(hcl:ND md ops done=A)(hw:jQ md ops k i xs=A)(hQ:∀c a w,Q (.panic c) (a.put oi.dst v) w->Q (.panic c) a w)(hS:S w)(hwa:F oi (O ops a.tmps)=A)(hy:∀w,S w->(execOp a.eval oi).run P w=.ok (.value v) w)(h:Zz P md ops Q S k n (done.setIfInBounds i A) (a.put oi.dst v) w):Zz P md ops Q S k (n+1) done a w:=AR hi (T hs) hQ hw n done a w (X hi hf) (Wq hcl) (by
 simpa using hr) (.inl ⟨hwa,hy⟩) hS h
theorem X8(i:Nat)(xs:List Nat)(v:V){oi:I}{n:Nat}{done:Array Bool}{a:Act}{w:C}(hi:ops[i]?=K oi)(hS:S w)(hy:∀w,S w->(execOp a.eval oi).run P w=.ok (.value v) w)(h:Zz P md ops Q S k n (done.setIfInBounds i A) (a.put oi.dst v) w)(hs:J ops=A:=by
 kernel_rfl)(hf:L md ops done i=A:=by
 kernel_rfl)(hr:(B md ops done).contains i=A:=by
 kernel_rfl)(hcl:ND md ops done=A:=by
 kernel_rfl)(hw:jQ md ops k i xs=A:=by
 kernel_rfl)(hQ:∀c a w,Q (.panic c) (a.put oi.dst v) w->Q (.panic c) a w:=by
 exact fun _ _ _ h=>h)(hwa:F oi (O ops a.tmps)=A:=by
 kernel_rfl):Zz P md ops Q S k (n+1) done a w:=WI hi hs hf hr hcl hw hQ hS hwa hy h
theorem Al{oi:I}{v:V}{a:Act}(h:YieldsIf P ops (fun _=>True) oi v a):Yields P ops oi v a:=h.imp (fun⟨hw,hv⟩=>⟨hw,fun w=>hv w trivial⟩) id
theorem LQ{i:Nat}{oi:I}{v:V}(hi:ops[i]?=K oi)(hsel:∀(j:Nat)(o:I)cs b,ops[j]?=K o->o.op≠.select cs b)(hQ:∀c a w,Q (.panic c) (a.put oi.dst v) w->Q (.panic c) a w)(hik:i≠k):∀(n:Nat)(done:Array Bool)(a:Act)(w:C),(∀j oj,ops[j]?=K oj->j≠i->done.getD j A=N->(∀e∈oj.after,D md e=A->e.on≠i)->oi.apart ops oj=A)->i∈B md ops done->YieldsIf P ops (fun _=>True) oi v a->S w->Zz P md ops Q S k n (done.setIfInBounds i A) (a.put oi.dst v) w->Zz P md ops Q S k (n+1) done a w:=by
 intro n;induction n with|zero=>intro done a w _ hr hy hS H;refine⟨fun h=>absurd hr (by rw[h];simp),fun j hj=>?_⟩;by_cases e:j=i;(·subst e;refine hy.wpOp hi trivial ?_;rw[if_neg hik];exact⟨hS,H⟩);·have:=ready_mono hj e;rw[H.1]at this;cases this|succ n ih=>intro done a w hfree hr hy hS H;refine⟨fun h=>absurd hr (by rw[h];simp),fun j hj=>?_⟩;by_cases e:j=i;(·subst e;refine hy.wpOp hi trivial ?_;rw[if_neg hik];exact⟨hS,H⟩);·have h1:=H.2 j (ready_mono hj e);obtain⟨hjun,oj,hoj,hall⟩:=mem_ready.1 hj;(have hnot:∀d∈oj.after,D md d=A->d.on≠i:=fun d hd hb hq=>by have h1:=hall d hd hb;rw[hq]at h1;exact Nt (mem_ready.1 hr).1 h1);(have hfree':∀m om,ops[m]?=K om->m≠i->(done.setIfInBounds j A).getD m A=N->(∀e∈om.after,D md e=A->e.on≠i)->oi.apart ops om=A:=fun m om hm hmi hun hno=>by refine hfree m om hm hmi ?_ hno;by_cases hq:j=m;(·subst hq;exact hjun);·rw[getD_set_ne A hq]at hun;exact hun);have h2:=wpOp_putIf hoj (hfree j oj hoj e hjun hnot) (fun cs b=>hsel i oi cs b hi) (fun cs b=>hsel j oj cs b hoj) hQ hy h1;refine wpOp_mono (fun a' w' h3=>?_) h2;by_cases hjk:j=k;(·have h4:=h3.2;rw[if_pos hjk]at h4⊢;refine wpAny_first hi hsel hQ n (done.setIfInBounds j A) a' w' hfree' (ready_mono hr (Ne.symm e)) (Al h3.1) ?_;rw[G _ _ e];exact h4);·have h4:=h3.2;rw[if_neg hjk]at h4⊢;refine⟨h4.1,ih (done.setIfInBounds j A) a' w' hfree' (ready_mono hr (Ne.symm e)) h3.1 h4.1 ?_⟩;rw[G _ _ e];exact h4.2
theorem Br{i:Nat}{oi:I}{v:V}{n:Nat}{done:Array Bool}{a:Act}{w:C}(hi:ops[i]?=K oi)(hs:J ops=A)(hf:L md ops done i=A)(hr:(B md ops done).contains i=A)(hik:i≠k)(hQ:∀c a w,Q (.panic c) (a.put oi.dst v) w->Q (.panic c) a w)(hS:S w)(hwa:F oi (O ops a.tmps)=A)(hy:∀w,(execOp a.eval oi).run P w=.ok (.value v) w)(h:Zz P md ops Q S k n (done.setIfInBounds i A) (a.put oi.dst v) w):Zz P md ops Q S k (n+1) done a w:=LQ hi (T hs) hQ hik n done a w (X hi hf) (by
 simpa using hr) (.inl ⟨hwa,fun w _=>hy w⟩) hS h
theorem Gf(i:Nat)(v:V){oi:I}{n:Nat}{done:Array Bool}{a:Act}{w:C}(hi:ops[i]?=K oi)(hS:S w)(hy:∀w,(execOp a.eval oi).run P w=.ok (.value v) w)(h:Zz P md ops Q S k n (done.setIfInBounds i A) (a.put oi.dst v) w)(hs:J ops=A:=by
 kernel_rfl)(hf:L md ops done i=A:=by
 kernel_rfl)(hr:(B md ops done).contains i=A:=by
 kernel_rfl)(hik:i≠k:=by
 decide)(hQ:∀c a w,Q (.panic c) (a.put oi.dst v) w->Q (.panic c) a w:=by
 exact fun _ _ _ h=>h)(hwa:F oi (O ops a.tmps)=A:=by
 kernel_rfl):Zz P md ops Q S k (n+1) done a w:=Br hi hs hf hr hik hQ hS hwa hy h
def Za(P:Program)(md:E)(ops:Array I)(Q:Exit->Act->C->Prop)(S:C->Prop)(k n:Nat)(done:Array Bool)(a:Act)(w:C)(rs:List Nat):Prop:=∀i∈rs,wpOp P ops Q i (fun a' w'=>if i=k then wpAny P md ops Q n (done.setIfInBounds i A) a' w' else S w'∧Zz P md ops Q S k n (done.setIfInBounds i A) a' w') a w
theorem Za.nil{n:Nat}{done:Array Bool}{a:Act}{w:C}:Za P md ops Q S k n done a w []:=fun _ h=>by
 cases h
theorem Za.cons{n:Nat}{done:Array Bool}{a:Act}{w:C}{i:Nat}{o:I}{rs:List Nat}(ho:ops[i]?=K o)(hk:i≠k)(h:∀K':Act->C->Prop,(∀a w,S w->Zz P md ops Q S k n (done.setIfInBounds i A) a w->K' a w)->if F o (O ops a.tmps)=A then Oper.wp P o a w K' Q else K' (a.put o.dst undef) w)(hs:Za P md ops Q S k n done a w rs):Za P md ops Q S k n done a w (i::rs):=fun j hj=>by
 rcases List.mem_cons.1 hj with rfl|hj;·refine wpOp_step ho (fun K' hK=>h K' (fun a w hS hW=>hK a w ?_));rw[if_neg hk];exact⟨hS,hW⟩
 ·exact hs j hj
theorem AJ{rs:List Nat}{n:Nat}{done:Array Bool}{a:Act}{w:C}(hr:B md ops done=rs)(hne:rs≠[])(h:Za P md ops Q S k n done a w rs):Zz P md ops Q S k (n+1) done a w:=⟨fun h0=>absurd (hr▸h0) hne,hr▸h⟩
theorem KN(rs:List Nat){n:Nat}{done:Array Bool}{a:Act}{w:C}(h:Za P md ops Q S k n done a w rs)(hr:B md ops done=rs:=by
 kernel_rfl)(hne:rs≠[]:=by
 simp):Zz P md ops Q S k (n+1) done a w:=AJ hr hne h
theorem Uz{n:Nat}{done:Array Bool}{a:Act}{w:C}(hr:B md ops done=[k]){o:I}(ho:ops[k]?=K o)(h:∀K':Act->C->Prop,(∀a w,wpAny P md ops Q n (done.setIfInBounds k A) a w->K' a w)->if F o (O ops a.tmps)=A then Oper.wp P o a w K' Q else K' (a.put o.dst undef) w):Zz P md ops Q S k (n+1) done a w:=by
 refine⟨fun h0=>(by rw[hr]at h0;cases h0),fun i hi=>?_⟩;rw[hr]at hi;obtain rfl:i=k:=by simpa using hi
 refine wpOp_step ho (fun K' hK=>h K' (fun a w hW=>hK a w ?_));rw[if_pos rfl];exact hW
end
end
end Go.Proofs.YtaljfgkjfogmeaaGreatDoor
