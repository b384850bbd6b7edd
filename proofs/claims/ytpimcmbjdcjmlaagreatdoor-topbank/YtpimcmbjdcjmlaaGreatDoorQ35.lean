/-
  Texts of this proof, joined, with few blanks: SvLt, RgF, PutsR.
-/
import Derived.OrdersHeld
import Derived.Test.YtpimcmbjdcjmlaaGreatDoorQ34
set_option maxRecDepth 100000
set_option maxHeartbeats 8000000
open Array renaming getElem?_eq_none->tI,any_eq_true'->tL,getElem?_setIfInBounds_ne->tP,setIfInBounds_comm->tS,all_eq_true_iff_forall_mem->tZ,getElem?_eq_some_iff->sD,getElem?_eq_getElem->sE,size_setIfInBounds->sF
open Bool renaming true->tA,and_eq_true->tC,false->tE,or_eq_true->sN
open Go renaming World->tB,Value->tH,Oper->tJ,yielded->tX,Operand->sJ,undef->sO
open Go.Act renaming put->tV
open Go.Region renaming ready->tD,binds->tG,wanted->tK,Mode->tN,noSelect->tU,free->sA,noSelect_spec->sI,free_spec->sK
open List renaming getD_eq_getElem?_getD->tQ,getElem?_eq_some_iff->tR,getElem?_eq_getElem->tT,mem_range->tW,range->tY,all_eq_true->sB,range'->sC,pairwise_iff_getElem->sG,count_eq_zero->sL,range'_succ->sM
open Nat renaming lt_or_ge->tM
open Option renaming some->tF,none->sH
namespace Go.Proofs.YtpimcmbjdcjmlaaGreatDoor
open Go.RowKit
section
section
variable{P:Program}{ops:Array tJ}{Q:Exit->Act->tB->Prop}{md:tN}{S:tB->Prop}{k:Nat}
def ZC(P:Program)(md:tN)(ops:Array tJ)(Q:Exit->Act->tB->Prop)(S:tB->Prop)(k:Nat):Nat->Array Bool->Act->tB->Prop|0,done,a,w=>tD md ops done=[]∧Q .normal a w|n+1,done,a,w=>(tD md ops done=[]->Q .normal a w)∧∀i∈tD md ops done,wpOp P ops Q i (fun a' w'=>if i=k then wpAny P md ops Q n (done.setIfInBounds i tA) a' w' else S w'∧ZC P md ops Q S k n (done.setIfInBounds i tA) a' w') a w
theorem ZC.any:∀(n:Nat)(done:Array Bool)(a:Act)(w:tB),ZC P md ops Q S k n done a w->wpAny P md ops Q n done a w|0,_,_,_,h=>h|n+1,done,_,_,h=>⟨h.1,fun i d=>wpOp_mono (fun c f b=>by by_cases e:i=k;(·rw[if_pos e]at b;exact b);·rw[if_neg e]at b;exact ZC.any n _ c f b.2) (h.2 i d)⟩
def Gi(md:tN)(ops:Array tJ)(k i:Nat):Bool:=match ops[k]?with|tF o=>o.after.any fun e=>tG md e&&e.on==i|none=>tE
def yO(md:tN)(ops:Array tJ)(done:Array Bool):Prop:=∀j o,ops[j]?=tF o->done.getD j tA=tA->∀e∈o.after,tG md e=tA->done.getD e.on tE=tA
def N8(md:tN)(ops:Array tJ)(done:Array Bool):Bool:=(tY ops.size).all fun j=>!done.getD j tA||match ops[j]?with|tF o=>o.after.all fun e=>!tG md e||done.getD e.on tE|none=>tA
theorem WT{done:Array Bool}(h:N8 md ops done=tA):yO md ops done:=fun j o d g e i f=>by
 have b:j<ops.size:=(sD.1 d).1;have a:=sB.1 h j (tW.2 b);rw[g,d]at a;simp only[Bool.not_true,Bool.false_or,tZ]at a;have c:=a e i;rw[f]at c;simpa using c
theorem yO.step{done:Array Bool}(h:yO md ops done){j:Nat}(hj:j∈tD md ops done):yO md ops (done.setIfInBounds j tA):=fun m o g d e f c=>by
 by_cases q:j=m;·subst q;obtain⟨_,i,b,a⟩:=mem_ready.1 hj;rw[g]at b;cases b;exact getD_set_true (a e f c)
 ·rw[getD_set_ne tA q]at d;exact getD_set_true (h m o g d e f c)
def kG(md:tN)(ops:Array tJ)(k:Nat):Nat->List Nat->Bool|i,[]=>Gi md ops k i|i,x::xs=>Gi md ops x i&&kG md ops k x xs
theorem NU{done:Array Bool}{i:Nat}(h:done.getD i tA=tE):done.getD i tE≠tA:=by
 rcases tM i done.size with a|a;·simp[a]at h⊢;exact h
 ·simp[tI a]at h
theorem Pg{done:Array Bool}(hc:yO md ops done):∀(xs:List Nat)(i:Nat),kG md ops k i xs=tA->done.getD i tA=tE->k∉tD md ops done|[],i,hw,h0,hk=>by obtain⟨_,o,f,d⟩:=mem_ready.1 hk;rw[kG,Gi,f]at hw;obtain⟨e,g,b⟩:=tL.1 hw;simp only[tC,beq_iff_eq]at b;have c:=d e g b.1;rw[b.2]at c;exact NU h0 c|x::xs,i,hw,h0,hk=>by rw[kG,tC]at hw;refine Pg hc xs x hw.2 ?_ hk;cases hx:done.getD x tA with|false=>rfl|true=>have a:=hw.1;rw[Gi]at a;cases f:ops[x]?with|none=>rw[f]at a;cases a|some o=>rw[f]at a;obtain⟨e,g,b⟩:=tL.1 a;simp only[tC,beq_iff_eq]at b;have c:=hc x o f hx e g b.1;rw[b.2]at c;exact absurd c (NU h0)
theorem Sc{i:Nat}{oi:tJ}{v:tH}(hi:ops[i]?=tF oi)(hsel:∀(j:Nat)(o:tJ)cs b,ops[j]?=tF o->o.op≠.select cs b)(hQ:∀c a w,Q (.panic c) (a.put oi.dst v) w->Q (.panic c) a w){xs:List Nat}(hw:kG md ops k i xs=tA):∀(n:Nat)(done:Array Bool)(a:Act)(w:tB),(∀j oj,ops[j]?=tF oj->j≠i->done.getD j tA=tE->(∀e∈oj.after,tG md e=tA->e.on≠i)->oi.apart ops oj=tA)->yO md ops done->i∈tD md ops done->YieldsIf P ops S oi v a->S w->ZC P md ops Q S k n (done.setIfInBounds i tA) (a.put oi.dst v) w->ZC P md ops Q S k (n+1) done a w:=by
 intro n;induction n with|zero=>intro done a w _ l x E y H;refine⟨fun h=>absurd x (by rw[h];simp),fun j t=>?_⟩;have g:j≠k:=fun e=>Pg l xs i hw (mem_ready.1 x).1 (e▸t);by_cases e:j=i;(·subst e;refine E.wpOp hi y ?_;rw[if_neg g];exact⟨y,H⟩);·have:=ready_mono t e;rw[H.1]at this;cases this|succ n ih=>intro done a w f l x E y H;refine⟨fun h=>absurd x (by rw[h];simp),fun j t=>?_⟩;have g:j≠k:=fun e=>Pg l xs i hw (mem_ready.1 x).1 (e▸t);by_cases e:j=i;(·subst e;refine E.wpOp hi y ?_;rw[if_neg g];exact⟨y,H⟩);·have q:=H.2 j (ready_mono t e);obtain⟨r,oj,u,z⟩:=mem_ready.1 t;(have A:∀d∈oj.after,tG md d=tA->d.on≠i:=fun d M L D=>by have q:=z d M L;have J:=(mem_ready.1 x).1;rw[D]at q;rcases tM i done.size with F|F;(·simp[F]at J q;rw[J]at q;cases q);·simp[tI F]at q);rw[show(fun s p=>if j=k then wpAny P md ops Q n ((done.setIfInBounds i tA).setIfInBounds j tA) s p else S p∧ZC P md ops Q S k n ((done.setIfInBounds i tA).setIfInBounds j tA) s p)=(fun s p=>S p∧ZC P md ops Q S k n ((done.setIfInBounds i tA).setIfInBounds j tA) s p)from funext fun s=>funext fun p=>if_neg g]at q;have K:=wpOp_putIf u (f j oj u e r A) (fun cs b=>hsel i oi cs b hi) (fun cs b=>hsel j oj cs b u) hQ E q;refine wpOp_mono (fun s p C=>?_) K;rw[if_neg g];refine⟨C.2.1,ih (done.setIfInBounds j tA) s p (fun m O N G B I=>?_) (l.step t) (ready_mono x (Ne.symm e)) C.1 C.2.1 ?_⟩;(·refine f m O N G ?_ I;by_cases D:j=m;(·subst D;exact r);·rw[getD_set_ne tA D]at B;exact B);·rw[tS _ _ e];exact C.2.2
theorem Ih{i:Nat}{oi:tJ}{v:tH}{n:Nat}{done:Array Bool}{a:Act}{w:tB}(hi:ops[i]?=tF oi)(hs:tU ops=tA)(hf:sA md ops done i=tA)(hr:(tD md ops done).contains i=tA){xs:List Nat}(hcl:N8 md ops done=tA)(hw:kG md ops k i xs=tA)(hQ:∀c a w,Q (.panic c) (a.put oi.dst v) w->Q (.panic c) a w)(hS:S w)(hwa:tK oi (tX ops a.tmps)=tA)(hy:∀w,S w->(execOp a.eval oi).run P w=.ok (.value v) w)(h:ZC P md ops Q S k n (done.setIfInBounds i tA) (a.put oi.dst v) w):ZC P md ops Q S k (n+1) done a w:=Sc hi (sI hs) hQ hw n done a w (sK hi hf) (WT hcl) (by
 simpa using hr) (.inl ⟨hwa,hy⟩) hS h
theorem Ya(i:Nat)(xs:List Nat)(v:tH){oi:tJ}{n:Nat}{done:Array Bool}{a:Act}{w:tB}(hi:ops[i]?=tF oi)(hS:S w)(hy:∀w,S w->(execOp a.eval oi).run P w=.ok (.value v) w)(h:ZC P md ops Q S k n (done.setIfInBounds i tA) (a.put oi.dst v) w)(hs:tU ops=tA:=by
 kernel_rfl)(hf:sA md ops done i=tA:=by
 kernel_rfl)(hr:(tD md ops done).contains i=tA:=by
 kernel_rfl)(hcl:N8 md ops done=tA:=by
 kernel_rfl)(hw:kG md ops k i xs=tA:=by
 kernel_rfl)(hQ:∀c a w,Q (.panic c) (a.put oi.dst v) w->Q (.panic c) a w:=by
 exact fun _ _ _ h=>h)(hwa:tK oi (tX ops a.tmps)=tA:=by
 kernel_rfl):ZC P md ops Q S k (n+1) done a w:=Ih hi hs hf hr hcl hw hQ hS hwa hy h
theorem Aw{oi:tJ}{v:tH}{a:Act}(h:YieldsIf P ops (fun _=>True) oi v a):Yields P ops oi v a:=h.imp (fun⟨hw,hv⟩=>⟨hw,fun w=>hv w trivial⟩) id
theorem Hh{i:Nat}{oi:tJ}{v:tH}(hi:ops[i]?=tF oi)(hsel:∀(j:Nat)(o:tJ)cs b,ops[j]?=tF o->o.op≠.select cs b)(hQ:∀c a w,Q (.panic c) (a.put oi.dst v) w->Q (.panic c) a w)(hik:i≠k):∀(n:Nat)(done:Array Bool)(a:Act)(w:tB),(∀j oj,ops[j]?=tF oj->j≠i->done.getD j tA=tE->(∀e∈oj.after,tG md e=tA->e.on≠i)->oi.apart ops oj=tA)->i∈tD md ops done->YieldsIf P ops (fun _=>True) oi v a->S w->ZC P md ops Q S k n (done.setIfInBounds i tA) (a.put oi.dst v) w->ZC P md ops Q S k (n+1) done a w:=by
 intro n;induction n with|zero=>intro done a w _ r D E H;refine⟨fun h=>absurd r (by rw[h];simp),fun j B=>?_⟩;by_cases e:j=i;(·subst e;refine D.wpOp hi trivial ?_;rw[if_neg hik];exact⟨E,H⟩);·have:=ready_mono B e;rw[H.1]at this;cases this|succ n ih=>intro done a w g r D E H;refine⟨fun h=>absurd r (by rw[h];simp),fun j B=>?_⟩;by_cases e:j=i;(·subst e;refine D.wpOp hi trivial ?_;rw[if_neg hik];exact⟨E,H⟩);·have z:=H.2 j (ready_mono B e);obtain⟨l,oj,q,s⟩:=mem_ready.1 B;(have u:∀d∈oj.after,tG md d=tA->d.on≠i:=fun d M L C=>by have z:=s d M L;rw[C]at z;exact NU (mem_ready.1 r).1 z);(have f:∀m y,ops[m]?=tF y->m≠i->(done.setIfInBounds j tA).getD m tA=tE->(∀e∈y.after,tG md e=tA->e.on≠i)->oi.apart ops y=tA:=fun m y N F x G=>by refine g m y N F ?_ G;by_cases C:j=m;(·subst C;exact l);·rw[getD_set_ne tA C]at x;exact x);have K:=wpOp_putIf q (g j oj q e l u) (fun cs b=>hsel i oi cs b hi) (fun cs b=>hsel j oj cs b q) hQ D z;refine wpOp_mono (fun I J A=>?_) K;by_cases t:j=k;(·have p:=A.2;rw[if_pos t]at p⊢;refine wpAny_first hi hsel hQ n (done.setIfInBounds j tA) I J f (ready_mono r (Ne.symm e)) (Aw A.1) ?_;rw[tS _ _ e];exact p);·have p:=A.2;rw[if_neg t]at p⊢;refine⟨p.1,ih (done.setIfInBounds j tA) I J f (ready_mono r (Ne.symm e)) A.1 p.1 ?_⟩;rw[tS _ _ e];exact p.2
theorem BA{i:Nat}{oi:tJ}{v:tH}{n:Nat}{done:Array Bool}{a:Act}{w:tB}(hi:ops[i]?=tF oi)(hs:tU ops=tA)(hf:sA md ops done i=tA)(hr:(tD md ops done).contains i=tA)(hik:i≠k)(hQ:∀c a w,Q (.panic c) (a.put oi.dst v) w->Q (.panic c) a w)(hS:S w)(hwa:tK oi (tX ops a.tmps)=tA)(hy:∀w,(execOp a.eval oi).run P w=.ok (.value v) w)(h:ZC P md ops Q S k n (done.setIfInBounds i tA) (a.put oi.dst v) w):ZC P md ops Q S k (n+1) done a w:=Hh hi (sI hs) hQ hik n done a w (sK hi hf) (by
 simpa using hr) (.inl ⟨hwa,fun w _=>hy w⟩) hS h
theorem Gj(i:Nat)(v:tH){oi:tJ}{n:Nat}{done:Array Bool}{a:Act}{w:tB}(hi:ops[i]?=tF oi)(hS:S w)(hy:∀w,(execOp a.eval oi).run P w=.ok (.value v) w)(h:ZC P md ops Q S k n (done.setIfInBounds i tA) (a.put oi.dst v) w)(hs:tU ops=tA:=by
 kernel_rfl)(hf:sA md ops done i=tA:=by
 kernel_rfl)(hr:(tD md ops done).contains i=tA:=by
 kernel_rfl)(hik:i≠k:=by
 decide)(hQ:∀c a w,Q (.panic c) (a.put oi.dst v) w->Q (.panic c) a w:=by
 exact fun _ _ _ h=>h)(hwa:tK oi (tX ops a.tmps)=tA:=by
 kernel_rfl):ZC P md ops Q S k (n+1) done a w:=BA hi hs hf hr hik hQ hS hwa hy h
def Za(P:Program)(md:tN)(ops:Array tJ)(Q:Exit->Act->tB->Prop)(S:tB->Prop)(k n:Nat)(done:Array Bool)(a:Act)(w:tB)(rs:List Nat):Prop:=∀i∈rs,wpOp P ops Q i (fun a' w'=>if i=k then wpAny P md ops Q n (done.setIfInBounds i tA) a' w' else S w'∧ZC P md ops Q S k n (done.setIfInBounds i tA) a' w') a w
theorem Za.nil{n:Nat}{done:Array Bool}{a:Act}{w:tB}:Za P md ops Q S k n done a w []:=fun _ h=>by
 cases h
theorem Za.cons{n:Nat}{done:Array Bool}{a:Act}{w:tB}{i:Nat}{o:tJ}{rs:List Nat}(ho:ops[i]?=tF o)(hk:i≠k)(h:∀K':Act->tB->Prop,(∀a w,S w->ZC P md ops Q S k n (done.setIfInBounds i tA) a w->K' a w)->if tK o (tX ops a.tmps)=tA then Oper.wp P o a w K' Q else K' (a.put o.dst sO) w)(hs:Za P md ops Q S k n done a w rs):Za P md ops Q S k n done a w (i::rs):=fun j b=>by
 rcases List.mem_cons.1 b with rfl|b;·refine wpOp_step ho (fun K' c=>h K' (fun a w d e=>c a w ?_));rw[if_neg hk];exact⟨d,e⟩
 ·exact hs j b
theorem AY{rs:List Nat}{n:Nat}{done:Array Bool}{a:Act}{w:tB}(hr:tD md ops done=rs)(hne:rs≠[])(h:Za P md ops Q S k n done a w rs):ZC P md ops Q S k (n+1) done a w:=⟨fun b=>absurd (hr▸b) hne,hr▸h⟩
theorem KI(rs:List Nat){n:Nat}{done:Array Bool}{a:Act}{w:tB}(h:Za P md ops Q S k n done a w rs)(hr:tD md ops done=rs:=by
 kernel_rfl)(hne:rs≠[]:=by
 simp):ZC P md ops Q S k (n+1) done a w:=AY hr hne h
theorem UL{n:Nat}{done:Array Bool}{a:Act}{w:tB}(hr:tD md ops done=[k]){o:tJ}(ho:ops[k]?=tF o)(h:∀K':Act->tB->Prop,(∀a w,wpAny P md ops Q n (done.setIfInBounds k tA) a w->K' a w)->if tK o (tX ops a.tmps)=tA then Oper.wp P o a w K' Q else K' (a.put o.dst sO) w):ZC P md ops Q S k (n+1) done a w:=by
 refine⟨fun b=>(by rw[hr]at b;cases b),fun i c=>?_⟩;rw[hr]at c;obtain rfl:i=k:=by simpa using c
 refine wpOp_step ho (fun K' d=>h K' (fun a w e=>d a w ?_));rw[if_pos rfl];exact e
end
end
section
structure SP where
  p : tH -> tB -> Prop
  st : ∀ v w w', w.grownBy w' sH -> p v w -> p v w'
def SP.any:SP:=⟨fun _ _=>True,fun _ _ _ _ _=>trivial⟩
def SP.eq(c:tH):SP:=⟨fun v _=>v=c,fun _ _ _ _ h=>h⟩
section
variable{P:Program}{Q:Exit->Act->tB->Prop}{l:List tJ}
def kK(f:Nat->tH)(ts:List Nat)(a:Act):Act:=ts.foldl (fun a t=>a.put (tF t) (f t)) a
theorem E5(f:Nat->tH):∀(ts:List Nat)(a:Act),(kK f ts a).tmps.size=a.tmps.size|[],_=>rfl|t::ts,a=>by show(kK f ts (a.put (tF t) (f t))).tmps.size=_;rw[E5 f ts];simp[tV]
theorem PQ(f:Nat->tH):∀(ts:List Nat)(a:Act),(kK f ts a).defers=a.defers|[],_=>rfl|t::ts,a=>by show(kK f ts (a.put (tF t) (f t))).defers=_;rw[PQ f ts];rfl
theorem Lu(f:Nat->tH):∀(ts:List Nat)(a:Act)(t:Nat),t<a.tmps.size->(kK f ts a).tmps[t]?=if t∈ts then tF (f t)else a.tmps[t]?|[],_,_,_=>by simp[kK]|s::ts,a,t,h=>by show(kK f ts (a.put (tF s) (f s))).tmps[t]?=_;rw[Lu f ts _ t (by simpa[tV]using h)];by_cases b:t∈ts;(·rw[if_pos b,if_pos (List.mem_cons_of_mem _ b)]);·rw[if_neg b];by_cases c:t=s;(·subst c;rw[if_pos List.mem_cons_self];simp[tV,h]);·rw[if_neg (by simp[b,c])];simp only[tV];rw[tP (fun e=>c e.symm)]
def GG(P:Program)(o:tJ)(ev:sJ->tH)(w:tB)(R:tH->tB->Prop):Prop:=match(execOp ev o).run P w with|.ok (.value v) w'=>R v w'|.ok (.enter f args) w'=>Calls P f args w' (fun e w''=>∃v,e=.returned v∧R v w'')|_=>False
theorem GG.val{o:tJ}{ev:sJ->tH}{w w':tB}{v:tH}{R:tH->tB->Prop}(h:(execOp ev o).run P w=.ok (.value v) w')(hr:R v w'):GG P o ev w R:=by
 unfold GG;rw[h];exact hr
theorem GG.call{o:tJ}{ev:sJ->tH}{w w':tB}{f:Nat}{args:Array tH}{R:tH->tB->Prop}(h:(execOp ev o).run P w=.ok (.enter f args) w')(hr:Calls P f args w' (fun e w''=>∃v,e=.returned v∧R v w'')):GG P o ev w R:=by
 unfold GG;rw[h];exact hr
theorem GG.wp{o:tJ}{a:Act}{w:tB}{R:tH->tB->Prop}{K:Act->tB->Prop}(h:GG P o a.eval w R)(hk:∀v w',R v w'->K (a.put o.dst v) w'):o.wp P a w K Q:=by
 unfold GG at h;unfold Oper.wp;generalize(execOp a.eval o).run P w=r at h;cases r with|ok n w'=>(cases n with|value v=>exact hk _ _ h|enter f args=>refine Calls.mono h ?_;rintro e c⟨v,rfl,b⟩;exact hk _ _ b|_=>exact h.elim)|halt x w'=>exact h.elim
def iI(P:Program)(l:List tJ)(ts:List Nat)(Fs:List SP)(W0:tB)(a0:Act)(i:Nat)(o:tJ):Prop:=∀(ev:sJ->tH)(w:tB),(∀v,ev (.const v)=v)->(∀g,ev (.global g)=.pointer (tF ⟨g,0,sH⟩))->(∀f,ev (.func f)=.func (.func f) #[] #[])->(∀t,t∉ts->ev (.tmp t)=a0.eval (.tmp t))->(∀j,j<ts.length->Gi .any l.toArray i j=tA->(Fs.getD j SP.any).p (ev (.tmp (ts.getD j 0))) w)->W0.grownBy w sH->(∀g b,o.guard=tF (g,b)->ev (.tmp (ts.getD g 0))=.bool b)∧GG P o ev w (fun v w'=>w.grownBy w' sH∧(Fs.getD i SP.any).p v w')
theorem un{P:Program}{o:tJ}{ev:sJ->tH}{w:tB}{R:tH->tB->Prop}{ts:List Nat}(h:GG P o ev w R)(hg:o.guard=sH:=by
 rfl):(∀g b,o.guard=tF (g,b)->ev (.tmp (ts.getD g 0))=.bool b)∧GG P o ev w R:=⟨fun g b e=>(by
 rw[hg]at e;cases e),h⟩
def TI(P:Program)(l:List tJ)(ts:List Nat)(Fs:List SP)(W0:tB)(a0:Act):Nat->Nat->List tJ->Prop|0,_,_=>True|_+1,_,[]=>True|m+1,i,o::os=>iI P l ts Fs W0 a0 i o∧TI P l ts Fs W0 a0 m (i+1) os
theorem TI.at{ts:List Nat}{Fs:List SP}{W0:tB}{a0:Act}:∀(m i:Nat)(os:List tJ),TI P l ts Fs W0 a0 m i os->∀j o,j<m->os[j]?=tF o->iI P l ts Fs W0 a0 (i+j) o|0,_,_,_,_,_,h,_=>absurd h (Nat.not_lt_zero _)|_+1,_,[],_,_,_,_,h=>by simp at h|m+1,i,o::os,h,0,o',_,e=>by(obtain rfl:o=o':=by simpa using e);exact h.1|m+1,i,o::os,h,j+1,o',hj,e=>by have:=TI.at m (i+1) os h.2 j o' (by omega) (by simpa using e);rwa[show i+(j+1)=i+1+j by omega]
def ND(ops:Array tJ):Nat->Nat->Nat->Bool|0,_,_=>tE|n+1,i,j=>match ops[i]?with|tF o=>o.after.any fun e=>tG .any e&&(e.on==j||ND ops n e.on j)|none=>tE
theorem Rt{ops:Array tJ}{done:Array Bool}(hc:yO .any ops done):∀(n i j:Nat),ND ops n i j=tA->(∀o,ops[i]?=tF o->∀e∈o.after,tG .any e=tA->done.getD e.on tE=tA)->done.getD j tE=tA|0,_,_,h,_=>by cases h|n+1,i,j,h,hi=>by rw[ND]at h;cases ho:ops[i]?with|none=>rw[ho]at h;cases h|some o=>rw[ho]at h;obtain⟨e,m,c⟩:=tL.1 h;simp only[tC,sN,beq_iff_eq]at c;have a:=hi o ho e m c.1;rcases c.2with b|b;(·rw[<-b];exact a);·refine Rt hc n e.on j b fun p k l f d=>hc e.on p k ?_ l f d;(have g:e.on<done.size:=by rcases tM e.on done.size with h|h;(·exact h);·simp[tI h]at a);simpa[g]using a
def S8(l:List tJ)(ts:List Nat)(size:Nat):Bool:=(tY l.length).all (fun i=>match l[i]?with|tF o=>(o.after.all fun e=>!tG .any e||decide (e.on<i))&&(if i<ts.length then(o.dst==tF (ts.getD i 0))&&(match o.guard with|none=>tA|tF (g,_)=>decide (g<i))&&decide (ts.getD i 0<size)else((tY l.length).any fun j=>decide (ts.length<=j)&&Gi .any l.toArray i j)||((tY ts.length).all fun j=>ND l.toArray l.length i j))|none=>tA)&&decide ts.Nodup&&decide (ts.length<=l.length)
structure lB (l : List tJ) (ts : List Nat) (Fs : List SP) (W0 : tB) (a0 : Act) (n : Nat) (done : Array Bool) (a : Act) (w : tB) : Prop where
  size : done.size = l.length
  count : done.toList.count tE = n
  closed : yO .any l.toArray done
  late : ∀ j, ts.length <= j -> done.getD j tE = tE
  good : W0.grownBy w sH
  asize : a.tmps.size = a0.tmps.size
  defers : a.defers = a0.defers
  base : ∀ t, t ∉ ts -> a.tmps[t]? = a0.tmps[t]?
  fact : ∀ j, j < ts.length -> done.getD j tE = tA -> (Fs.getD j SP.any).p (a.eval (.tmp (ts.getD j 0))) w
def Km(n m:Nat):Array Bool:=((tY n).map fun j=>decide (j<m)).toArray
theorem T4:∀n k,k<=n->(Km n k).toList.count tE=n-k|0,k,h=>by simp[Km]|n+1,k,h=>by(have e:(Km (n+1) k).toList=(Km n k).toList++[decide (n<k)]:=by simp[Km,List.range_succ]);rw[e,List.count_append];by_cases a:k<=n;(·rw[T4 n k a];simp[Nat.not_lt.2 a];omega);·(obtain rfl:k=n+1:=by omega);(have:(Km n (n+1)).toList.count tE=0:=by rw[sL];simp only[Km,List.mem_map,tW,decide_eq_false_iff_not,not_exists,not_and,Decidable.not_not];intro x b;omega);rw[this];simp
theorem qT(a:Act)(t:Nat):a.eval (.tmp t)=(a.tmps[t]?).getD sO:=by
 simp[Act.eval]
theorem Hs{done:Array Bool}{i n:Nat}(h:done.getD i tA=tE)(hc:done.toList.count tE=n+1):(done.setIfInBounds i tA).toList.count tE=n:=by
 have a:i<done.size:=by rcases tM i done.size with b|b;(·exact b);·simp[tI b]at h
 have c:done.toList[i]'(by simpa using a)=tE:=by simpa[a]using h
 rw[Array.toList_setIfInBounds,List.count_set (by simpa using a),c,hc];simp
theorem dO:∀{x y:Act},x.tmps=y.tmps->x.defers=y.defers->x=y:=fun{x y}a b=>by
 cases x;cases y;cases a;cases b;rfl
theorem Ht(p:Nat->Bool):∀n,p n=tE->∃k,k<=n∧p k=tE∧∀j,j<k->p j=tA:=fun n=>by
 induction n using Nat.strongRecOn with|ind n ih=>intro h;by_cases b:∃j,j<n∧p j=tE;(·obtain⟨j,a,f⟩:=b;obtain⟨k,g,c,d⟩:=ih j a f;exact⟨k,by omega,c,d⟩);·exact⟨n,Nat.le_refl _,h,fun j a=>by cases e:p j with|true=>rfl|false=>exact absurd ⟨j,a,e⟩ b⟩
theorem bG{ts:List Nat}{Fs:List SP}{W0:tB}{a0:Act}{n:Nat}{done:Array Bool}{a:Act}{w:tB}(S:lB l ts Fs W0 a0 n done a w)(hall:∀j,j<ts.length->done.getD j tE=tA)(hend:∀(f:Nat->tH)(w:tB),W0.grownBy w sH->(∀j,j<ts.length->(Fs.getD j SP.any).p (f (ts.getD j 0)) w)->wpAny P .any l.toArray Q ((Km l.length ts.length).toList.count tE) (Km l.length ts.length) (kK f ts a0) w):wpAny P .any l.toArray Q n done a w:=by
 have i:done=Km l.length ts.length:=by refine Array.ext (by simp[Km,S.size]) fun j g m=>?_;simp only[Km,List.getElem_toArray,List.getElem_map,List.getElem_range];by_cases b:j<ts.length;(·have:=hall j b;simp[g]at this;simp[this,b]);·have:=S.late j (by omega);simp[g]at this;simp[this,b]
 have h:a=kK (fun t=>a.eval (.tmp t)) ts a0:=by refine dO (Array.ext_getElem? fun t=>?_) (by rw[PQ];exact S.defers);rcases tM t a0.tmps.size with c|c;(·rw[Lu _ _ _ _ c];by_cases d:t∈ts;(·rw[if_pos d,qT];(have e:t<a.tmps.size:=by rw[S.asize];exact c);simp[e]);·rw[if_neg d];exact S.base t d);·rw[tI (by rw[S.asize];exact c),tI (by rw[E5];exact c)]
 have k:=S.count;subst i;rw[<-k,h];exact hend _ w S.good fun j b=>S.fact j b (hall j b)
theorem iT{ts:List Nat}{Fs:List SP}{W0:tB}{a0:Act}(hf:S8 l ts a0.tmps.size=tA)(hops:TI P l ts Fs W0 a0 ts.length 0 l)(hend:∀(f:Nat->tH)(w:tB),W0.grownBy w sH->(∀j,j<ts.length->(Fs.getD j SP.any).p (f (ts.getD j 0)) w)->wpAny P .any l.toArray Q ((Km l.length ts.length).toList.count tE) (Km l.length ts.length) (kK f ts a0) w):∀(n:Nat)(done:Array Bool)(a:Act)(w:tB),lB l ts Fs W0 a0 n done a w->wpAny P .any l.toArray Q n done a w:=by
 simp only[S8,tC,decide_eq_true_eq,sB,tW]at hf;obtain⟨⟨s,N⟩,am⟩:=hf;have M:∀(i:Nat)(o:tJ),l[i]?=tF o->∀e∈o.after,tG .any e=tA->e.on<i:=fun i o z e r x=>by have h:=s i (tR.1 z).1;rw[z]at h;simp only[tC,tZ]at h;have h:=h.1 e r;rw[x]at h;simpa using h
 have C:∀(i:Nat)(o:tJ),i<ts.length->l[i]?=tF o->o.dst=tF (ts.getD i 0)∧(∀g b,o.guard=tF (g,b)->g<i)∧ts.getD i 0<a0.tmps.size:=fun i o T z=>by have h:=s i (tR.1 z).1;rw[z]at h;simp only[tC]at h;have h:=h.2;rw[if_pos T]at h;simp only[tC,beq_iff_eq,decide_eq_true_eq]at h;refine⟨h.1.1,fun g b e=>?_,h.2⟩;have R:=h.1.2;rw[e]at R;simpa using R
 intro n;induction n with|zero=>intro done a w S;by_cases c:∀j,j<ts.length->done.getD j tE=tA;(·exact bG S c hend);(·exfalso;refine c fun j u=>?_;have h0:=sL.1 S.count;(have m:j<done.size:=by rw[S.size];omega);cases e:done[j]with|true=>simp[m,e]|false=>exact absurd (by rw[<-e];exact Array.getElem_mem_toList m) h0)|succ n ih=>intro done a w S;by_cases c:∀j,j<ts.length->done.getD j tE=tA;(·exact bG S c hend);·(have ab:∃j,j<ts.length∧done.getD j tE=tE:=by refine Classical.byContradiction fun hc=>c fun j u=>?_;cases e:done.getD j tE with|true=>rfl|false=>exact absurd ⟨j,u,e⟩ hc);obtain⟨j0,al,W⟩:=ab;obtain⟨k,hk,X,I⟩:=Ht (fun j=>done.getD j tE) j0 W;(have E:k<l.length:=by omega);have L:k∈tD .any l.toArray done:=mem_ready.2 ⟨by(have m:k<done.size:=by rw[S.size];exact E);simpa[m]using X,l[k],by simp[E],fun e r x=>I _ (M k l[k] (by simp[E]) e r x)⟩;refine⟨fun h=>(by rw[h]at L;cases L),fun i T=>?_⟩;obtain⟨aa,o,z,y⟩:=mem_ready.1 T;(have B:l[i]?=tF o:=by simpa using z);have Z:i<l.length:=(tR.1 B).1;by_cases d:i<ts.length;(·obtain⟨h1,R,h3⟩:=C i o d B;refine wpOp_step z fun K hK=>?_;have hO:=TI.at ts.length 0 l hops i o d B;rw[Nat.zero_add]at hO;obtain⟨Y,hr⟩:=hO a.eval w (fun _=>rfl) (fun _=>rfl) (fun _=>rfl) (fun t H=>by rw[qT,qT,S.base t H]) (fun j u O=>by refine S.fact j u ?_;rw[Gi,z]at O;obtain⟨e,r,x⟩:=tL.1 O;simp only[tC,beq_iff_eq]at x;rw[<-x.2];exact y e r x.1) S.good;rw[if_pos (by cases hg:o.guard with|none=>simp[tK,hg]|some p=>obtain⟨g,b⟩:=p;have ak:=R g b hg;have G:=Y g b hg;obtain⟨U,A⟩:∃U,l[g]?=tF U:=⟨l[g],by simp⟩;obtain⟨k1,_,k3⟩:=C g U (by omega) A;(have m:ts.getD g 0<a.tmps.size:=by rw[S.asize];exact k3);(have hy:tX l.toArray a.tmps g=tF b:=by generalize ts.getD g 0=q at k1 m G;(have H:a.tmps[q]?=tF (.bool b):=by rw[qT,sE m]at G;rw[sE m,<-G];rfl);simp[tX,A,k1,H]);simp[tK,hg,hy])];refine hr.wp fun v w' G=>hK _ _ (ih _ _ _ ?_);rw[h1];(have J:ts.getD i 0<a.tmps.size:=by rw[S.asize];exact h3);refine⟨by rw[sF];exact S.size,Hs aa S.count,S.closed.step T,fun j u=>?_,Qa S.good G.1,?_,S.defers,fun t H=>?_,fun j u hd=>?_⟩;(·rw[getD_set_ne tE (by omega)];exact S.late j u);(·show(a.tmps.setIfInBounds _ _).size=_;rw[sF];exact S.asize);(·have F:ts.getD i 0≠t:=fun e=>H (by rw[<-e,tQ,tT d];exact List.getElem_mem d);show(a.tmps.setIfInBounds _ _)[t]?=_;rw[tP F];exact S.base t H);·by_cases e:i=j;(·subst e;(have:(a.put (tF (ts.getD i 0)) v).eval (.tmp (ts.getD i 0))=v:=by generalize ts.getD i 0=q at J⊢;rw[qT];simp[tV,J]);rw[this];exact G.2);·have F:ts.getD i 0≠ts.getD j 0:=fun r=>(by rw[tQ,tQ,tT d,tT u]at r;(have r:ts[i]=ts[j]:=by simpa using r);rcases Nat.lt_or_gt_of_ne e with h|h;(·exact absurd r (sG.1 N i j d u h));·exact absurd r.symm (sG.1 N j i u d h));(have:(a.put (tF (ts.getD i 0)) v).eval (.tmp (ts.getD j 0))=a.eval (.tmp (ts.getD j 0)):=by rw[qT,qT];show((a.tmps.setIfInBounds _ _)[ts.getD j 0]?).getD sO=_;rw[tP F]);rw[this];rw[getD_set_ne tE e]at hd;exact(Fs.getD j SP.any).st _ _ _ G.1 (S.fact j u hd));·exfalso;have h:=s i Z;rw[B]at h;simp only[tC]at h;have h:=h.2;rw[if_neg d,sN,List.any_eq_true,sB]at h;rcases h with⟨j,u,x⟩|x;(·simp only[tC,decide_eq_true_eq]at x;have O:=x.2;rw[Gi,z]at O;obtain⟨e,r,D⟩:=tL.1 O;simp only[tC,beq_iff_eq]at D;have:=y e r D.1;rw[D.2,S.late j x.1]at this;cases this);·refine c fun j u=>Rt S.closed _ i j (x j (tW.2 u)) fun U A e r V=>?_;rw[z]at A;cases A;exact y e r V
theorem Fy(n k:Nat){id:Nat}{ts:List Nat}{Fs:List SP}{a0:Act}{w:tB}(hm:P.follows .mixedOrders=tA)(hf:S8 l ts a0.tmps.size=tA)(hn:l.length=n)(hk:ts.length=k)(hops:TI P l ts Fs w a0 ts.length 0 l)(hend:∀(f:Nat->tH)(w':tB),w.grownBy w' sH->(∀j,j<k->(Fs.getD j SP.any).p (f (ts.getD j 0)) w')->wpAny P .any l.toArray Q (n-k) (Km n k) (kK f ts a0) w'):(Code.region id l.toArray tA).wp P Q a0 w:=by
 subst hn hk;have b:ts.length<=l.length:=by simp only[S8,tC,decide_eq_true_eq]at hf;exact hf.2
 have d:(Km l.length ts.length).toList.count tE=l.length-ts.length:=T4 _ _ b;refine wp_region_any hm (iT hf hops (by rw[d];exact hend) _ _ _ _ ⟨by simp,by simp,?_,fun j _=>?_,Qj (Qb _ _),rfl,rfl,fun _ _=>rfl,fun j _ h=>?_⟩);·intro j o g e;(have a:j<l.length:=by simpa using(sD.1 g).1);simp[a]at e
 ·rcases tM j l.length with h|h<;>simp[h]
 ·exfalso;rcases tM j l.length with c|c<;>simp[c]at h
theorem DX(k:Nat){n:Nat}{done:Array Bool}{a:Act}{w:tB}{o:tJ}(ho:l.toArray[k]?=tF o)(h:o.wp P a w (fun a' w'=>wpAny P .any l.toArray Q n (done.setIfInBounds k tA) a' w') Q)(hg:o.guard=sH:=by
 rfl)(hr:tD .any l.toArray done=[k]:=by
 kernel_rfl):wpAny P .any l.toArray Q (n+1) done a w:=by
 refine⟨fun b=>(by rw[hr]at b;cases b),fun i c=>?_⟩;rw[hr]at c;obtain rfl:i=k:=by simpa using c
 refine wpOp_step ho fun K d=>?_;rw[if_pos (by simp[tK,hg])];exact Oper.wp_mono d h
theorem IM{n:Nat}{done:Array Bool}{a:Act}{w:tB}(h:Q .normal a w)(hr:tD .any l.toArray done=[]:=by
 kernel_rfl):wpAny P .any l.toArray Q n done a w:=by
 cases n with|zero=>exact⟨hr,h⟩|succ n=>exact⟨fun _=>h,fun i b=>by rw[hr]at b;cases b⟩
end
end
theorem Oz(f:Nat->tH)(n:Nat):∀(a:Nat)(x:Act),a+n<=x.tmps.size->kK f (sC a n) x={x with tmps:=(x.tmps.toList.take a++((sC a n).map f++x.tmps.toList.drop (a+n))).toArray}:=by
 induction n with|zero=>intro a x _;obtain⟨t,d⟩:=x;simp[kK]|succ n ih=>intro a x h;(have e:kK f (sC a (n+1)) x=kK f (sC (a+1) n) (x.put (tF a) (f a)):=by rw[sM];rfl);(have c:(x.put (tF a) (f a)).tmps.toList=x.tmps.toList.set a (f a):=by simp[tV]);rw[e,ih (a+1) _ (by rw[show(x.put (tF a) (f a)).tmps.size=x.tmps.size by simp[tV]];omega),c,sM];(have b:a<x.tmps.toList.length:=by simp;omega);rw[List.take_set,List.drop_set_of_lt (by omega),List.take_succ_eq_append_getElem b,List.set_append_right _ _ (by simp;omega)];(have:(x.tmps.toList.take a).length=a:=by simp;omega);simp[this,tV,Nat.add_comm,Nat.add_left_comm]
end Go.Proofs.YtpimcmbjdcjmlaaGreatDoor
