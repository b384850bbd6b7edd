/-
  Texts of this proof, joined, with few blanks: SvLt, RgF, PutsR, RgL, RqG.
-/
import Derived.OrdersHeld
import Derived.Test.YtiahomhpaejnhaaGreatDoorQ34
set_option maxRecDepth 100000
set_option maxHeartbeats 8000000
open Array renaming getElem?_eq_none->tH,getElem?_setIfInBounds_ne->tP,any_eq_true'->tS,getElem?_eq_getElem->tV,size_setIfInBounds->tY,all_eq_true_iff_forall_mem->sA,getElem?_eq_some_iff->sD,setIfInBounds_comm->sF,getElem_mem_toList->sS,ext_getElem?->sW,ext->sY
open Bool renaming true->tB,and_eq_true->tC,false->tD,or_eq_true->sI
open Classical renaming byContradiction->sQ
open Decidable renaming decide->tU,not_not->rI
open Go renaming World->tA,Value->tG,Oper->tK,yielded->sE,Operand->sN,undef->rG,wp_region_any->rH
open Go.Act renaming put->sG
open Go.Region renaming ready->tF,wanted->tI,binds->tJ,Mode->sB,noSelect->sH,free->sM,noSelect_spec->sU,free_spec->sX
open Go.World renaming grownBy->tL
open List renaming getD_eq_getElem?_getD->tN,getElem?_eq_some_iff->tQ,getElem?_eq_getElem->tR,range->tW,pairwise_iff_getElem->tX,mem_range->tZ,all_eq_true->sC,getElem_toArray->sJ,count_eq_zero->sK,getElem_range->sL,getElem_map->sO,range'->sP,mem_cons->sR,getElem_mem->rA,any_eq_true->rB,range'_succ->rC,not_mem_nil->rD
open Nat renaming lt_or_ge->tT,zero_add->sV,lt_or_gt_of_ne->sZ,not_lt_zero->rF
open Option renaming some->tE,none->tM
namespace Go.Proofs.YtiahomhpaejnhaaGreatDoor
open Go.RowKit
section
section
variable{P:Program}{ops:Array tK}{Q:Exit->Act->tA->Prop}{md:sB}{S:tA->Prop}{k:Nat}
def ZJ(P:Program)(md:sB)(ops:Array tK)(Q:Exit->Act->tA->Prop)(S:tA->Prop)(k:Nat):Nat->Array Bool->Act->tA->Prop|0,done,a,w=>tF md ops done=[]∧Q .normal a w|n+1,done,a,w=>(tF md ops done=[]->Q .normal a w)∧∀i∈tF md ops done,wpOp P ops Q i (fun a' w'=>if i=k then wpAny P md ops Q n (done.setIfInBounds i tB) a' w' else S w'∧ZJ P md ops Q S k n (done.setIfInBounds i tB) a' w') a w
theorem ZJ.any:∀(n:Nat)(done:Array Bool)(a:Act)(w:tA),ZJ P md ops Q S k n done a w->wpAny P md ops Q n done a w|0,_,_,_,h=>h|n+1,done,_,_,h=>⟨h.1,fun i d=>wpOp_mono (fun c f b=>by by_cases e:i=k;(·rw[if_pos e]at b;exact b);·rw[if_neg e]at b;exact ZJ.any n _ c f b.2) (h.2 i d)⟩
def Kz(md:sB)(ops:Array tK)(k i:Nat):Bool:=match ops[k]?with|tE o=>o.after.any fun e=>tJ md e&&e.on==i|none=>tD
def xD(md:sB)(ops:Array tK)(done:Array Bool):Prop:=∀j o,ops[j]?=tE o->done.getD j tB=tB->∀e∈o.after,tJ md e=tB->done.getD e.on tD=tB
def Dg(md:sB)(ops:Array tK)(done:Array Bool):Bool:=(tW ops.size).all fun j=>!done.getD j tB||match ops[j]?with|tE o=>o.after.all fun e=>!tJ md e||done.getD e.on tD|none=>tB
theorem Oz{done:Array Bool}(h:Dg md ops done=tB):xD md ops done:=fun j o d g e i f=>by
 have b:j<ops.size:=(sD.1 d).1;have a:=sC.1 h j (tZ.2 b);rw[g,d]at a;simp only[Bool.not_true,Bool.false_or,sA]at a;have c:=a e i;rw[f]at c;simpa using c
theorem xD.step{done:Array Bool}(h:xD md ops done){j:Nat}(hj:j∈tF md ops done):xD md ops (done.setIfInBounds j tB):=fun m o g d e f c=>by
 by_cases q:j=m;·subst q;obtain⟨_,i,b,a⟩:=mem_ready.1 hj;rw[g]at b;cases b;exact getD_set_true (a e f c)
 ·rw[getD_set_ne tB q]at d;exact getD_set_true (h m o g d e f c)
def uT(md:sB)(ops:Array tK)(k:Nat):Nat->List Nat->Bool|i,[]=>Kz md ops k i|i,x::xs=>Kz md ops x i&&uT md ops k x xs
theorem M9{done:Array Bool}{i:Nat}(h:done.getD i tB=tD):done.getD i tD≠tB:=by
 rcases tT i done.size with a|a;·simp[a]at h⊢;exact h
 ·simp[tH a]at h
theorem Fh{done:Array Bool}(hc:xD md ops done):∀(xs:List Nat)(i:Nat),uT md ops k i xs=tB->done.getD i tB=tD->k∉tF md ops done|[],i,hw,h0,hk=>by obtain⟨_,o,f,d⟩:=mem_ready.1 hk;rw[uT,Kz,f]at hw;obtain⟨e,g,b⟩:=tS.1 hw;simp only[tC,beq_iff_eq]at b;have c:=d e g b.1;rw[b.2]at c;exact M9 h0 c|x::xs,i,hw,h0,hk=>by rw[uT,tC]at hw;refine Fh hc xs x hw.2 ?_ hk;cases hx:done.getD x tB with|false=>rfl|true=>have a:=hw.1;rw[Kz]at a;cases f:ops[x]?with|none=>rw[f]at a;cases a|some o=>rw[f]at a;obtain⟨e,g,b⟩:=tS.1 a;simp only[tC,beq_iff_eq]at b;have c:=hc x o f hx e g b.1;rw[b.2]at c;exact absurd c (M9 h0)
theorem LP{i:Nat}{oi:tK}{v:tG}(hi:ops[i]?=tE oi)(hsel:∀(j:Nat)(o:tK)cs b,ops[j]?=tE o->o.op≠.select cs b)(hQ:∀c a w,Q (.panic c) (a.put oi.dst v) w->Q (.panic c) a w){xs:List Nat}(hw:uT md ops k i xs=tB):∀(n:Nat)(done:Array Bool)(a:Act)(w:tA),(∀j oj,ops[j]?=tE oj->j≠i->done.getD j tB=tD->(∀e∈oj.after,tJ md e=tB->e.on≠i)->oi.apart ops oj=tB)->xD md ops done->i∈tF md ops done->YieldsIf P ops S oi v a->S w->ZJ P md ops Q S k n (done.setIfInBounds i tB) (a.put oi.dst v) w->ZJ P md ops Q S k (n+1) done a w:=by
 intro n;induction n with|zero=>intro done a w _ l x E y H;refine⟨fun h=>absurd x (by rw[h];simp),fun j t=>?_⟩;have g:j≠k:=fun e=>Fh l xs i hw (mem_ready.1 x).1 (e▸t);by_cases e:j=i;(·subst e;refine E.wpOp hi y ?_;rw[if_neg g];exact⟨y,H⟩);·have:=ready_mono t e;rw[H.1]at this;cases this|succ n ih=>intro done a w f l x E y H;refine⟨fun h=>absurd x (by rw[h];simp),fun j t=>?_⟩;have g:j≠k:=fun e=>Fh l xs i hw (mem_ready.1 x).1 (e▸t);by_cases e:j=i;(·subst e;refine E.wpOp hi y ?_;rw[if_neg g];exact⟨y,H⟩);·have q:=H.2 j (ready_mono t e);obtain⟨r,oj,u,z⟩:=mem_ready.1 t;(have A:∀d∈oj.after,tJ md d=tB->d.on≠i:=fun d M L D=>by have q:=z d M L;have J:=(mem_ready.1 x).1;rw[D]at q;rcases tT i done.size with F|F;(·simp[F]at J q;rw[J]at q;cases q);·simp[tH F]at q);rw[show(fun s p=>if j=k then wpAny P md ops Q n ((done.setIfInBounds i tB).setIfInBounds j tB) s p else S p∧ZJ P md ops Q S k n ((done.setIfInBounds i tB).setIfInBounds j tB) s p)=(fun s p=>S p∧ZJ P md ops Q S k n ((done.setIfInBounds i tB).setIfInBounds j tB) s p)from funext fun s=>funext fun p=>if_neg g]at q;have K:=wpOp_putIf u (f j oj u e r A) (fun cs b=>hsel i oi cs b hi) (fun cs b=>hsel j oj cs b u) hQ E q;refine wpOp_mono (fun s p C=>?_) K;rw[if_neg g];refine⟨C.2.1,ih (done.setIfInBounds j tB) s p (fun m O N G B I=>?_) (l.step t) (ready_mono x (Ne.symm e)) C.1 C.2.1 ?_⟩;(·refine f m O N G ?_ I;by_cases D:j=m;(·subst D;exact r);·rw[getD_set_ne tB D]at B;exact B);·rw[sF _ _ e];exact C.2.2
theorem OS{i:Nat}{oi:tK}{v:tG}{n:Nat}{done:Array Bool}{a:Act}{w:tA}(hi:ops[i]?=tE oi)(hs:sH ops=tB)(hf:sM md ops done i=tB)(hr:(tF md ops done).contains i=tB){xs:List Nat}(hcl:Dg md ops done=tB)(hw:uT md ops k i xs=tB)(hQ:∀c a w,Q (.panic c) (a.put oi.dst v) w->Q (.panic c) a w)(hS:S w)(hwa:tI oi (sE ops a.tmps)=tB)(hy:∀w,S w->(execOp a.eval oi).run P w=.ok (.value v) w)(h:ZJ P md ops Q S k n (done.setIfInBounds i tB) (a.put oi.dst v) w):ZJ P md ops Q S k (n+1) done a w:=LP hi (sU hs) hQ hw n done a w (sX hi hf) (Oz hcl) (by
 simpa using hr) (.inl ⟨hwa,hy⟩) hS h
theorem Yl(i:Nat)(xs:List Nat)(v:tG){oi:tK}{n:Nat}{done:Array Bool}{a:Act}{w:tA}(hi:ops[i]?=tE oi)(hS:S w)(hy:∀w,S w->(execOp a.eval oi).run P w=.ok (.value v) w)(h:ZJ P md ops Q S k n (done.setIfInBounds i tB) (a.put oi.dst v) w)(hs:sH ops=tB:=by
 kernel_rfl)(hf:sM md ops done i=tB:=by
 kernel_rfl)(hr:(tF md ops done).contains i=tB:=by
 kernel_rfl)(hcl:Dg md ops done=tB:=by
 kernel_rfl)(hw:uT md ops k i xs=tB:=by
 kernel_rfl)(hQ:∀c a w,Q (.panic c) (a.put oi.dst v) w->Q (.panic c) a w:=by
 exact fun _ _ _ h=>h)(hwa:tI oi (sE ops a.tmps)=tB:=by
 kernel_rfl):ZJ P md ops Q S k (n+1) done a w:=OS hi hs hf hr hcl hw hQ hS hwa hy h
theorem Ll{oi:tK}{v:tG}{a:Act}(h:YieldsIf P ops (fun _=>True) oi v a):Yields P ops oi v a:=h.imp (fun⟨hw,hv⟩=>⟨hw,fun w=>hv w trivial⟩) id
theorem Is{i:Nat}{oi:tK}{v:tG}(hi:ops[i]?=tE oi)(hsel:∀(j:Nat)(o:tK)cs b,ops[j]?=tE o->o.op≠.select cs b)(hQ:∀c a w,Q (.panic c) (a.put oi.dst v) w->Q (.panic c) a w)(hik:i≠k):∀(n:Nat)(done:Array Bool)(a:Act)(w:tA),(∀j oj,ops[j]?=tE oj->j≠i->done.getD j tB=tD->(∀e∈oj.after,tJ md e=tB->e.on≠i)->oi.apart ops oj=tB)->i∈tF md ops done->YieldsIf P ops (fun _=>True) oi v a->S w->ZJ P md ops Q S k n (done.setIfInBounds i tB) (a.put oi.dst v) w->ZJ P md ops Q S k (n+1) done a w:=by
 intro n;induction n with|zero=>intro done a w _ r D E H;refine⟨fun h=>absurd r (by rw[h];simp),fun j B=>?_⟩;by_cases e:j=i;(·subst e;refine D.wpOp hi trivial ?_;rw[if_neg hik];exact⟨E,H⟩);·have:=ready_mono B e;rw[H.1]at this;cases this|succ n ih=>intro done a w g r D E H;refine⟨fun h=>absurd r (by rw[h];simp),fun j B=>?_⟩;by_cases e:j=i;(·subst e;refine D.wpOp hi trivial ?_;rw[if_neg hik];exact⟨E,H⟩);·have z:=H.2 j (ready_mono B e);obtain⟨l,oj,q,s⟩:=mem_ready.1 B;(have u:∀d∈oj.after,tJ md d=tB->d.on≠i:=fun d M L C=>by have z:=s d M L;rw[C]at z;exact M9 (mem_ready.1 r).1 z);(have f:∀m y,ops[m]?=tE y->m≠i->(done.setIfInBounds j tB).getD m tB=tD->(∀e∈y.after,tJ md e=tB->e.on≠i)->oi.apart ops y=tB:=fun m y N F x G=>by refine g m y N F ?_ G;by_cases C:j=m;(·subst C;exact l);·rw[getD_set_ne tB C]at x;exact x);have K:=wpOp_putIf q (g j oj q e l u) (fun cs b=>hsel i oi cs b hi) (fun cs b=>hsel j oj cs b q) hQ D z;refine wpOp_mono (fun I J A=>?_) K;by_cases t:j=k;(·have p:=A.2;rw[if_pos t]at p⊢;refine wpAny_first hi hsel hQ n (done.setIfInBounds j tB) I J f (ready_mono r (Ne.symm e)) (Ll A.1) ?_;rw[sF _ _ e];exact p);·have p:=A.2;rw[if_neg t]at p⊢;refine⟨p.1,ih (done.setIfInBounds j tB) I J f (ready_mono r (Ne.symm e)) A.1 p.1 ?_⟩;rw[sF _ _ e];exact p.2
theorem Sw{i:Nat}{oi:tK}{v:tG}{n:Nat}{done:Array Bool}{a:Act}{w:tA}(hi:ops[i]?=tE oi)(hs:sH ops=tB)(hf:sM md ops done i=tB)(hr:(tF md ops done).contains i=tB)(hik:i≠k)(hQ:∀c a w,Q (.panic c) (a.put oi.dst v) w->Q (.panic c) a w)(hS:S w)(hwa:tI oi (sE ops a.tmps)=tB)(hy:∀w,(execOp a.eval oi).run P w=.ok (.value v) w)(h:ZJ P md ops Q S k n (done.setIfInBounds i tB) (a.put oi.dst v) w):ZJ P md ops Q S k (n+1) done a w:=Is hi (sU hs) hQ hik n done a w (sX hi hf) (by
 simpa using hr) (.inl ⟨hwa,fun w _=>hy w⟩) hS h
theorem GO(i:Nat)(v:tG){oi:tK}{n:Nat}{done:Array Bool}{a:Act}{w:tA}(hi:ops[i]?=tE oi)(hS:S w)(hy:∀w,(execOp a.eval oi).run P w=.ok (.value v) w)(h:ZJ P md ops Q S k n (done.setIfInBounds i tB) (a.put oi.dst v) w)(hs:sH ops=tB:=by
 kernel_rfl)(hf:sM md ops done i=tB:=by
 kernel_rfl)(hr:(tF md ops done).contains i=tB:=by
 kernel_rfl)(hik:i≠k:=by
 decide)(hQ:∀c a w,Q (.panic c) (a.put oi.dst v) w->Q (.panic c) a w:=by
 exact fun _ _ _ h=>h)(hwa:tI oi (sE ops a.tmps)=tB:=by
 kernel_rfl):ZJ P md ops Q S k (n+1) done a w:=Sw hi hs hf hr hik hQ hS hwa hy h
def Zg(P:Program)(md:sB)(ops:Array tK)(Q:Exit->Act->tA->Prop)(S:tA->Prop)(k n:Nat)(done:Array Bool)(a:Act)(w:tA)(rs:List Nat):Prop:=∀i∈rs,wpOp P ops Q i (fun a' w'=>if i=k then wpAny P md ops Q n (done.setIfInBounds i tB) a' w' else S w'∧ZJ P md ops Q S k n (done.setIfInBounds i tB) a' w') a w
theorem Zg.nil{n:Nat}{done:Array Bool}{a:Act}{w:tA}:Zg P md ops Q S k n done a w []:=fun _ h=>by
 cases h
theorem Zg.cons{n:Nat}{done:Array Bool}{a:Act}{w:tA}{i:Nat}{o:tK}{rs:List Nat}(ho:ops[i]?=tE o)(hk:i≠k)(h:∀K':Act->tA->Prop,(∀a w,S w->ZJ P md ops Q S k n (done.setIfInBounds i tB) a w->K' a w)->if tI o (sE ops a.tmps)=tB then Oper.wp P o a w K' Q else K' (a.put o.dst rG) w)(hs:Zg P md ops Q S k n done a w rs):Zg P md ops Q S k n done a w (i::rs):=fun j b=>by
 rcases sR.1 b with rfl|b;·refine wpOp_step ho (fun K' c=>h K' (fun a w d e=>c a w ?_));rw[if_neg hk];exact⟨d,e⟩
 ·exact hs j b
theorem LJ{rs:List Nat}{n:Nat}{done:Array Bool}{a:Act}{w:tA}(hr:tF md ops done=rs)(hne:rs≠[])(h:Zg P md ops Q S k n done a w rs):ZJ P md ops Q S k (n+1) done a w:=⟨fun b=>absurd (hr▸b) hne,hr▸h⟩
theorem Ud(rs:List Nat){n:Nat}{done:Array Bool}{a:Act}{w:tA}(h:Zg P md ops Q S k n done a w rs)(hr:tF md ops done=rs:=by
 kernel_rfl)(hne:rs≠[]:=by
 simp):ZJ P md ops Q S k (n+1) done a w:=LJ hr hne h
theorem Va{n:Nat}{done:Array Bool}{a:Act}{w:tA}(hr:tF md ops done=[k]){o:tK}(ho:ops[k]?=tE o)(h:∀K':Act->tA->Prop,(∀a w,wpAny P md ops Q n (done.setIfInBounds k tB) a w->K' a w)->if tI o (sE ops a.tmps)=tB then Oper.wp P o a w K' Q else K' (a.put o.dst rG) w):ZJ P md ops Q S k (n+1) done a w:=by
 refine⟨fun b=>(by rw[hr]at b;cases b),fun i c=>?_⟩;rw[hr]at c;obtain rfl:i=k:=by simpa using c
 refine wpOp_step ho (fun K' d=>h K' (fun a w e=>d a w ?_));rw[if_pos rfl];exact e
end
end
section
structure SP where
  p : tG -> tA -> Prop
  st : ∀ v w w', tL w w' tM -> p v w -> p v w'
def SP.any:SP:=⟨fun _ _=>True,fun _ _ _ _ _=>trivial⟩
def SP.eq(c:tG):SP:=⟨fun v _=>v=c,fun _ _ _ _ h=>h⟩
section
variable{P:Program}{Q:Exit->Act->tA->Prop}{l:List tK}
def UY(f:Nat->tG)(ts:List Nat)(a:Act):Act:=ts.foldl (fun a t=>a.put (tE t) (f t)) a
theorem Fr(f:Nat->tG):∀(ts:List Nat)(a:Act),(UY f ts a).tmps.size=a.tmps.size|[],_=>rfl|t::ts,a=>by show(UY f ts (a.put (tE t) (f t))).tmps.size=_;rw[Fr f ts];simp[sG]
theorem yD(f:Nat->tG):∀(ts:List Nat)(a:Act),(UY f ts a).defers=a.defers|[],_=>rfl|t::ts,a=>by show(UY f ts (a.put (tE t) (f t))).defers=_;rw[yD f ts];rfl
theorem DW(f:Nat->tG):∀(ts:List Nat)(a:Act)(t:Nat),t<a.tmps.size->(UY f ts a).tmps[t]?=if t∈ts then tE (f t)else a.tmps[t]?|[],_,_,_=>by simp[UY]|s::ts,a,t,h=>by show(UY f ts (a.put (tE s) (f s))).tmps[t]?=_;rw[DW f ts _ t (by simpa[sG]using h)];by_cases b:t∈ts;(·rw[if_pos b,if_pos (List.mem_cons_of_mem _ b)]);·rw[if_neg b];by_cases c:t=s;(·subst c;rw[if_pos List.mem_cons_self];simp[sG,h]);·rw[if_neg (by simp[b,c])];simp only[sG];rw[tP (fun e=>c e.symm)]
def KZ(P:Program)(o:tK)(ev:sN->tG)(w:tA)(R:tG->tA->Prop):Prop:=match(execOp ev o).run P w with|.ok (.value v) w'=>R v w'|.ok (.enter f args) w'=>Calls P f args w' (fun e w''=>∃v,e=.returned v∧R v w'')|_=>False
theorem KZ.val{o:tK}{ev:sN->tG}{w w':tA}{v:tG}{R:tG->tA->Prop}(h:(execOp ev o).run P w=.ok (.value v) w')(hr:R v w'):KZ P o ev w R:=by
 unfold KZ;rw[h];exact hr
theorem KZ.call{o:tK}{ev:sN->tG}{w w':tA}{f:Nat}{args:Array tG}{R:tG->tA->Prop}(h:(execOp ev o).run P w=.ok (.enter f args) w')(hr:Calls P f args w' (fun e w''=>∃v,e=.returned v∧R v w'')):KZ P o ev w R:=by
 unfold KZ;rw[h];exact hr
theorem KZ.wp{o:tK}{a:Act}{w:tA}{R:tG->tA->Prop}{K:Act->tA->Prop}(h:KZ P o a.eval w R)(hk:∀v w',R v w'->K (a.put o.dst v) w'):o.wp P a w K Q:=by
 unfold KZ at h;unfold Oper.wp;generalize(execOp a.eval o).run P w=r at h;cases r with|ok n w'=>(cases n with|value v=>exact hk _ _ h|enter f args=>refine Calls.mono h ?_;rintro e c⟨v,rfl,b⟩;exact hk _ _ b|_=>exact h.elim)|halt x w'=>exact h.elim
def nG(P:Program)(l:List tK)(ts:List Nat)(Fs:List SP)(W0:tA)(a0:Act)(i:Nat)(o:tK):Prop:=∀(ev:sN->tG)(w:tA),(∀v,ev (.const v)=v)->(∀g,ev (.global g)=.pointer (tE ⟨g,0,tM⟩))->(∀f,ev (.func f)=.func (.func f) #[] #[])->(∀t,t∉ts->ev (.tmp t)=a0.eval (.tmp t))->(∀j,j<ts.length->Kz .any l.toArray i j=tB->(Fs.getD j SP.any).p (ev (.tmp (ts.getD j 0))) w)->tL W0 w tM->(∀g b,o.guard=tE (g,b)->ev (.tmp (ts.getD g 0))=.bool b)∧KZ P o ev w (fun v w'=>tL w w' tM∧(Fs.getD i SP.any).p v w')
theorem un{P:Program}{o:tK}{ev:sN->tG}{w:tA}{R:tG->tA->Prop}{ts:List Nat}(h:KZ P o ev w R)(hg:o.guard=tM:=by
 rfl):(∀g b,o.guard=tE (g,b)->ev (.tmp (ts.getD g 0))=.bool b)∧KZ P o ev w R:=⟨fun g b e=>(by
 rw[hg]at e;cases e),h⟩
def R7(P:Program)(l:List tK)(ts:List Nat)(Fs:List SP)(W0:tA)(a0:Act):Nat->Nat->List tK->Prop|0,_,_=>True|_+1,_,[]=>True|m+1,i,o::os=>nG P l ts Fs W0 a0 i o∧R7 P l ts Fs W0 a0 m (i+1) os
theorem R7.at{ts:List Nat}{Fs:List SP}{W0:tA}{a0:Act}:∀(m i:Nat)(os:List tK),R7 P l ts Fs W0 a0 m i os->∀j o,j<m->os[j]?=tE o->nG P l ts Fs W0 a0 (i+j) o|0,_,_,_,_,_,h,_=>absurd h (rF _)|_+1,_,[],_,_,_,_,h=>by simp at h|m+1,i,o::os,h,0,o',_,e=>by(obtain rfl:o=o':=by simpa using e);exact h.1|m+1,i,o::os,h,j+1,o',hj,e=>by have:=R7.at m (i+1) os h.2 j o' (by omega) (by simpa using e);rwa[show i+(j+1)=i+1+j by omega]
def TW(ops:Array tK):Nat->Nat->Nat->Bool|0,_,_=>tD|n+1,i,j=>match ops[i]?with|tE o=>o.after.any fun e=>tJ .any e&&(e.on==j||TW ops n e.on j)|none=>tD
theorem vI{ops:Array tK}{done:Array Bool}(hc:xD .any ops done):∀(n i j:Nat),TW ops n i j=tB->(∀o,ops[i]?=tE o->∀e∈o.after,tJ .any e=tB->done.getD e.on tD=tB)->done.getD j tD=tB|0,_,_,h,_=>by cases h|n+1,i,j,h,hi=>by rw[TW]at h;cases ho:ops[i]?with|none=>rw[ho]at h;cases h|some o=>rw[ho]at h;obtain⟨e,m,c⟩:=tS.1 h;simp only[tC,sI,beq_iff_eq]at c;have a:=hi o ho e m c.1;rcases c.2with b|b;(·rw[<-b];exact a);·refine vI hc n e.on j b fun p k l f d=>hc e.on p k ?_ l f d;(have g:e.on<done.size:=by rcases tT e.on done.size with h|h;(·exact h);·simp[tH h]at a);simpa[g]using a
def Hw(l:List tK)(ts:List Nat)(size:Nat):Bool:=(tW l.length).all (fun i=>match l[i]?with|tE o=>(o.after.all fun e=>!tJ .any e||tU (e.on<i))&&(if i<ts.length then(o.dst==tE (ts.getD i 0))&&(match o.guard with|none=>tB|tE (g,_)=>tU (g<i))&&tU (ts.getD i 0<size)else((tW l.length).any fun j=>tU (ts.length<=j)&&Kz .any l.toArray i j)||((tW ts.length).all fun j=>TW l.toArray l.length i j))|none=>tB)&&tU ts.Nodup&&tU (ts.length<=l.length)
structure oM (l : List tK) (ts : List Nat) (Fs : List SP) (W0 : tA) (a0 : Act) (n : Nat) (done : Array Bool) (a : Act) (w : tA) : Prop where
  size : done.size = l.length
  count : done.toList.count tD = n
  closed : xD .any l.toArray done
  late : ∀ j, ts.length <= j -> done.getD j tD = tD
  good : tL W0 w tM
  asize : a.tmps.size = a0.tmps.size
  defers : a.defers = a0.defers
  base : ∀ t, t ∉ ts -> a.tmps[t]? = a0.tmps[t]?
  fact : ∀ j, j < ts.length -> done.getD j tD = tB -> (Fs.getD j SP.any).p (a.eval (.tmp (ts.getD j 0))) w
def Yi(n m:Nat):Array Bool:=((tW n).map fun j=>tU (j<m)).toArray
theorem vC:∀n k,k<=n->(Yi n k).toList.count tD=n-k|0,k,h=>by simp[Yi]|n+1,k,h=>by(have e:(Yi (n+1) k).toList=(Yi n k).toList++[tU (n<k)]:=by simp[Yi,List.range_succ]);rw[e,List.count_append];by_cases a:k<=n;(·rw[vC n k a];simp[Nat.not_lt.2 a];omega);·(obtain rfl:k=n+1:=by omega);(have:(Yi n (n+1)).toList.count tD=0:=by rw[sK];simp only[Yi,List.mem_map,tZ,decide_eq_false_iff_not,not_exists,not_and,rI];intro x b;omega);rw[this];simp
theorem J5(a:Act)(t:Nat):a.eval (.tmp t)=(a.tmps[t]?).getD rG:=by
 simp[Act.eval]
theorem Mb{done:Array Bool}{i n:Nat}(h:done.getD i tB=tD)(hc:done.toList.count tD=n+1):(done.setIfInBounds i tB).toList.count tD=n:=by
 have a:i<done.size:=by rcases tT i done.size with b|b;(·exact b);·simp[tH b]at h
 have c:done.toList[i]'(by simpa using a)=tD:=by simpa[a]using h
 rw[Array.toList_setIfInBounds,List.count_set (by simpa using a),c,hc];simp
theorem Wi:∀{x y:Act},x.tmps=y.tmps->x.defers=y.defers->x=y:=fun{x y}a b=>by
 cases x;cases y;cases a;cases b;rfl
theorem Mc(p:Nat->Bool):∀n,p n=tD->∃k,k<=n∧p k=tD∧∀j,j<k->p j=tB:=fun n=>by
 induction n using Nat.strongRecOn with|ind n ih=>intro h;by_cases b:∃j,j<n∧p j=tD;(·obtain⟨j,a,f⟩:=b;obtain⟨k,g,c,d⟩:=ih j a f;exact⟨k,by omega,c,d⟩);·exact⟨n,Nat.le_refl _,h,fun j a=>by cases e:p j with|true=>rfl|false=>exact absurd ⟨j,a,e⟩ b⟩
theorem eS{ts:List Nat}{Fs:List SP}{W0:tA}{a0:Act}{n:Nat}{done:Array Bool}{a:Act}{w:tA}(S:oM l ts Fs W0 a0 n done a w)(hall:∀j,j<ts.length->done.getD j tD=tB)(hend:∀(f:Nat->tG)(w:tA),tL W0 w tM->(∀j,j<ts.length->(Fs.getD j SP.any).p (f (ts.getD j 0)) w)->wpAny P .any l.toArray Q ((Yi l.length ts.length).toList.count tD) (Yi l.length ts.length) (UY f ts a0) w):wpAny P .any l.toArray Q n done a w:=by
 have i:done=Yi l.length ts.length:=by refine sY (by simp[Yi,S.size]) fun j g m=>?_;simp only[Yi,sJ,sO,sL];by_cases b:j<ts.length;(·have:=hall j b;simp[g]at this;simp[this,b]);·have:=S.late j (by omega);simp[g]at this;simp[this,b]
 have h:a=UY (fun t=>a.eval (.tmp t)) ts a0:=by refine Wi (sW fun t=>?_) (by rw[yD];exact S.defers);rcases tT t a0.tmps.size with c|c;(·rw[DW _ _ _ _ c];by_cases d:t∈ts;(·rw[if_pos d,J5];(have e:t<a.tmps.size:=by rw[S.asize];exact c);simp[e]);·rw[if_neg d];exact S.base t d);·rw[tH (by rw[S.asize];exact c),tH (by rw[Fr];exact c)]
 have k:=S.count;subst i;rw[<-k,h];exact hend _ w S.good fun j b=>S.fact j b (hall j b)
theorem nT{ts:List Nat}{Fs:List SP}{W0:tA}{a0:Act}(hf:Hw l ts a0.tmps.size=tB)(hops:R7 P l ts Fs W0 a0 ts.length 0 l)(hend:∀(f:Nat->tG)(w:tA),tL W0 w tM->(∀j,j<ts.length->(Fs.getD j SP.any).p (f (ts.getD j 0)) w)->wpAny P .any l.toArray Q ((Yi l.length ts.length).toList.count tD) (Yi l.length ts.length) (UY f ts a0) w):∀(n:Nat)(done:Array Bool)(a:Act)(w:tA),oM l ts Fs W0 a0 n done a w->wpAny P .any l.toArray Q n done a w:=by
 simp only[Hw,tC,decide_eq_true_eq,sC,tZ]at hf;obtain⟨⟨s,N⟩,am⟩:=hf;have M:∀(i:Nat)(o:tK),l[i]?=tE o->∀e∈o.after,tJ .any e=tB->e.on<i:=fun i o z e r x=>by have h:=s i (tQ.1 z).1;rw[z]at h;simp only[tC,sA]at h;have h:=h.1 e r;rw[x]at h;simpa using h
 have C:∀(i:Nat)(o:tK),i<ts.length->l[i]?=tE o->o.dst=tE (ts.getD i 0)∧(∀g b,o.guard=tE (g,b)->g<i)∧ts.getD i 0<a0.tmps.size:=fun i o T z=>by have h:=s i (tQ.1 z).1;rw[z]at h;simp only[tC]at h;have h:=h.2;rw[if_pos T]at h;simp only[tC,beq_iff_eq,decide_eq_true_eq]at h;refine⟨h.1.1,fun g b e=>?_,h.2⟩;have R:=h.1.2;rw[e]at R;simpa using R
 intro n;induction n with|zero=>intro done a w S;by_cases c:∀j,j<ts.length->done.getD j tD=tB;(·exact eS S c hend);(·exfalso;refine c fun j u=>?_;have h0:=sK.1 S.count;(have m:j<done.size:=by rw[S.size];omega);cases e:done[j]with|true=>simp[m,e]|false=>exact absurd (by rw[<-e];exact sS m) h0)|succ n ih=>intro done a w S;by_cases c:∀j,j<ts.length->done.getD j tD=tB;(·exact eS S c hend);·(have ab:∃j,j<ts.length∧done.getD j tD=tD:=by refine sQ fun hc=>c fun j u=>?_;cases e:done.getD j tD with|true=>rfl|false=>exact absurd ⟨j,u,e⟩ hc);obtain⟨j0,al,W⟩:=ab;obtain⟨k,hk,X,I⟩:=Mc (fun j=>done.getD j tD) j0 W;(have E:k<l.length:=by omega);have L:k∈tF .any l.toArray done:=mem_ready.2 ⟨by(have m:k<done.size:=by rw[S.size];exact E);simpa[m]using X,l[k],by simp[E],fun e r x=>I _ (M k l[k] (by simp[E]) e r x)⟩;refine⟨fun h=>(by rw[h]at L;cases L),fun i T=>?_⟩;obtain⟨aa,o,z,y⟩:=mem_ready.1 T;(have B:l[i]?=tE o:=by simpa using z);have Z:i<l.length:=(tQ.1 B).1;by_cases d:i<ts.length;(·obtain⟨h1,R,h3⟩:=C i o d B;refine wpOp_step z fun K hK=>?_;have hO:=R7.at ts.length 0 l hops i o d B;rw[sV]at hO;obtain⟨Y,hr⟩:=hO a.eval w (fun _=>rfl) (fun _=>rfl) (fun _=>rfl) (fun t H=>by rw[J5,J5,S.base t H]) (fun j u O=>by refine S.fact j u ?_;rw[Kz,z]at O;obtain⟨e,r,x⟩:=tS.1 O;simp only[tC,beq_iff_eq]at x;rw[<-x.2];exact y e r x.1) S.good;rw[if_pos (by cases hg:o.guard with|none=>simp[tI,hg]|some p=>obtain⟨g,b⟩:=p;have ak:=R g b hg;have G:=Y g b hg;obtain⟨U,A⟩:∃U,l[g]?=tE U:=⟨l[g],by simp⟩;obtain⟨k1,_,k3⟩:=C g U (by omega) A;(have m:ts.getD g 0<a.tmps.size:=by rw[S.asize];exact k3);(have hy:sE l.toArray a.tmps g=tE b:=by generalize ts.getD g 0=q at k1 m G;(have H:a.tmps[q]?=tE (.bool b):=by rw[J5,tV m]at G;rw[tV m,<-G];rfl);simp[sE,A,k1,H]);simp[tI,hg,hy])];refine hr.wp fun v w' G=>hK _ _ (ih _ _ _ ?_);rw[h1];(have J:ts.getD i 0<a.tmps.size:=by rw[S.asize];exact h3);refine⟨by rw[tY];exact S.size,Mb aa S.count,S.closed.step T,fun j u=>?_,Qa S.good G.1,?_,S.defers,fun t H=>?_,fun j u hd=>?_⟩;(·rw[getD_set_ne tD (by omega)];exact S.late j u);(·show(a.tmps.setIfInBounds _ _).size=_;rw[tY];exact S.asize);(·have F:ts.getD i 0≠t:=fun e=>H (by rw[<-e,tN,tR d];exact rA d);show(a.tmps.setIfInBounds _ _)[t]?=_;rw[tP F];exact S.base t H);·by_cases e:i=j;(·subst e;(have:(a.put (tE (ts.getD i 0)) v).eval (.tmp (ts.getD i 0))=v:=by generalize ts.getD i 0=q at J⊢;rw[J5];simp[sG,J]);rw[this];exact G.2);·have F:ts.getD i 0≠ts.getD j 0:=fun r=>(by rw[tN,tN,tR d,tR u]at r;(have r:ts[i]=ts[j]:=by simpa using r);rcases sZ e with h|h;(·exact absurd r (tX.1 N i j d u h));·exact absurd r.symm (tX.1 N j i u d h));(have:(a.put (tE (ts.getD i 0)) v).eval (.tmp (ts.getD j 0))=a.eval (.tmp (ts.getD j 0)):=by rw[J5,J5];show((a.tmps.setIfInBounds _ _)[ts.getD j 0]?).getD rG=_;rw[tP F]);rw[this];rw[getD_set_ne tD e]at hd;exact(Fs.getD j SP.any).st _ _ _ G.1 (S.fact j u hd));·exfalso;have h:=s i Z;rw[B]at h;simp only[tC]at h;have h:=h.2;rw[if_neg d,sI,rB,sC]at h;rcases h with⟨j,u,x⟩|x;(·simp only[tC,decide_eq_true_eq]at x;have O:=x.2;rw[Kz,z]at O;obtain⟨e,r,D⟩:=tS.1 O;simp only[tC,beq_iff_eq]at D;have:=y e r D.1;rw[D.2,S.late j x.1]at this;cases this);·refine c fun j u=>vI S.closed _ i j (x j (tZ.2 u)) fun U A e r V=>?_;rw[z]at A;cases A;exact y e r V
theorem xV(n k:Nat){id:Nat}{ts:List Nat}{Fs:List SP}{a0:Act}{w:tA}(hm:P.follows .mixedOrders=tB)(hf:Hw l ts a0.tmps.size=tB)(hn:l.length=n)(hk:ts.length=k)(hops:R7 P l ts Fs w a0 ts.length 0 l)(hend:∀(f:Nat->tG)(w':tA),tL w w' tM->(∀j,j<k->(Fs.getD j SP.any).p (f (ts.getD j 0)) w')->wpAny P .any l.toArray Q (n-k) (Yi n k) (UY f ts a0) w'):(Code.region id l.toArray tB).wp P Q a0 w:=by
 subst hn hk;have b:ts.length<=l.length:=by simp only[Hw,tC,decide_eq_true_eq]at hf;exact hf.2
 have d:(Yi l.length ts.length).toList.count tD=l.length-ts.length:=vC _ _ b;refine rH hm (nT hf hops (by rw[d];exact hend) _ _ _ _ ⟨by simp,by simp,?_,fun j _=>?_,Ql (Qb _ _),rfl,rfl,fun _ _=>rfl,fun j _ h=>?_⟩);·intro j o g e;(have a:j<l.length:=by simpa using(sD.1 g).1);simp[a]at e
 ·rcases tT j l.length with h|h<;>simp[h]
 ·exfalso;rcases tT j l.length with c|c<;>simp[c]at h
theorem VE(k:Nat){n:Nat}{done:Array Bool}{a:Act}{w:tA}{o:tK}(ho:l.toArray[k]?=tE o)(h:o.wp P a w (fun a' w'=>wpAny P .any l.toArray Q n (done.setIfInBounds k tB) a' w') Q)(hg:o.guard=tM:=by
 rfl)(hr:tF .any l.toArray done=[k]:=by
 kernel_rfl):wpAny P .any l.toArray Q (n+1) done a w:=by
 refine⟨fun b=>(by rw[hr]at b;cases b),fun i c=>?_⟩;rw[hr]at c;obtain rfl:i=k:=by simpa using c
 refine wpOp_step ho fun K d=>?_;rw[if_pos (by simp[tI,hg])];exact Oper.wp_mono d h
theorem yF{n:Nat}{done:Array Bool}{a:Act}{w:tA}(h:Q .normal a w)(hr:tF .any l.toArray done=[]:=by
 kernel_rfl):wpAny P .any l.toArray Q n done a w:=by
 cases n with|zero=>exact⟨hr,h⟩|succ n=>exact⟨fun _=>h,fun i b=>by rw[hr]at b;cases b⟩
end
end
theorem Pq(f:Nat->tG)(n:Nat):∀(a:Nat)(x:Act),a+n<=x.tmps.size->UY f (sP a n) x={x with tmps:=(x.tmps.toList.take a++((sP a n).map f++x.tmps.toList.drop (a+n))).toArray}:=by
 induction n with|zero=>intro a x _;obtain⟨t,d⟩:=x;simp[UY]|succ n ih=>intro a x h;(have e:UY f (sP a (n+1)) x=UY f (sP (a+1) n) (x.put (tE a) (f a)):=by rw[rC];rfl);(have c:(x.put (tE a) (f a)).tmps.toList=x.tmps.toList.set a (f a):=by simp[sG]);rw[e,ih (a+1) _ (by rw[show(x.put (tE a) (f a)).tmps.size=x.tmps.size by simp[sG]];omega),c,rC];(have b:a<x.tmps.toList.length:=by simp;omega);rw[List.take_set,List.drop_set_of_lt (by omega),List.take_succ_eq_append_getElem b,List.set_append_right _ _ (by simp;omega)];(have:(x.tmps.toList.take a).length=a:=by simp;omega);simp[this,sG,Nat.add_comm,Nat.add_left_comm]
section
section
variable{P:Program}{Q:Exit->Act->tA->Prop}{l:List tK}{lin:Nat->Option Nat}
def oL(P:Program)(o:tK)(a:Act)(w:tA)(R:tG->tA->Prop):Prop:=∀(K:Act->tA->Prop)(Q:Exit->Act->tA->Prop),(∀v w',R v w'->K (a.put o.dst v) w')->o.wp P a w K Q
def oH(P:Program)(l:List tK)(ts:List Nat)(Fs:List SP)(lin:Nat->Option Nat)(W0:tA)(a0:Act)(i:Nat)(o:tK):Prop:=∀(a:Act)(w:tA),(∀t,t∉ts->a.eval (.tmp t)=a0.eval (.tmp t))->(∀j,j<ts.length->Kz .any l.toArray i j=tB->(lin j=tM∨lin j=tE i)->(Fs.getD j SP.any).p (a.eval (.tmp (ts.getD j 0))) w)->tL W0 w tM->(∀g b,o.guard=tE (g,b)->a.eval (.tmp (ts.getD g 0))=.bool b)∧oL P o a w (fun v w'=>tL W0 w' tM∧(Fs.getD i SP.any).p v w'∧∀j,j<ts.length->j≠i->lin j≠tE i->∀u,(Fs.getD j SP.any).p u w->(Fs.getD j SP.any).p u w')
theorem oH.ev{ts:List Nat}{Fs:List SP}{W0:tA}{a0:Act}{i:Nat}{o:tK}(h:∀(ev:sN->tG)(w:tA),(∀v,ev (.const v)=v)->(∀g,ev (.global g)=.pointer (tE ⟨g,0,tM⟩))->(∀f,ev (.func f)=.func (.func f) #[] #[])->(∀t,t∉ts->ev (.tmp t)=a0.eval (.tmp t))->(∀j,j<ts.length->Kz .any l.toArray i j=tB->(lin j=tM∨lin j=tE i)->(Fs.getD j SP.any).p (ev (.tmp (ts.getD j 0))) w)->tL W0 w tM->(∀g b,o.guard=tE (g,b)->ev (.tmp (ts.getD g 0))=.bool b)∧KZ P o ev w (fun v w'=>tL w w' tM∧(Fs.getD i SP.any).p v w')):oH P l ts Fs lin W0 a0 i o:=fun a w n q d=>by
 obtain⟨e,k⟩:=h a.eval w (fun _=>rfl) (fun _=>rfl) (fun _=>rfl) n q d;exact⟨e,fun K Q m=>k.wp fun v w' c=>m v w' ⟨Qa d c.1,c.2,fun j _ _ _ u r=>(Fs.getD j SP.any).st u w w' c.1 r⟩⟩
def Lg(P:Program)(l:List tK)(ts:List Nat)(Fs:List SP)(lin:Nat->Option Nat)(W0:tA)(a0:Act):Nat->Nat->List tK->Prop|0,_,_=>True|_+1,_,[]=>True|m+1,i,o::os=>oH P l ts Fs lin W0 a0 i o∧Lg P l ts Fs lin W0 a0 m (i+1) os
theorem Lg.at{ts:List Nat}{Fs:List SP}{W0:tA}{a0:Act}:∀(m i:Nat)(os:List tK),Lg P l ts Fs lin W0 a0 m i os->∀j o,j<m->os[j]?=tE o->oH P l ts Fs lin W0 a0 (i+j) o|0,_,_,_,_,_,h,_=>absurd h (rF _)|_+1,_,[],_,_,_,_,h=>by simp at h|m+1,i,o::os,h,0,o',_,e=>by(obtain rfl:o=o':=by simpa using e);exact h.1|m+1,i,o::os,h,j+1,o',hj,e=>by have:=Lg.at m (i+1) os h.2 j o' (by omega) (by simpa using e);rwa[show i+(j+1)=i+1+j by omega]
structure oG (l : List tK) (ts : List Nat) (Fs : List SP) (lin : Nat -> Option Nat) (W0 : tA) (a0 : Act) (n : Nat) (done : Array Bool) (a : Act) (w : tA) : Prop where
  size : done.size = l.length
  count : done.toList.count tD = n
  closed : xD .any l.toArray done
  late : ∀ j, ts.length <= j -> done.getD j tD = tD
  good : tL W0 w tM
  asize : a.tmps.size = a0.tmps.size
  defers : a.defers = a0.defers
  base : ∀ t, t ∉ ts -> a.tmps[t]? = a0.tmps[t]?
  fact : ∀ j, j < ts.length -> done.getD j tD = tB -> (∀ c, lin j = tE c -> done.getD c tD = tD) -> (Fs.getD j SP.any).p (a.eval (.tmp (ts.getD j 0))) w
def Pn(n m x:Nat):Array Bool:=((tW n).map fun j=>tU (j<m)&&!tU (j=x)).toArray
def Hy(l:List tK)(ts:List Nat)(size x:Nat):Bool:=(tW l.length).all (fun i=>match l[i]?with|tE o=>(o.after.all fun e=>!tJ .any e||tU (e.on<i))&&(if i<ts.length then(o.dst==tE (ts.getD i 0))&&(match o.guard with|none=>tB|tE (g,_)=>tU (g<i))&&tU (ts.getD i 0<size)else((tW l.length).any fun j=>tU (ts.length<=j)&&Kz .any l.toArray i j)||((tW ts.length).all fun j=>tU (j=x)||TW l.toArray l.length i j))|none=>tB)&&tU ts.Nodup&&tU (ts.length<=l.length)
theorem bL{ts:List Nat}{Fs:List SP}{W0:tA}{a0:Act}{n:Nat}{done:Array Bool}{a:Act}{w:tA}(S:oG l ts Fs lin W0 a0 n done a w):a=UY (fun t=>a.eval (.tmp t)) ts a0:=by
 refine Wi (sW fun t=>?_) (by rw[yD];exact S.defers);rcases tT t a0.tmps.size with b|b;·rw[DW _ _ _ _ b];by_cases c:t∈ts;(·rw[if_pos c,J5];(have d:t<a.tmps.size:=by rw[S.asize];exact b);simp[d]);·rw[if_neg c];exact S.base t c
 ·rw[tH (by rw[S.asize];exact b),tH (by rw[Fr];exact b)]
theorem fT{x:Nat}{ts:List Nat}{Fs:List SP}{W0:tA}{a0:Act}{n:Nat}{done:Array Bool}{a:Act}{w:tA}(S:oG l ts Fs lin W0 a0 n done a w)(hall:∀j,j<ts.length->j≠x->done.getD j tD=tB)(hx:done.getD x tD=tD)(hend:∀(f:Nat->tG)(w:tA),tL W0 w tM->(∀j,j<ts.length->j≠x->lin j=tM->(Fs.getD j SP.any).p (f (ts.getD j 0)) w)->wpAny P .any l.toArray Q ((Pn l.length ts.length x).toList.count tD) (Pn l.length ts.length x) (UY f ts a0) w):wpAny P .any l.toArray Q n done a w:=by
 have i:done=Pn l.length ts.length x:=by refine sY (by simp[Pn,S.size]) fun j e o=>?_;simp only[Pn,sJ,sO,sL];by_cases d:j<ts.length;(·by_cases b:j=x;(·subst b;simp[e]at hx;simp[hx]);·have:=hall j d b;simp[e]at this;simp[this,d,b]);·have:=S.late j (by omega);simp[e]at this;simp[this,d]
 have h:=bL S;have m:=S.count;subst i;rw[<-m,h];exact hend _ w S.good fun j d b k=>S.fact j d (hall j d b) fun c g=>(by rw[k]at g;cases g)
theorem cL{ts:List Nat}{Fs:List SP}{W0:tA}{a0:Act}{n:Nat}{done:Array Bool}{a:Act}{w:tA}(S:oG l ts Fs lin W0 a0 n done a w)(hall:∀j,j<ts.length->done.getD j tD=tB)(hend:∀(f:Nat->tG)(w:tA),tL W0 w tM->(∀j,j<ts.length->lin j=tM->(Fs.getD j SP.any).p (f (ts.getD j 0)) w)->wpAny P .any l.toArray Q ((Yi l.length ts.length).toList.count tD) (Yi l.length ts.length) (UY f ts a0) w):wpAny P .any l.toArray Q n done a w:=by
 have h:done=Yi l.length ts.length:=by refine sY (by simp[Yi,S.size]) fun j d m=>?_;simp only[Yi,sJ,sO,sL];by_cases b:j<ts.length;(·have:=hall j b;simp[d]at this;simp[this,b]);·have:=S.late j (by omega);simp[d]at this;simp[this,b]
 have g:=bL S;have k:=S.count;subst h;rw[<-k,g];exact hend _ w S.good fun j b i=>S.fact j b (hall j b) fun c e=>(by rw[i]at e;cases e)
theorem nL{x:Nat}{ts:List Nat}{Fs:List SP}{W0:tA}{a0:Act}(hf:Hy l ts a0.tmps.size x=tB)(hops:Lg P l ts Fs lin W0 a0 ts.length 0 l)(hend:∀(f:Nat->tG)(w:tA),tL W0 w tM->(∀j,j<ts.length->lin j=tM->(Fs.getD j SP.any).p (f (ts.getD j 0)) w)->wpAny P .any l.toArray Q ((Yi l.length ts.length).toList.count tD) (Yi l.length ts.length) (UY f ts a0) w)(hendX:∀(f:Nat->tG)(w:tA),tL W0 w tM->(∀j,j<ts.length->j≠x->lin j=tM->(Fs.getD j SP.any).p (f (ts.getD j 0)) w)->wpAny P .any l.toArray Q ((Pn l.length ts.length x).toList.count tD) (Pn l.length ts.length x) (UY f ts a0) w):∀(n:Nat)(done:Array Bool)(a:Act)(w:tA),oG l ts Fs lin W0 a0 n done a w->wpAny P .any l.toArray Q n done a w:=by
 simp only[Hy,tC,decide_eq_true_eq,sC,tZ]at hf;obtain⟨⟨z,Z⟩,ax⟩:=hf;have Y:∀(i:Nat)(o:tK),l[i]?=tE o->∀e∈o.after,tJ .any e=tB->e.on<i:=fun i o C e y A=>by have h:=z i (tQ.1 C).1;rw[C]at h;simp only[tC,sA,sI,decide_eq_true_eq]at h;rcases h.1 e y with h|h;(·rw[A]at h;cases h);·exact h
 have G:∀(i:Nat)(o:tK),i<ts.length->l[i]?=tE o->o.dst=tE (ts.getD i 0)∧(∀g b,o.guard=tE (g,b)->g<i)∧ts.getD i 0<a0.tmps.size:=fun i o hi C=>by have h:=z i (tQ.1 C).1;rw[C]at h;simp only[tC]at h;have h:=h.2;rw[if_pos hi]at h;simp only[tC,beq_iff_eq,decide_eq_true_eq]at h;refine⟨h.1.1,fun g b e=>?_,h.2⟩;have h2:=h.1.2;rw[e]at h2;simpa using h2
 intro n;induction n with|zero=>intro done a w S;by_cases m:∀j,j<ts.length->done.getD j tD=tB;(·exact cL S m hend);(·exfalso;refine m fun j s=>?_;have h0:=sK.1 S.count;(have d:j<done.size:=by rw[S.size];omega);cases e:done[j]with|true=>simp[d,e]|false=>exact absurd (by rw[<-e];exact sS d) h0)|succ n ih=>intro done a w S;by_cases m:∀j,j<ts.length->done.getD j tD=tB;(·exact cL S m hend);·by_cases u:∀j,j<ts.length->j≠x->done.getD j tD=tB;(·refine fT S u ?_ hendX;cases e:done.getD x tD with|false=>rfl|true=>exact absurd (fun j s=>if h:j=x then(h▸e)else u j s h) m);(have al:∃j,j<ts.length∧done.getD j tD=tD:=by refine sQ fun E=>m fun j s=>?_;cases e:done.getD j tD with|true=>rfl|false=>exact absurd ⟨j,s,e⟩ E);obtain⟨j0,aw,ah⟩:=al;obtain⟨k,hk,ai,T⟩:=Mc (fun j=>done.getD j tD) j0 ah;(have L:k<l.length:=by omega);have X:k∈tF .any l.toArray done:=mem_ready.2 ⟨by(have d:k<done.size:=by rw[S.size];exact L);simpa[d]using ai,l[k],by simp[L],fun e y A=>T _ (Y k l[k] (by simp[L]) e y A)⟩;refine⟨fun h=>(by rw[h]at X;cases X),fun i hi=>?_⟩;obtain⟨V,o,C,B⟩:=mem_ready.1 hi;(have F:l[i]?=tE o:=by simpa using C);have J:i<l.length:=(tQ.1 F).1;by_cases r:i<ts.length;(·obtain⟨h1,h2,h3⟩:=G i o r F;(have W:done.getD i tD=tD:=by(have d:i<done.size:=by rw[S.size];exact J);simpa[d]using V);refine wpOp_step C fun K hK=>?_;have hO:=Lg.at ts.length 0 l hops i o r F;rw[sV]at hO;obtain⟨aj,hr⟩:=hO a w (fun t R=>by rw[J5,J5,S.base t R]) (fun j s hw M=>by refine S.fact j s ?_ fun c E=>(by rcases M with M|M<;>rw[M]at E<;>cases E;exact W);rw[Kz,C]at hw;obtain⟨e,y,A⟩:=tS.1 hw;simp only[tC,beq_iff_eq]at A;rw[<-A.2];exact B e y A.1) S.good;rw[if_pos (by cases hg:o.guard with|none=>simp[tI,hg]|some p=>obtain⟨g,b⟩:=p;have av:=h2 g b hg;have O:=aj g b hg;obtain⟨o2,D⟩:∃o2,l[g]?=tE o2:=⟨l[g],by simp⟩;obtain⟨k1,_,k3⟩:=G g o2 (by omega) D;(have d:ts.getD g 0<a.tmps.size:=by rw[S.asize];exact k3);(have hy:sE l.toArray a.tmps g=tE b:=by generalize ts.getD g 0=q at k1 d O;(have R:a.tmps[q]?=tE (.bool b):=by rw[J5,tV d]at O;rw[tV d,<-O];rfl);simp[sE,D,k1,R]);simp[tI,hg,hy])];refine hr _ _ fun v w' O=>hK _ _ (ih _ _ _ ?_);rw[h1];(have U:ts.getD i 0<a.tmps.size:=by rw[S.asize];exact h3);refine⟨by rw[tY];exact S.size,Mb V S.count,S.closed.step hi,fun j s=>?_,O.1,?_,S.defers,fun t R=>?_,fun j s hd M=>?_⟩;(·rw[getD_set_ne tD (by omega)];exact S.late j s);(·show(a.tmps.setIfInBounds _ _).size=_;rw[tY];exact S.asize);(·have N:ts.getD i 0≠t:=fun e=>R (by rw[<-e,tN,tR r];exact rA r);show(a.tmps.setIfInBounds _ _)[t]?=_;rw[tP N];exact S.base t R);·by_cases e:i=j;(·subst e;(have:(a.put (tE (ts.getD i 0)) v).eval (.tmp (ts.getD i 0))=v:=by generalize ts.getD i 0=q at U⊢;rw[J5];simp[sG,U]);rw[this];exact O.2.1);·have N:ts.getD i 0≠ts.getD j 0:=fun y=>(by rw[tN,tN,tR r,tR s]at y;(have y:ts[i]=ts[j]:=by simpa using y);rcases sZ e with h|h;(·exact absurd y (tX.1 Z i j r s h));·exact absurd y.symm (tX.1 Z j i s r h));(have:(a.put (tE (ts.getD i 0)) v).eval (.tmp (ts.getD j 0))=a.eval (.tmp (ts.getD j 0)):=by rw[J5,J5];show((a.tmps.setIfInBounds _ _)[ts.getD j 0]?).getD rG=_;rw[tP N]);rw[this];rw[getD_set_ne tD e]at hd;(have H:lin j≠tE i:=fun E=>by have h9:=M i E;(have d:i<done.size:=by rw[S.size];exact J);simp[d]at h9);refine O.2.2 j s (fun e'=>e e'.symm) H _ (S.fact j s hd fun c E=>?_);have h9:=M c E;rwa[getD_set_ne tD (fun e'=>H (by rw[e'];exact E))]at h9);·exfalso;have h:=z i J;rw[F]at h;simp only[tC]at h;have h:=h.2;rw[if_neg r,sI,rB,sC]at h;rcases h with⟨j,s,A⟩|A;(·simp only[tC,decide_eq_true_eq]at A;have hw:=A.2;rw[Kz,C]at hw;obtain⟨e,y,I⟩:=tS.1 hw;simp only[tC,beq_iff_eq]at I;have:=B e y I.1;rw[I.2,S.late j A.1]at this;cases this);·refine u fun j s ak=>vI S.closed _ i j ((by simpa[ak]using A j (tZ.2 s))) fun o2 D e y ag=>?_;rw[C]at D;cases D;exact B e y ag
theorem Nj(n k N x:Nat)(lin:Nat->Option Nat){id:Nat}{ts:List Nat}{Fs:List SP}{a0:Act}{w:tA}(hm:P.follows .mixedOrders=tB)(hf:Hy l ts a0.tmps.size x=tB)(hn:l.length=n)(hk:ts.length=k)(hops:Lg P l ts Fs lin w a0 ts.length 0 l)(hN:(Pn n k x).toList.count tD=N)(hendX:∀(f:Nat->tG)(w':tA),tL w w' tM->(∀j,j<k->j≠x->lin j=tM->(Fs.getD j SP.any).p (f (ts.getD j 0)) w')->wpAny P .any l.toArray Q N (Pn n k x) (UY f ts a0) w')(hend:∀(f:Nat->tG)(w':tA),tL w w' tM->(∀j,j<k->lin j=tM->(Fs.getD j SP.any).p (f (ts.getD j 0)) w')->wpAny P .any l.toArray Q (n-k) (Yi n k) (UY f ts a0) w'):(Code.region id l.toArray tB).wp P Q a0 w:=by
 subst hn hk hN;have b:ts.length<=l.length:=by simp only[Hy,tC,decide_eq_true_eq]at hf;exact hf.2
 have d:(Yi l.length ts.length).toList.count tD=l.length-ts.length:=vC _ _ b;refine rH hm (nL hf hops (by rw[d];exact hend) hendX _ _ _ _ ⟨by simp,by simp,?_,fun j _=>?_,Ql (Qb _ _),rfl,rfl,fun _ _=>rfl,fun j _ h _=>?_⟩);·intro j o g e;(have a:j<l.length:=by simpa using(sD.1 g).1);simp[a]at e
 ·rcases tT j l.length with h|h<;>simp[h]
 ·exfalso;rcases tT j l.length with c|c<;>simp[c]at h
theorem fM(j k:Nat){n:Nat}{done:Array Bool}{a:Act}{w:tA}{o p:tK}(ho:l.toArray[j]?=tE o)(hp:l.toArray[k]?=tE p)(h1:o.wp P a w (fun a' w'=>wpAny P .any l.toArray Q n (done.setIfInBounds j tB) a' w') Q)(h2:p.wp P a w (fun a' w'=>wpAny P .any l.toArray Q n (done.setIfInBounds k tB) a' w') Q)(hg:o.guard=tM:=by
 rfl)(hq:p.guard=tM:=by
 rfl)(hr:tF .any l.toArray done=[j,k]:=by
 kernel_rfl):wpAny P .any l.toArray Q (n+1) done a w:=by
 refine⟨fun d=>(by rw[hr]at d;cases d),fun i c=>?_⟩;rw[hr]at c;simp only[sR,rD,or_false]at c;rcases c with rfl|rfl;·refine wpOp_step ho fun K b=>?_;rw[if_pos (by simp[tI,hg])];exact Oper.wp_mono b h1
 ·refine wpOp_step hp fun K b=>?_;rw[if_pos (by simp[tI,hq])];exact Oper.wp_mono b h2
end
end
theorem Ny.turn{w w':tA}{g:Nat}{cs:Array tG}{t:TypeId}{fz:Nat×Nat}(h:tL w w' (tE g))(hb:w.heap[g]?=tE (.cells cs t fz))(ht:Gq t)(h0:∀q,cs[0]?≠tE (.int .u8 q)):Ny 0 w w':=⟨h.os,h.tape,h.output,h.size,fun i b a=>h.block i b (fun e=>by
 cases e;rcases a with a|a;·omega
 ·rcases a _ _ _ hb with h|⟨q,h⟩;(·exact h ht);·exact h0 q h)⟩
def lC(w:tA)(cs:List tG)(r:Rq):Prop:=∃vn vk vl vv,cs=[.int .i64 r.kind,vn,vk,vl,vv]∧Qf 0 w vn r.name∧Qf 0 w vk r.key∧Qf 0 w vl r.last∧Qf 0 w vv r.value
theorem lC.still{w:tA}{cs:List tG}{r:Rq}(h:lC w cs r):Zd 0 w (fun w=>lC w cs r):=fun a k=>by
 obtain⟨_,_,_,_,rfl,b,c,d,e⟩:=h;exact⟨_,_,_,_,rfl,Zv b a k,Zv c a k,Zv d a k,Zv e a k⟩
def KY(rb:Nat)(w:tA)(v:tG)(l:List Rq):Prop:=Je 37 5 lC rb w v l
theorem l8:Gq 37:=by
 simp[Gq,VU]
theorem WL(rb:Nat)(w:tA):KY rb w (.slice tM 0 0) []:=jG _ _ _ _ _
theorem KY.grown{rb:Nat}{w w':tA}{v:tG}{l:List Rq}(h:KY rb w v l)(hg:tL w w' tM):KY rb w' v l:=Je.grown h hg
theorem KY.shape{rb:Nat}{w:tA}{v:tG}{l:List Rq}(h:KY rb w v l):∃a cap,v=.slice a l.length cap:=Je.shape h
theorem KY.turn{rb:Nat}{w w':tA}{v:tG}{l:List Rq}(h:KY rb w v l)(hg:tL w w' v.ownBlock):Ny 0 w w':=by
 rcases Je.blk (by decide) h with e|⟨g,c,e,_,b,a⟩;·rw[e]at hg;exact Ny.grown hg
 ·rw[e]at hg;exact Ny.turn hg b l8 a
theorem BJ{rb:Nat}{w W w1:tA}{v:tG}{l:List Rq}(h:tL w W tM)(ho:KY rb W v l)(hb:w.heap.size<=rb)(hg:tL W w1 v.ownBlock):tL w w1 tM:=by
 refine⟨hg.os.trans h.os,hg.tape.trans h.tape,hg.output.trans h.output,Nat.le_trans h.size hg.size,fun i a b=>?_⟩;rw[hg.block i (Nat.lt_of_lt_of_le a h.size) fun e=>by have:=(Je.lt ho i e.symm).1;omega];exact h.block i a b
theorem mL:(Tryz.prog.info? 37).map (fun i=>(i.zero,i.size,i.bytes))=tE (tE (.agg #[.int .i64 0,.slice tM 0 0,.slice tM 0 0,.slice tM 0 0,.slice tM 0 0]),5,104):=by
 kernel_rfl
theorem MY{w:tA}{o:tK}{a:Act}{K:Act->tA->Prop}{Q:Exit->Act->tA->Prop}(s x:sN)(ho:o.op=.call {callee:=.builtin .append,args:=#[s,x],argTypes:=#[43,43]})(rb:Nat)(v:tG)(l:List Rq)(hs:a.eval s=v)(hown:KY rb w v l)(nb:Nat)(y0 y1 y2 y3 y4:tG)(r:Rq)(hx:a.eval x=.slice (tE ⟨nb,0,tM⟩) 1 1)(hb:w.heap[nb]?=tE (.cells #[y0,y1,y2,y3,y4] 37))(hq:lC w [y0,y1,y2,y3,y4] r)(hl:l.length<=1000)(hbase:rb<=w.heap.size)(h:∀v' w',KY rb w' v' (l++[r])->tL w w' v.ownBlock->K (a.put o.dst v') w'):o.wp Tryz.prog a w K Q:=by
 obtain⟨I,E,m,n,p⟩:=info_parts mL;have b:=hown;obtain⟨A,B,i,t,c⟩:=hown;have d:∀u∈[y0,y1,y2,y3,y4],u.oneCell'=tB:=fun u k=>by obtain⟨M,J,L,N,e,C,i,t,c⟩:=hq;rw[e]at k;simp only[sR,rD,or_false]at k;rcases k with rfl|rfl|rfl|rfl|rfl;(·rfl);(·exact Q7 C);(·exact Q7 i);(·exact Q7 t);·exact Q7 c
 refine wp_append_lies w s x 43 ho rb 37 I _ 5 104 Tryz.underlying43 E m n p rfl (by decide) v l.length (A.flatMap (·.1)) hs i ⟨nb,0,tM⟩ 1 1 [y0,y1,y2,y3,y4] hx rfl (fun j u F=>by rw[ZS,sV];exact yJ hb j u F) d (by decide) (by unfold maxLen;omega) (by omega) hbase _ rfl ?_;intro g cap w' H y D G;have z:=b.turn y;refine h _ w' ⟨A++[([y0,y1,y2,y3,y4],r)],by simp[B],?_,fun e=>by simp at e,fun x hx=>?_⟩ y;·simpa[List.flatMap_append]using H
 ·rcases List.mem_append.1 hx with hx|hx;(·exact⟨(c x hx).1,(c x hx).2.1,(c x hx).2.2.1,(c x hx).2.2.2.later2 z⟩);·(obtain rfl:x=([y0,y1,y2,y3,y4],r):=by simpa using hx);refine⟨rfl,d,fun q f=>?_,hq.still.later2 z⟩;obtain⟨M,J,L,N,e,_⟩:=hq;rw[e]at f;simp at f
theorem KY.at{rb:Nat}{w:tA}{v:tG}{l:List Rq}(h:KY rb w v l)(i:Nat)(hi:i<l.length)(d:Rq):∃g cap vn vk vl vv,v=.slice (tE ⟨g,0,tM⟩) l.length cap∧w.cell? ⟨g,i*5,tM⟩=tE (.int .i64 (l.getD i d).kind)∧w.cell? ⟨g,i*5+1,tM⟩=tE vn∧w.cell? ⟨g,i*5+2,tM⟩=tE vk∧w.cell? ⟨g,i*5+3,tM⟩=tE vl∧w.cell? ⟨g,i*5+4,tM⟩=tE vv∧Qf 0 w vn (l.getD i d).name∧Qf 0 w vk (l.getD i d).key∧Qf 0 w vl (l.getD i d).last∧Qf 0 w vv (l.getD i d).value:=by
 obtain⟨g,cap,k,rfl,_,_,a,j⟩:=Je.at h d i hi;obtain⟨vn,vk,vl,vv,rfl,b,c,e,f⟩:=j.now;exact⟨g,cap,vn,vk,vl,vv,rfl,a 0 (by decide),a 1 (by decide),a 2 (by decide),a 3 (by decide),a 4 (by decide),b,c,e,f⟩
end Go.Proofs.YtiahomhpaejnhaaGreatDoor
