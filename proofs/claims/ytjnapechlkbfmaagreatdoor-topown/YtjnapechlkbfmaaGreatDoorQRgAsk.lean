/-
  Facts of slots of scripts: bytes, requests, acts, lists of acts; append as a step.
  Texts of this proof, joined, with few blanks: RgF, RgAsk.
-/
import Derived.Test.YtjnapechlkbfmaaGreatDoorQ46
set_option maxRecDepth 100000
set_option maxHeartbeats 8000000
open Array renaming getElem?_eq_none->F,getElem?_setIfInBounds_ne->H,any_eq_true'->X,getElem?_eq_getElem->tB,size_setIfInBounds->tC
open Bool renaming and_eq_true->B,false->D,true->N,or_eq_true->tH
open Decidable renaming decide->Y,not_not->tJ
open Go renaming World->A,Value->C,Oper->G,Operand->M
open Go.Proofs.Tryz renaming prog->I
open Go.World renaming grownBy->L
open List renaming getD_eq_getElem?_getD->J,getElem?_eq_some_iff->O,getElem?_eq_getElem->T,range->z,mem_range->tA,pairwise_iff_getElem->tD,count_eq_zero->tE,all_eq_true->tG
open Nat renaming lt_or_ge->V,le_refl->tI
open Option renaming some->E,none->W
namespace Go.Proofs.YtjnapechlkbfmaaGreatDoor
open Go.RowKit
section
structure SP where
  p : C -> A -> Prop
  st : ∀ v w w', L w w' W -> p v w -> p v w'
def SP.any:SP:=⟨fun _ _=>True,fun _ _ _ _ _=>trivial⟩
def SP.eq(c:C):SP:=⟨fun v _=>v=c,fun _ _ _ _ h=>h⟩
section
variable{P:Program}{Q:Exit->Act->A->Prop}{l:List G}
def TJ(f:Nat->C)(ts:List Nat)(a:Act):Act:=ts.foldl (fun a t=>a.put (E t) (f t)) a
theorem Nk(f:Nat->C):∀(ts:List Nat)(a:Act),(TJ f ts a).tmps.size=a.tmps.size|[],_=>rfl|t::ts,a=>by show(TJ f ts (a.put (E t) (f t))).tmps.size=_;rw[Nk f ts];simp[Act.put]
theorem P7(f:Nat->C):∀(ts:List Nat)(a:Act),(TJ f ts a).defers=a.defers|[],_=>rfl|t::ts,a=>by show(TJ f ts (a.put (E t) (f t))).defers=_;rw[P7 f ts];rfl
theorem Ly(f:Nat->C):∀(ts:List Nat)(a:Act)(t:Nat),t<a.tmps.size->(TJ f ts a).tmps[t]?=if t∈ts then E (f t)else a.tmps[t]?|[],_,_,_=>by simp[TJ]|s::ts,a,t,h=>by show(TJ f ts (a.put (E s) (f s))).tmps[t]?=_;rw[Ly f ts _ t (by simpa[Act.put]using h)];by_cases h1:t∈ts;(·rw[if_pos h1,if_pos (List.mem_cons_of_mem _ h1)]);·rw[if_neg h1];by_cases h2:t=s;(·subst h2;rw[if_pos List.mem_cons_self];simp[Act.put,h]);·rw[if_neg (by simp[h1,h2])];simp only[Act.put];rw[H (fun e=>h2 e.symm)]
def qD(P:Program)(o:G)(ev:M->C)(w:A)(R:C->A->Prop):Prop:=match(execOp ev o).run P w with|.ok (.value v) w'=>R v w'|.ok (.enter f args) w'=>Calls P f args w' (fun e w''=>∃v,e=.returned v∧R v w'')|_=>False
theorem qD.val{o:G}{ev:M->C}{w w':A}{v:C}{R:C->A->Prop}(h:(execOp ev o).run P w=.ok (.value v) w')(hr:R v w'):qD P o ev w R:=by
 unfold qD;rw[h];exact hr
theorem qD.call{o:G}{ev:M->C}{w w':A}{f:Nat}{args:Array C}{R:C->A->Prop}(h:(execOp ev o).run P w=.ok (.enter f args) w')(hr:Calls P f args w' (fun e w''=>∃v,e=.returned v∧R v w'')):qD P o ev w R:=by
 unfold qD;rw[h];exact hr
theorem qD.wp{o:G}{a:Act}{w:A}{R:C->A->Prop}{K:Act->A->Prop}(h:qD P o a.eval w R)(hk:∀v w',R v w'->K (a.put o.dst v) w'):o.wp P a w K Q:=by
 unfold qD at h;unfold Oper.wp;generalize(execOp a.eval o).run P w=r at h;cases r with|ok n w'=>(cases n with|value v=>exact hk _ _ h|enter f args=>refine Calls.mono h ?_;rintro e w''⟨v,rfl,hr⟩;exact hk _ _ hr|_=>exact h.elim)|halt x w'=>exact h.elim
def iV(P:Program)(l:List G)(ts:List Nat)(Fs:List SP)(W0:A)(a0:Act)(i:Nat)(o:G):Prop:=∀(ev:M->C)(w:A),(∀v,ev (.const v)=v)->(∀g,ev (.global g)=.pointer (E ⟨g,0,W⟩))->(∀f,ev (.func f)=.func (.func f) #[] #[])->(∀t,t∉ts->ev (.tmp t)=a0.eval (.tmp t))->(∀j,j<ts.length->Gk .any l.toArray i j=N->(Fs.getD j SP.any).p (ev (.tmp (ts.getD j 0))) w)->L W0 w W->(∀g b,o.guard=E (g,b)->ev (.tmp (ts.getD g 0))=.bool b)∧qD P o ev w (fun v w'=>L w w' W∧(Fs.getD i SP.any).p v w')
theorem un{P:Program}{o:G}{ev:M->C}{w:A}{R:C->A->Prop}{ts:List Nat}(h:qD P o ev w R)(hg:o.guard=W:=by
 rfl):(∀g b,o.guard=E (g,b)->ev (.tmp (ts.getD g 0))=.bool b)∧qD P o ev w R:=⟨fun g b e=>(by
 rw[hg]at e;cases e),h⟩
theorem gd{P:Program}{o:G}{ev:M->C}{w:A}{R:C->A->Prop}{ts:List Nat}{g:Nat}{b:Bool}(hv:ev (.tmp (ts.getD g 0))=.bool b)(h:qD P o ev w R)(hg:o.guard=E (g,b):=by
 rfl):(∀g b,o.guard=E (g,b)->ev (.tmp (ts.getD g 0))=.bool b)∧qD P o ev w R:=⟨fun g' b' e=>(by
 rw[hg]at e;cases e;exact hv),h⟩
def T6(P:Program)(l:List G)(ts:List Nat)(Fs:List SP)(W0:A)(a0:Act):Nat->Nat->List G->Prop|0,_,_=>True|_+1,_,[]=>True|m+1,i,o::os=>iV P l ts Fs W0 a0 i o∧T6 P l ts Fs W0 a0 m (i+1) os
theorem T6.at{ts:List Nat}{Fs:List SP}{W0:A}{a0:Act}:∀(m i:Nat)(os:List G),T6 P l ts Fs W0 a0 m i os->∀j o,j<m->os[j]?=E o->iV P l ts Fs W0 a0 (i+j) o|0,_,_,_,_,_,h,_=>absurd h (Nat.not_lt_zero _)|_+1,_,[],_,_,_,_,h=>by simp at h|m+1,i,o::os,h,0,o',_,e=>by(obtain rfl:o=o':=by simpa using e);exact h.1|m+1,i,o::os,h,j+1,o',hj,e=>by have:=T6.at m (i+1) os h.2 j o' (by omega) (by simpa using e);rwa[show i+(j+1)=i+1+j by omega]
def Ma(ops:Array G):Nat->Nat->Nat->Bool|0,_,_=>D|n+1,i,j=>match ops[i]?with|E o=>o.after.any fun e=>Region.binds .any e&&(e.on==j||Ma ops n e.on j)|none=>D
theorem RS{ops:Array G}{done:Array Bool}(hc:yM .any ops done):∀(n i j:Nat),Ma ops n i j=N->(∀o,ops[i]?=E o->∀e∈o.after,Region.binds .any e=N->done.getD e.on D=N)->done.getD j D=N|0,_,_,h,_=>by cases h|n+1,i,j,h,hi=>by rw[Ma]at h;cases ho:ops[i]?with|none=>rw[ho]at h;cases h|some o=>rw[ho]at h;obtain⟨e,he,hb⟩:=X.1 h;simp only[B,tH,beq_iff_eq]at hb;have h1:=hi o ho e he hb.1;rcases hb.2with h2|h2;(·rw[<-h2];exact h1);·refine RS hc n e.on j h2 fun o' ho' e' he' hb'=>hc e.on o' ho' ?_ e' he' hb';(have hlt:e.on<done.size:=by rcases V e.on done.size with h|h;(·exact h);·simp[F h]at h1);simpa[hlt]using h1
def Le(l:List G)(ts:List Nat)(size:Nat):Bool:=(z l.length).all (fun i=>match l[i]?with|E o=>(o.after.all fun e=>Y (e.on<i))&&(if i<ts.length then(o.dst==E (ts.getD i 0))&&(match o.guard with|none=>N|E (g,_)=>Y (g<i))&&Y (ts.getD i 0<size)else((z l.length).any fun j=>Y (ts.length<=j)&&Gk .any l.toArray i j)||((z ts.length).all fun j=>Ma l.toArray l.length i j))|none=>N)&&Y ts.Nodup&&Y (ts.length<=l.length)
structure mH (l : List G) (ts : List Nat) (Fs : List SP) (W0 : A) (a0 : Act) (n : Nat) (done : Array Bool) (a : Act) (w : A) : Prop where
  size : done.size = l.length
  count : done.toList.count D = n
  closed : yM .any l.toArray done
  late : ∀ j, ts.length <= j -> done.getD j D = D
  good : L W0 w W
  asize : a.tmps.size = a0.tmps.size
  defers : a.defers = a0.defers
  base : ∀ t, t ∉ ts -> a.tmps[t]? = a0.tmps[t]?
  fact : ∀ j, j < ts.length -> done.getD j D = N -> (Fs.getD j SP.any).p (a.eval (.tmp (ts.getD j 0))) w
def Kr(n m:Nat):Array Bool:=((z n).map fun j=>Y (j<m)).toArray
theorem Rj:∀n k,k<=n->(Kr n k).toList.count D=n-k|0,k,h=>by simp[Kr]|n+1,k,h=>by(have e:(Kr (n+1) k).toList=(Kr n k).toList++[Y (n<k)]:=by simp[Kr,List.range_succ]);rw[e,List.count_append];by_cases hk:k<=n;(·rw[Rj n k hk];simp[Nat.not_lt.2 hk];omega);·(obtain rfl:k=n+1:=by omega);(have:(Kr n (n+1)).toList.count D=0:=by rw[tE];simp only[Kr,List.mem_map,tA,decide_eq_false_iff_not,not_exists,not_and,tJ];intro x hx;omega);rw[this];simp
theorem qV(a:Act)(t:Nat):a.eval (.tmp t)=(a.tmps[t]?).getD undef:=by
 simp[Act.eval]
theorem Hy{done:Array Bool}{i n:Nat}(h:done.getD i N=D)(hc:done.toList.count D=n+1):(done.setIfInBounds i N).toList.count D=n:=by
 have hlt:i<done.size:=by rcases V i done.size with h'|h';(·exact h');·simp[F h']at h
 have hi:done.toList[i]'(by simpa using hlt)=D:=by simpa[hlt]using h
 rw[Array.toList_setIfInBounds,List.count_set (by simpa using hlt),hi,hc];simp
theorem dM:∀{x y:Act},x.tmps=y.tmps->x.defers=y.defers->x=y:=fun{x y}h1 h2=>by
 cases x;cases y;cases h1;cases h2;rfl
theorem Hz(p:Nat->Bool):∀n,p n=D->∃k,k<=n∧p k=D∧∀j,j<k->p j=N:=fun n=>by
 induction n using Nat.strongRecOn with|ind n ih=>intro h;by_cases hx:∃j,j<n∧p j=D;(·obtain⟨j,hj,hp⟩:=hx;obtain⟨k,h1,h2,h3⟩:=ih j hj hp;exact⟨k,by omega,h2,h3⟩);·exact⟨n,tI _,h,fun j hj=>by cases e:p j with|true=>rfl|false=>exact absurd ⟨j,hj,e⟩ hx⟩
theorem bH{ts:List Nat}{Fs:List SP}{W0:A}{a0:Act}{n:Nat}{done:Array Bool}{a:Act}{w:A}(S:mH l ts Fs W0 a0 n done a w)(hall:∀j,j<ts.length->done.getD j D=N)(hend:∀(f:Nat->C)(w:A),L W0 w W->(∀j,j<ts.length->(Fs.getD j SP.any).p (f (ts.getD j 0)) w)->wpAny P .any l.toArray Q ((Kr l.length ts.length).toList.count D) (Kr l.length ts.length) (TJ f ts a0) w):wpAny P .any l.toArray Q n done a w:=by
 have hd:done=Kr l.length ts.length:=by refine Array.ext (by simp[Kr,S.size]) fun j h1 h2=>?_;simp only[Kr,List.getElem_toArray,List.getElem_map,List.getElem_range];by_cases hj:j<ts.length;(·have:=hall j hj;simp[h1]at this;simp[this,hj]);·have:=S.late j (by omega);simp[h1]at this;simp[this,hj]
 have ha:a=TJ (fun t=>a.eval (.tmp t)) ts a0:=by refine dM (Array.ext_getElem? fun t=>?_) (by rw[P7];exact S.defers);rcases V t a0.tmps.size with ht|ht;(·rw[Ly _ _ _ _ ht];by_cases hm:t∈ts;(·rw[if_pos hm,qV];(have ht':t<a.tmps.size:=by rw[S.asize];exact ht);simp[ht']);·rw[if_neg hm];exact S.base t hm);·rw[F (by rw[S.asize];exact ht),F (by rw[Nk];exact ht)]
 have hn:=S.count;subst hd;rw[<-hn,ha];exact hend _ w S.good fun j hj=>S.fact j hj (hall j hj)
theorem lJ{ts:List Nat}{Fs:List SP}{W0:A}{a0:Act}(hf:Le l ts a0.tmps.size=N)(hops:T6 P l ts Fs W0 a0 ts.length 0 l)(hend:∀(f:Nat->C)(w:A),L W0 w W->(∀j,j<ts.length->(Fs.getD j SP.any).p (f (ts.getD j 0)) w)->wpAny P .any l.toArray Q ((Kr l.length ts.length).toList.count D) (Kr l.length ts.length) (TJ f ts a0) w):∀(n:Nat)(done:Array Bool)(a:Act)(w:A),mH l ts Fs W0 a0 n done a w->wpAny P .any l.toArray Q n done a w:=by
 simp only[Le,B,decide_eq_true_eq,tG,tA]at hf;obtain⟨⟨hform,hnd⟩,hml⟩:=hf;have hlow:∀(i:Nat)(o:G),l[i]?=E o->∀e∈o.after,e.on<i:=fun i o ho e he=>by have h:=hform i (O.1 ho).1;rw[ho]at h;simp only[B,Array.all_eq_true_iff_forall_mem,decide_eq_true_eq]at h;exact h.1 e he
 have hear:∀(i:Nat)(o:G),i<ts.length->l[i]?=E o->o.dst=E (ts.getD i 0)∧(∀g b,o.guard=E (g,b)->g<i)∧ts.getD i 0<a0.tmps.size:=fun i o hi ho=>by have h:=hform i (O.1 ho).1;rw[ho]at h;simp only[B]at h;have h:=h.2;rw[if_pos hi]at h;simp only[B,beq_iff_eq,decide_eq_true_eq]at h;refine⟨h.1.1,fun g b e=>?_,h.2⟩;have h2:=h.1.2;rw[e]at h2;simpa using h2
 intro n;induction n with|zero=>intro done a w S;by_cases hall:∀j,j<ts.length->done.getD j D=N;(·exact bH S hall hend);(·exfalso;refine hall fun j hj=>?_;have h0:=tE.1 S.count;(have hlt:j<done.size:=by rw[S.size];omega);cases e:done[j]with|true=>simp[hlt,e]|false=>exact absurd (by rw[<-e];exact Array.getElem_mem_toList hlt) h0)|succ n ih=>intro done a w S;by_cases hall:∀j,j<ts.length->done.getD j D=N;(·exact bH S hall hend);·(have hun:∃j,j<ts.length∧done.getD j D=D:=by refine Classical.byContradiction fun hc=>hall fun j hj=>?_;cases e:done.getD j D with|true=>rfl|false=>exact absurd ⟨j,hj,e⟩ hc);obtain⟨j0,hj0,hd0⟩:=hun;obtain⟨k,hk,hdk,hbef⟩:=Hz (fun j=>done.getD j D) j0 hd0;(have hkl:k<l.length:=by omega);have hkr:k∈Region.ready .any l.toArray done:=mem_ready.2 ⟨by(have hlt:k<done.size:=by rw[S.size];exact hkl);simpa[hlt]using hdk,l[k],by simp[hkl],fun e he _=>hbef _ (hlow k l[k] (by simp[hkl]) e he)⟩;refine⟨fun h=>(by rw[h]at hkr;cases hkr),fun i hi=>?_⟩;obtain⟨hiu,o,ho,hdep⟩:=mem_ready.1 hi;(have ho':l[i]?=E o:=by simpa using ho);have hil:i<l.length:=(O.1 ho').1;by_cases him:i<ts.length;(·obtain⟨h1,h2,h3⟩:=hear i o him ho';refine wpOp_step ho fun K hK=>?_;have hO:=T6.at ts.length 0 l hops i o him ho';rw[Nat.zero_add]at hO;obtain⟨hgd,hr⟩:=hO a.eval w (fun _=>rfl) (fun _=>rfl) (fun _=>rfl) (fun t ht=>by rw[qV,qV,S.base t ht]) (fun j hj hw=>by refine S.fact j hj ?_;rw[Gk,ho]at hw;obtain⟨e,he,hb⟩:=X.1 hw;simp only[B,beq_iff_eq]at hb;rw[<-hb.2];exact hdep e he hb.1) S.good;rw[if_pos (by cases hg:o.guard with|none=>simp[Region.wanted,hg]|some p=>obtain⟨g,b⟩:=p;have hgi:=h2 g b hg;have hv:=hgd g b hg;obtain⟨o2,ho2⟩:∃o2,l[g]?=E o2:=⟨l[g],by simp⟩;obtain⟨k1,_,k3⟩:=hear g o2 (by omega) ho2;(have hlt:ts.getD g 0<a.tmps.size:=by rw[S.asize];exact k3);(have hy:yielded l.toArray a.tmps g=E b:=by generalize ts.getD g 0=q at k1 hlt hv;(have ht:a.tmps[q]?=E (.bool b):=by rw[qV,tB hlt]at hv;rw[tB hlt,<-hv];rfl);simp[yielded,ho2,k1,ht]);simp[Region.wanted,hg,hy])];refine hr.wp fun v w' hv=>hK _ _ (ih _ _ _ ?_);rw[h1];(have hia:ts.getD i 0<a.tmps.size:=by rw[S.asize];exact h3);refine⟨by rw[tC];exact S.size,Hy hiu S.count,S.closed.step hi,fun j hj=>?_,Qa S.good hv.1,?_,S.defers,fun t ht=>?_,fun j hj hd=>?_⟩;(·rw[getD_set_ne D (by omega)];exact S.late j hj);(·show(a.tmps.setIfInBounds _ _).size=_;rw[tC];exact S.asize);(·have hne:ts.getD i 0≠t:=fun e=>ht (by rw[<-e,J,T him];exact List.getElem_mem him);show(a.tmps.setIfInBounds _ _)[t]?=_;rw[H hne];exact S.base t ht);·by_cases e:i=j;(·subst e;(have:(a.put (E (ts.getD i 0)) v).eval (.tmp (ts.getD i 0))=v:=by generalize ts.getD i 0=q at hia⊢;rw[qV];simp[Act.put,hia]);rw[this];exact hv.2);·have hne:ts.getD i 0≠ts.getD j 0:=fun he=>(by rw[J,J,T him,T hj]at he;(have he:ts[i]=ts[j]:=by simpa using he);rcases Nat.lt_or_gt_of_ne e with h|h;(·exact absurd he (tD.1 hnd i j him hj h));·exact absurd he.symm (tD.1 hnd j i hj him h));(have:(a.put (E (ts.getD i 0)) v).eval (.tmp (ts.getD j 0))=a.eval (.tmp (ts.getD j 0)):=by rw[qV,qV];show((a.tmps.setIfInBounds _ _)[ts.getD j 0]?).getD undef=_;rw[H hne]);rw[this];rw[getD_set_ne D e]at hd;exact(Fs.getD j SP.any).st _ _ _ hv.1 (S.fact j hj hd));·exfalso;have h:=hform i hil;rw[ho']at h;simp only[B]at h;have h:=h.2;rw[if_neg him,tH,List.any_eq_true,tG]at h;rcases h with⟨j,hj,hb⟩|hb;(·simp only[B,decide_eq_true_eq]at hb;have hw:=hb.2;rw[Gk,ho]at hw;obtain⟨e,he,hbb⟩:=X.1 hw;simp only[B,beq_iff_eq]at hbb;have:=hdep e he hbb.1;rw[hbb.2,S.late j hb.1]at this;cases this);·refine hall fun j hj=>RS S.closed _ i j (hb j (tA.2 hj)) fun o2 ho2 e he hbe=>?_;rw[ho]at ho2;cases ho2;exact hdep e he hbe
theorem IC(n k:Nat){id:Nat}{ts:List Nat}{Fs:List SP}{a0:Act}{w:A}(hm:P.follows .mixedOrders=N)(hf:Le l ts a0.tmps.size=N)(hn:l.length=n)(hk:ts.length=k)(hops:T6 P l ts Fs w a0 ts.length 0 l)(hend:∀(f:Nat->C)(w':A),L w w' W->(∀j,j<k->(Fs.getD j SP.any).p (f (ts.getD j 0)) w')->wpAny P .any l.toArray Q (n-k) (Kr n k) (TJ f ts a0) w'):(Code.region id l.toArray N).wp P Q a0 w:=by
 subst hn hk;have hml:ts.length<=l.length:=by simp only[Le,B,decide_eq_true_eq]at hf;exact hf.2
 have hc:(Kr l.length ts.length).toList.count D=l.length-ts.length:=Rj _ _ hml;refine wp_region_any hm (lJ hf hops (by rw[hc];exact hend) _ _ _ _ ⟨by simp,by simp,?_,fun j _=>?_,Ql (Qb _ _),rfl,rfl,fun _ _=>rfl,fun j _ h=>?_⟩);·intro j o ho hd;(have hlt:j<l.length:=by simpa using(Array.getElem?_eq_some_iff.1 ho).1);simp[hlt]at hd
 ·rcases V j l.length with h|h<;>simp[h]
 ·exfalso;rcases V j l.length with h'|h'<;>simp[h']at h
theorem i5(k:Nat){n:Nat}{done:Array Bool}{a:Act}{w:A}{o:G}(ho:l.toArray[k]?=E o)(h:o.wp P a w (fun a' w'=>wpAny P .any l.toArray Q n (done.setIfInBounds k N) a' w') Q)(hg:o.guard=W:=by
 rfl)(hr:Region.ready .any l.toArray done=[k]:=by
 kernel_rfl):wpAny P .any l.toArray Q (n+1) done a w:=by
 refine⟨fun h0=>(by rw[hr]at h0;cases h0),fun i hi=>?_⟩;rw[hr]at hi;obtain rfl:i=k:=by simpa using hi
 refine wpOp_step ho fun K hK=>?_;rw[if_pos (by simp[Region.wanted,hg])];exact Oper.wp_mono hK h
theorem iF{n:Nat}{done:Array Bool}{a:Act}{w:A}(h:Q .normal a w)(hr:Region.ready .any l.toArray done=[]:=by
 kernel_rfl):wpAny P .any l.toArray Q n done a w:=by
 cases n with|zero=>exact⟨hr,h⟩|succ n=>exact⟨fun _=>h,fun i hi=>by rw[hr]at hi;cases hi⟩
end
end
def SP.bytes(bs:List UInt8):SP:=⟨fun v w=>Qe w v bs,fun _ _ _ hg h=>h.grown hg⟩
def SP.rq(r:Rq):SP:=⟨fun v w=>Xp w v r,fun _ _ _ hg h=>h.grown hg⟩
def SP.ask(s:Int)(d:List UInt8):SP:=⟨fun v w=>∃xa xc,v=.agg #[.int .i64 1,.int .i64 s,.int .i64 0,.slice xa d.length xc]∧Qh 0 w (.slice xa d.length xc) d,fun _ _ _ hg⟨xa,xc,e,h⟩=>⟨xa,xc,e,h.keptT hg (.inl rfl)⟩⟩
def SP.own(l:List Ac):SP:=⟨fun v w=>UY 0 w v l,fun _ _ _ hg h=>h.grown hg⟩
theorem g8{o:G}{ev:M->C}{w:A}{v:C}{p:C->A->Prop}(h:(execOp ev o).run I w=.ok (.value v) w)(hp:p v w):qD I o ev w (fun v w'=>L w w' W∧p v w'):=qD.val h ⟨Qb _ _,hp⟩
theorem lM{o:G}{ev:M->C}{w:A}{c:Nat}{x:Int}{b:UInt8}(h:(execOp ev o).run I w=.ok (.value (.slice (E ⟨w.heap.size,0,W⟩) 1 1)) (w.alloc (.cells #[.int .u8 x] 5)))(hx:x=(c:Int))(hc:c<256)(hb:b=UInt8.ofNat c):qD I o ev w (fun v w'=>L w w' W∧Qe w' v [b]):=qD.val h ⟨World.grownBy_alloc _ _ W,by
 rw[hb];exact(GK hx hc (heap_alloc_new w _)).1⟩
theorem lH{o:G}{ev:M->C}{w:A}{s:Int}{v:C}{r:Rq}{d:List UInt8}(h:(execOp ev o).run I w=.ok (.enter 17 #[.int .i64 s,v]) w)(hP:KR w)(hv:Xp w v r)(hr:X8 r)(hd:d=Kb r):qD I o ev w (fun v w'=>L w w' W∧(SP.ask s d).p v w'):=by
 refine qD.call h ((FY w s v r hP hv hr).mono ?_);rintro e w'⟨xa,xc,rfl,hp,hg⟩;subst hd;exact⟨_,rfl,hg,xa,xc,rfl,hp⟩
theorem bL{w:A}{o:G}{a:Act}{K:Act->A->Prop}{Q:Exit->Act->A->Prop}(s x:M)(ho:o.op=.call {callee:=.builtin .append,args:=#[s,x],argTypes:=#[37,37]})(rb:Nat)(v:C)(l:List Ac)(hs:a.eval s=v)(hown:UY rb w v l)(r2:Nat)(u:C)(m:List Ac)(hx:a.eval x=u)(hsrc:Ji r2 w u m)(hl:l.length+m.length<=1000)(hbase:rb<=w.heap.size)(h:∀v' w',cG rb w w' v v' (l++m)->K (a.put o.dst v') w'):o.wp I a w K Q:=by
 by_cases h0:l++m=[];·obtain⟨rfl,rfl⟩:=List.append_eq_nil_iff.1 h0;have hv:=hown.2 rfl;obtain⟨xa,xc,rfl⟩:=hsrc.shape;obtain⟨i0,hi,hz0,hz1,hz2⟩:=info_parts RI;have hrun:=Vk (P:=I) (w:=w) rb 37 o.type 35 i0 4 Tryz.underlying37 hi (.slice W 0 0) 0 [] (World.ownsRow_nil _ _ _ _) xa xc;rw[hv]at hs;unfold Oper.wp;simp[execOp,ho,resolve,invoke,builtin,hs,hx,hrun,Result.andThen];rw[hv]at hown h;exact h _ w ⟨hown,KL.refl _,⟨rfl,rfl,rfl,tI _,fun _ _ _=>rfl⟩,fun _ e=>.inl e⟩
 ·refine jU s x ho rb v l hs hown.1 r2 u m hx hsrc (by omega) hbase fun v' w' h1 h2 h3=>h v' w' ⟨⟨h1,fun e=>absurd e h0⟩,KL.turn h2 hown.row,h2,h3⟩
end Go.Proofs.YtjnapechlkbfmaaGreatDoor
