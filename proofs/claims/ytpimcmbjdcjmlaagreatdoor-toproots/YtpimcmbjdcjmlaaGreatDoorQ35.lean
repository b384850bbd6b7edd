/-
  Texts of this proof, joined, with few blanks: SvLt, RqG, RgF.
-/
import Derived.OrdersHeld
import Derived.Test.YtpimcmbjdcjmlaaGreatDoorQ34
set_option maxRecDepth 100000
set_option maxHeartbeats 8000000
open Array renaming getElem?_eq_none->I,any_eq_true'->T,getElem?_setIfInBounds_ne->Y,setIfInBounds_comm->tB,all_eq_true_iff_forall_mem->tI,getElem?_eq_some_iff->tL,getElem?_eq_getElem->tN,size_setIfInBounds->tP
open Bool renaming true->A,and_eq_true->C,false->G,or_eq_true->tV
open Go renaming World->B,Value->F,Oper->J,yielded->tG,Operand->tM,undef->tY
open Go.Region renaming ready->D,binds->L,wanted->M,Mode->X,noSelect->tD,free->tJ,noSelect_spec->tR,free_spec->tS
open Go.World renaming grownBy->N
open List renaming getD_eq_getElem?_getD->z,getElem?_eq_some_iff->tA,getElem?_eq_getElem->tC,mem_range->tE,range->tH,all_eq_true->tK,pairwise_iff_getElem->tQ,count_eq_zero->tU,mem_cons->tW
open Nat renaming lt_or_ge->V,zero_add->tX
open Option renaming some->E,none->O
namespace Go.Proofs.YtpimcmbjdcjmlaaGreatDoor
open Go.RowKit
section
section
variable{P:Program}{ops:Array J}{Q:Exit->Act->B->Prop}{md:X}{S:B->Prop}{k:Nat}
def ZH(P:Program)(md:X)(ops:Array J)(Q:Exit->Act->B->Prop)(S:B->Prop)(k:Nat):Nat->Array Bool->Act->B->Prop|0,done,a,w=>D md ops done=[]∧Q .normal a w|n+1,done,a,w=>(D md ops done=[]->Q .normal a w)∧∀i∈D md ops done,wpOp P ops Q i (fun a' w'=>if i=k then wpAny P md ops Q n (done.setIfInBounds i A) a' w' else S w'∧ZH P md ops Q S k n (done.setIfInBounds i A) a' w') a w
theorem ZH.any:∀(n:Nat)(done:Array Bool)(a:Act)(w:B),ZH P md ops Q S k n done a w->wpAny P md ops Q n done a w|0,_,_,_,h=>h|n+1,done,_,_,h=>⟨h.1,fun i hi=>wpOp_mono (fun a' w' h'=>by by_cases e:i=k;(·rw[if_pos e]at h';exact h');·rw[if_neg e]at h';exact ZH.any n _ a' w' h'.2) (h.2 i hi)⟩
def Gk(md:X)(ops:Array J)(k i:Nat):Bool:=match ops[k]?with|E o=>o.after.any fun e=>L md e&&e.on==i|none=>G
def yT(md:X)(ops:Array J)(done:Array Bool):Prop:=∀j o,ops[j]?=E o->done.getD j A=A->∀e∈o.after,L md e=A->done.getD e.on G=A
def MJ(md:X)(ops:Array J)(done:Array Bool):Bool:=(tH ops.size).all fun j=>!done.getD j A||match ops[j]?with|E o=>o.after.all fun e=>!L md e||done.getD e.on G|none=>A
theorem IA{done:Array Bool}(h:MJ md ops done=A):yT md ops done:=fun j o ho hd e he hb=>by
 have hlt:j<ops.size:=(tL.1 ho).1;have h1:=tK.1 h j (tE.2 hlt);rw[hd,ho]at h1;simp only[Bool.not_true,Bool.false_or,tI]at h1;have h2:=h1 e he;rw[hb]at h2;simpa using h2
theorem yT.step{done:Array Bool}(h:yT md ops done){j:Nat}(hj:j∈D md ops done):yT md ops (done.setIfInBounds j A):=fun m o hm hd e he hb=>by
 by_cases q:j=m;·subst q;obtain⟨_,o',ho',hall⟩:=mem_ready.1 hj;rw[hm]at ho';cases ho';exact getD_set_true (hall e he hb)
 ·rw[getD_set_ne A q]at hd;exact getD_set_true (h m o hm hd e he hb)
def kK(md:X)(ops:Array J)(k:Nat):Nat->List Nat->Bool|i,[]=>Gk md ops k i|i,x::xs=>Gk md ops x i&&kK md ops k x xs
theorem MA{done:Array Bool}{i:Nat}(h:done.getD i A=G):done.getD i G≠A:=by
 rcases V i done.size with h'|h';·simp[h']at h⊢;exact h
 ·simp[I h']at h
theorem Pw{done:Array Bool}(hc:yT md ops done):∀(xs:List Nat)(i:Nat),kK md ops k i xs=A->done.getD i A=G->k∉D md ops done|[],i,hw,h0,hk=>by obtain⟨_,o,ho,hall⟩:=mem_ready.1 hk;rw[kK,Gk,ho]at hw;obtain⟨e,he,hb⟩:=T.1 hw;simp only[C,beq_iff_eq]at hb;have h1:=hall e he hb.1;rw[hb.2]at h1;exact MA h0 h1|x::xs,i,hw,h0,hk=>by rw[kK,C]at hw;refine Pw hc xs x hw.2 ?_ hk;cases hx:done.getD x A with|false=>rfl|true=>have hw1:=hw.1;rw[Gk]at hw1;cases ho:ops[x]?with|none=>rw[ho]at hw1;cases hw1|some o=>rw[ho]at hw1;obtain⟨e,he,hb⟩:=T.1 hw1;simp only[C,beq_iff_eq]at hb;have h1:=hc x o ho hx e he hb.1;rw[hb.2]at h1;exact absurd h1 (MA h0)
theorem SS{i:Nat}{oi:J}{v:F}(hi:ops[i]?=E oi)(hsel:∀(j:Nat)(o:J)cs b,ops[j]?=E o->o.op≠.select cs b)(hQ:∀c a w,Q (.panic c) (a.put oi.dst v) w->Q (.panic c) a w){xs:List Nat}(hw:kK md ops k i xs=A):∀(n:Nat)(done:Array Bool)(a:Act)(w:B),(∀j oj,ops[j]?=E oj->j≠i->done.getD j A=G->(∀e∈oj.after,L md e=A->e.on≠i)->oi.apart ops oj=A)->yT md ops done->i∈D md ops done->YieldsIf P ops S oi v a->S w->ZH P md ops Q S k n (done.setIfInBounds i A) (a.put oi.dst v) w->ZH P md ops Q S k (n+1) done a w:=by
 intro n;induction n with|zero=>intro done a w _ hcl hr hy hS H;refine⟨fun h=>absurd hr (by rw[h];simp),fun j hj=>?_⟩;have hjk:j≠k:=fun e=>Pw hcl xs i hw (mem_ready.1 hr).1 (e▸hj);by_cases e:j=i;(·subst e;refine hy.wpOp hi hS ?_;rw[if_neg hjk];exact⟨hS,H⟩);·have:=ready_mono hj e;rw[H.1]at this;cases this|succ n ih=>intro done a w hfree hcl hr hy hS H;refine⟨fun h=>absurd hr (by rw[h];simp),fun j hj=>?_⟩;have hjk:j≠k:=fun e=>Pw hcl xs i hw (mem_ready.1 hr).1 (e▸hj);by_cases e:j=i;(·subst e;refine hy.wpOp hi hS ?_;rw[if_neg hjk];exact⟨hS,H⟩);·have h1:=H.2 j (ready_mono hj e);obtain⟨hjun,oj,hoj,hall⟩:=mem_ready.1 hj;(have hnot:∀d∈oj.after,L md d=A->d.on≠i:=fun d hd hb hq=>by have h1:=hall d hd hb;have h0:=(mem_ready.1 hr).1;rw[hq]at h1;rcases V i done.size with h'|h';(·simp[h']at h0 h1;rw[h0]at h1;cases h1);·simp[I h']at h1);rw[show(fun a' w'=>if j=k then wpAny P md ops Q n ((done.setIfInBounds i A).setIfInBounds j A) a' w' else S w'∧ZH P md ops Q S k n ((done.setIfInBounds i A).setIfInBounds j A) a' w')=(fun a' w'=>S w'∧ZH P md ops Q S k n ((done.setIfInBounds i A).setIfInBounds j A) a' w')from funext fun a'=>funext fun w'=>if_neg hjk]at h1;have h2:=wpOp_putIf hoj (hfree j oj hoj e hjun hnot) (fun cs b=>hsel i oi cs b hi) (fun cs b=>hsel j oj cs b hoj) hQ hy h1;refine wpOp_mono (fun a' w' h3=>?_) h2;rw[if_neg hjk];refine⟨h3.2.1,ih (done.setIfInBounds j A) a' w' (fun m om hm hmi hun hno=>?_) (hcl.step hj) (ready_mono hr (Ne.symm e)) h3.1 h3.2.1 ?_⟩;(·refine hfree m om hm hmi ?_ hno;by_cases hq:j=m;(·subst hq;exact hjun);·rw[getD_set_ne A hq]at hun;exact hun);·rw[tB _ _ e];exact h3.2.2
theorem IR{i:Nat}{oi:J}{v:F}{n:Nat}{done:Array Bool}{a:Act}{w:B}(hi:ops[i]?=E oi)(hs:tD ops=A)(hf:tJ md ops done i=A)(hr:(D md ops done).contains i=A){xs:List Nat}(hcl:MJ md ops done=A)(hw:kK md ops k i xs=A)(hQ:∀c a w,Q (.panic c) (a.put oi.dst v) w->Q (.panic c) a w)(hS:S w)(hwa:M oi (tG ops a.tmps)=A)(hy:∀w,S w->(execOp a.eval oi).run P w=.ok (.value v) w)(h:ZH P md ops Q S k n (done.setIfInBounds i A) (a.put oi.dst v) w):ZH P md ops Q S k (n+1) done a w:=SS hi (tR hs) hQ hw n done a w (tS hi hf) (IA hcl) (by
 simpa using hr) (.inl ⟨hwa,hy⟩) hS h
theorem Yb(i:Nat)(xs:List Nat)(v:F){oi:J}{n:Nat}{done:Array Bool}{a:Act}{w:B}(hi:ops[i]?=E oi)(hS:S w)(hy:∀w,S w->(execOp a.eval oi).run P w=.ok (.value v) w)(h:ZH P md ops Q S k n (done.setIfInBounds i A) (a.put oi.dst v) w)(hs:tD ops=A:=by
 kernel_rfl)(hf:tJ md ops done i=A:=by
 kernel_rfl)(hr:(D md ops done).contains i=A:=by
 kernel_rfl)(hcl:MJ md ops done=A:=by
 kernel_rfl)(hw:kK md ops k i xs=A:=by
 kernel_rfl)(hQ:∀c a w,Q (.panic c) (a.put oi.dst v) w->Q (.panic c) a w:=by
 exact fun _ _ _ h=>h)(hwa:M oi (tG ops a.tmps)=A:=by
 kernel_rfl):ZH P md ops Q S k (n+1) done a w:=IR hi hs hf hr hcl hw hQ hS hwa hy h
theorem Sk{oi:J}{v:F}{a:Act}(h:YieldsIf P ops (fun _=>True) oi v a):Yields P ops oi v a:=h.imp (fun⟨hw,hv⟩=>⟨hw,fun w=>hv w trivial⟩) id
theorem Wm{i:Nat}{oi:J}{v:F}(hi:ops[i]?=E oi)(hsel:∀(j:Nat)(o:J)cs b,ops[j]?=E o->o.op≠.select cs b)(hQ:∀c a w,Q (.panic c) (a.put oi.dst v) w->Q (.panic c) a w)(hik:i≠k):∀(n:Nat)(done:Array Bool)(a:Act)(w:B),(∀j oj,ops[j]?=E oj->j≠i->done.getD j A=G->(∀e∈oj.after,L md e=A->e.on≠i)->oi.apart ops oj=A)->i∈D md ops done->YieldsIf P ops (fun _=>True) oi v a->S w->ZH P md ops Q S k n (done.setIfInBounds i A) (a.put oi.dst v) w->ZH P md ops Q S k (n+1) done a w:=by
 intro n;induction n with|zero=>intro done a w _ hr hy hS H;refine⟨fun h=>absurd hr (by rw[h];simp),fun j hj=>?_⟩;by_cases e:j=i;(·subst e;refine hy.wpOp hi trivial ?_;rw[if_neg hik];exact⟨hS,H⟩);·have:=ready_mono hj e;rw[H.1]at this;cases this|succ n ih=>intro done a w hfree hr hy hS H;refine⟨fun h=>absurd hr (by rw[h];simp),fun j hj=>?_⟩;by_cases e:j=i;(·subst e;refine hy.wpOp hi trivial ?_;rw[if_neg hik];exact⟨hS,H⟩);·have h1:=H.2 j (ready_mono hj e);obtain⟨hjun,oj,hoj,hall⟩:=mem_ready.1 hj;(have hnot:∀d∈oj.after,L md d=A->d.on≠i:=fun d hd hb hq=>by have h1:=hall d hd hb;rw[hq]at h1;exact MA (mem_ready.1 hr).1 h1);(have hfree':∀m om,ops[m]?=E om->m≠i->(done.setIfInBounds j A).getD m A=G->(∀e∈om.after,L md e=A->e.on≠i)->oi.apart ops om=A:=fun m om hm hmi hun hno=>by refine hfree m om hm hmi ?_ hno;by_cases hq:j=m;(·subst hq;exact hjun);·rw[getD_set_ne A hq]at hun;exact hun);have h2:=wpOp_putIf hoj (hfree j oj hoj e hjun hnot) (fun cs b=>hsel i oi cs b hi) (fun cs b=>hsel j oj cs b hoj) hQ hy h1;refine wpOp_mono (fun a' w' h3=>?_) h2;by_cases hjk:j=k;(·have h4:=h3.2;rw[if_pos hjk]at h4⊢;refine wpAny_first hi hsel hQ n (done.setIfInBounds j A) a' w' hfree' (ready_mono hr (Ne.symm e)) (Sk h3.1) ?_;rw[tB _ _ e];exact h4);·have h4:=h3.2;rw[if_neg hjk]at h4⊢;refine⟨h4.1,ih (done.setIfInBounds j A) a' w' hfree' (ready_mono hr (Ne.symm e)) h3.1 h4.1 ?_⟩;rw[tB _ _ e];exact h4.2
theorem Av{i:Nat}{oi:J}{v:F}{n:Nat}{done:Array Bool}{a:Act}{w:B}(hi:ops[i]?=E oi)(hs:tD ops=A)(hf:tJ md ops done i=A)(hr:(D md ops done).contains i=A)(hik:i≠k)(hQ:∀c a w,Q (.panic c) (a.put oi.dst v) w->Q (.panic c) a w)(hS:S w)(hwa:M oi (tG ops a.tmps)=A)(hy:∀w,(execOp a.eval oi).run P w=.ok (.value v) w)(h:ZH P md ops Q S k n (done.setIfInBounds i A) (a.put oi.dst v) w):ZH P md ops Q S k (n+1) done a w:=Wm hi (tR hs) hQ hik n done a w (tS hi hf) (by
 simpa using hr) (.inl ⟨hwa,fun w _=>hy w⟩) hS h
theorem Gl(i:Nat)(v:F){oi:J}{n:Nat}{done:Array Bool}{a:Act}{w:B}(hi:ops[i]?=E oi)(hS:S w)(hy:∀w,(execOp a.eval oi).run P w=.ok (.value v) w)(h:ZH P md ops Q S k n (done.setIfInBounds i A) (a.put oi.dst v) w)(hs:tD ops=A:=by
 kernel_rfl)(hf:tJ md ops done i=A:=by
 kernel_rfl)(hr:(D md ops done).contains i=A:=by
 kernel_rfl)(hik:i≠k:=by
 decide)(hQ:∀c a w,Q (.panic c) (a.put oi.dst v) w->Q (.panic c) a w:=by
 exact fun _ _ _ h=>h)(hwa:M oi (tG ops a.tmps)=A:=by
 kernel_rfl):ZH P md ops Q S k (n+1) done a w:=Av hi hs hf hr hik hQ hS hwa hy h
def Zb(P:Program)(md:X)(ops:Array J)(Q:Exit->Act->B->Prop)(S:B->Prop)(k n:Nat)(done:Array Bool)(a:Act)(w:B)(rs:List Nat):Prop:=∀i∈rs,wpOp P ops Q i (fun a' w'=>if i=k then wpAny P md ops Q n (done.setIfInBounds i A) a' w' else S w'∧ZH P md ops Q S k n (done.setIfInBounds i A) a' w') a w
theorem Zb.nil{n:Nat}{done:Array Bool}{a:Act}{w:B}:Zb P md ops Q S k n done a w []:=fun _ h=>by
 cases h
theorem Zb.cons{n:Nat}{done:Array Bool}{a:Act}{w:B}{i:Nat}{o:J}{rs:List Nat}(ho:ops[i]?=E o)(hk:i≠k)(h:∀K':Act->B->Prop,(∀a w,S w->ZH P md ops Q S k n (done.setIfInBounds i A) a w->K' a w)->if M o (tG ops a.tmps)=A then Oper.wp P o a w K' Q else K' (a.put o.dst tY) w)(hs:Zb P md ops Q S k n done a w rs):Zb P md ops Q S k n done a w (i::rs):=fun j hj=>by
 rcases tW.1 hj with rfl|hj;·refine wpOp_step ho (fun K' hK=>h K' (fun a w hS hW=>hK a w ?_));rw[if_neg hk];exact⟨hS,hW⟩
 ·exact hs j hj
theorem SI{rs:List Nat}{n:Nat}{done:Array Bool}{a:Act}{w:B}(hr:D md ops done=rs)(hne:rs≠[])(h:Zb P md ops Q S k n done a w rs):ZH P md ops Q S k (n+1) done a w:=⟨fun h0=>absurd (hr▸h0) hne,hr▸h⟩
theorem KO(rs:List Nat){n:Nat}{done:Array Bool}{a:Act}{w:B}(h:Zb P md ops Q S k n done a w rs)(hr:D md ops done=rs:=by
 kernel_rfl)(hne:rs≠[]:=by
 simp):ZH P md ops Q S k (n+1) done a w:=SI hr hne h
theorem UF{n:Nat}{done:Array Bool}{a:Act}{w:B}(hr:D md ops done=[k]){o:J}(ho:ops[k]?=E o)(h:∀K':Act->B->Prop,(∀a w,wpAny P md ops Q n (done.setIfInBounds k A) a w->K' a w)->if M o (tG ops a.tmps)=A then Oper.wp P o a w K' Q else K' (a.put o.dst tY) w):ZH P md ops Q S k (n+1) done a w:=by
 refine⟨fun h0=>(by rw[hr]at h0;cases h0),fun i hi=>?_⟩;rw[hr]at hi;obtain rfl:i=k:=by simpa using hi
 refine wpOp_step ho (fun K' hK=>h K' (fun a w hW=>hK a w ?_));rw[if_pos rfl];exact hW
end
end
theorem Tp.turn{w w':B}{g:Nat}{cs:Array F}{t:TypeId}{fz:Nat×Nat}(h:N w w' (E g))(hb:w.heap[g]?=E (.cells cs t fz))(ht:VW t)(h0:∀q,cs[0]?≠E (.int .u8 q)):Tp 0 w w':=⟨h.os,h.tape,h.output,h.size,fun i hi hs=>h.block i hi (fun e=>by
 cases e;rcases hs with hs|hs;·omega
 ·rcases hs _ _ _ hb with h|⟨q,h⟩;(·exact h ht);·exact h0 q h)⟩
def Lz(w:B)(cs:List F)(r:Rq):Prop:=∃vn vk vl vv,cs=[.int .i64 r.kind,vn,vk,vl,vv]∧Qf 0 w vn r.name∧Qf 0 w vk r.key∧Qf 0 w vl r.last∧Qf 0 w vv r.value
theorem Lz.is{w:B}{cs:List F}{r:Rq}(h:Lz w cs r):K9 w (.agg cs.toArray) r:=by
 obtain⟨_,_,_,_,rfl,h1,h2,h3,h4⟩:=h;exact⟨_,_,_,_,rfl,h1.1,h2.1,h3.1,h4.1⟩
theorem Lz.still{w:B}{cs:List F}{r:Rq}(h:Lz w cs r):Za 0 w (fun w=>Lz w cs r):=fun w' k=>by
 obtain⟨_,_,_,_,rfl,h1,h2,h3,h4⟩:=h;exact⟨_,_,_,_,rfl,Zg h1 w' k,Zg h2 w' k,Zg h3 w' k,Zg h4 w' k⟩
def Xc(rb:Nat)(w:B)(v:F)(l:List Rq):Prop:=X6 27 5 Lz rb w v l
theorem Sh:VW 27:=by
 simp[VW,Vo]
theorem ET(rb:Nat)(w:B):Xc rb w (.slice O 0 0) []:=yB _ _ _ _ _
theorem Xc.grown{rb:Nat}{w w':B}{v:F}{l:List Rq}(h:Xc rb w v l)(hg:N w w' O):Xc rb w' v l:=X6.grown h hg
theorem Xc.shape{rb:Nat}{w:B}{v:F}{l:List Rq}(h:Xc rb w v l):∃a cap,v=.slice a l.length cap:=X6.shape h
theorem Xc.turn{rb:Nat}{w w':B}{v:F}{l:List Rq}(h:Xc rb w v l)(hg:N w w' v.ownBlock):Tp 0 w w':=by
 rcases X6.blk (by decide) h with e|⟨g,cs,e,_,hc,h0⟩;·rw[e]at hg;exact Tp.grown hg
 ·rw[e]at hg;exact Tp.turn hg hc Sh h0
theorem Xc.aside{rb rc:Nat}{w w':B}{v u:F}{l m:List Rq}(h:Xc rb w v l)(hu:Xc rc w u m)(hg:N w w' u.ownBlock)(hl:∀g,v.ownBlock=E g->g<rc):Xc rb w' v l:=X6.kept2 h (hu.turn hg) fun g e=>hg.block g (X6.lt h g e).2 fun e2=>by
 have h1:=(X6.lt hu g e2.symm).1;have h2:=hl g e;omega
theorem yC{rb:Nat}{w W w1:B}{v:F}{l:List Rq}(h:N w W O)(ho:Xc rb W v l)(hb:w.heap.size<=rb)(hg:N W w1 v.ownBlock):N w w1 O:=by
 refine⟨hg.os.trans h.os,hg.tape.trans h.tape,hg.output.trans h.output,Nat.le_trans h.size hg.size,fun i hi hn=>?_⟩;rw[hg.block i (Nat.lt_of_lt_of_le hi h.size) fun e=>by have:=(X6.lt ho i e.symm).1;omega];exact h.block i hi hn
theorem lE:(Tryz.prog.info? 27).map (fun i=>(i.zero,i.size,i.bytes))=E (E (.agg #[.int .i64 0,.slice O 0 0,.slice O 0 0,.slice O 0 0,.slice O 0 0]),5,104):=by
 kernel_rfl
theorem Ms{w:B}{o:J}{a:Act}{K:Act->B->Prop}{Q:Exit->Act->B->Prop}(s x:tM)(ho:o.op=.call {callee:=.builtin .append,args:=#[s,x],argTypes:=#[24,24]})(rb:Nat)(v:F)(l:List Rq)(hs:a.eval s=v)(hown:Xc rb w v l)(nb:Nat)(y0 y1 y2 y3 y4:F)(r:Rq)(hx:a.eval x=.slice (E ⟨nb,0,O⟩) 1 1)(hb:w.heap[nb]?=E (.cells #[y0,y1,y2,y3,y4] 27))(hq:Lz w [y0,y1,y2,y3,y4] r)(hl:l.length<=1000)(hbase:rb<=w.heap.size)(h:∀v' w',Xc rb w' v' (l++[r])->N w w' v.ownBlock->K (a.put o.dst v') w'):o.wp Tryz.prog a w K Q:=by
 obtain⟨i0,hi,hz0,hz1,hz2⟩:=info_parts lE;have hown0:=hown;obtain⟨us,e1,h2,h3,h4⟩:=hown;have hcl:∀u∈[y0,y1,y2,y3,y4],u.oneCell'=A:=fun u hu=>by obtain⟨vn,vk,vl,vv,e,h1,h2,h3,h4⟩:=hq;rw[e]at hu;simp only[tW,List.not_mem_nil,or_false]at hu;rcases hu with rfl|rfl|rfl|rfl|rfl;(·rfl);(·exact Zc h1);(·exact Zc h2);(·exact Zc h3);·exact Zc h4
 refine wp_append_lies w s x 24 ho rb 27 i0 _ 5 104 Tryz.underlying24 hi hz0 hz1 hz2 rfl (by decide) v l.length (us.flatMap (·.1)) hs h2 ⟨nb,0,O⟩ 1 1 [y0,y1,y2,y3,y4] hx rfl (fun j u hj=>by rw[ZX,tX];exact xG hb j u hj) hcl (by decide) (by unfold maxLen;omega) (by omega) hbase _ rfl ?_;intro g cap w' hr hg hgg hlt;have hk:=hown0.turn hg;refine h _ w' ⟨us++[([y0,y1,y2,y3,y4],r)],by simp[e1],?_,fun e=>by simp at e,fun x hx=>?_⟩ hg;·simpa[List.flatMap_append]using hr
 ·rcases List.mem_append.1 hx with hx|hx;(·exact⟨(h4 x hx).1,(h4 x hx).2.1,(h4 x hx).2.2.1,(h4 x hx).2.2.2.later2 hk⟩);·(obtain rfl:x=([y0,y1,y2,y3,y4],r):=by simpa using hx);refine⟨rfl,hcl,fun q hq'=>?_,hq.still.later2 hk⟩;obtain⟨vn,vk,vl,vv,e,_⟩:=hq;rw[e]at hq';simp at hq'
theorem Xc.at{rb:Nat}{w:B}{v:F}{l:List Rq}(h:Xc rb w v l)(i:Nat)(hi:i<l.length)(d:Rq):∃g cap vn vk vl vv,v=.slice (E ⟨g,0,O⟩) l.length cap∧w.cell? ⟨g,i*5,O⟩=E (.int .i64 (l.getD i d).kind)∧w.cell? ⟨g,i*5+1,O⟩=E vn∧w.cell? ⟨g,i*5+2,O⟩=E vk∧w.cell? ⟨g,i*5+3,O⟩=E vl∧w.cell? ⟨g,i*5+4,O⟩=E vv∧Qf 0 w vn (l.getD i d).name∧Qf 0 w vk (l.getD i d).key∧Qf 0 w vl (l.getD i d).last∧Qf 0 w vv (l.getD i d).value:=by
 obtain⟨g,cap,cs,rfl,_,_,hc,hp⟩:=X6.at h d i hi;obtain⟨vn,vk,vl,vv,rfl,h1,h2,h3,h4⟩:=hp.now;exact⟨g,cap,vn,vk,vl,vv,rfl,hc 0 (by decide),hc 1 (by decide),hc 2 (by decide),hc 3 (by decide),hc 4 (by decide),h1,h2,h3,h4⟩
section
structure SP where
  p : F -> B -> Prop
  st : ∀ v w w', N w w' O -> p v w -> p v w'
def SP.any:SP:=⟨fun _ _=>True,fun _ _ _ _ _=>trivial⟩
def SP.eq(c:F):SP:=⟨fun v _=>v=c,fun _ _ _ _ h=>h⟩
section
variable{P:Program}{Q:Exit->Act->B->Prop}{l:List J}
def Pp(f:Nat->F)(ts:List Nat)(a:Act):Act:=ts.foldl (fun a t=>a.put (E t) (f t)) a
theorem Nu(f:Nat->F):∀(ts:List Nat)(a:Act),(Pp f ts a).tmps.size=a.tmps.size|[],_=>rfl|t::ts,a=>by show(Pp f ts (a.put (E t) (f t))).tmps.size=_;rw[Nu f ts];simp[Act.put]
theorem Fd(f:Nat->F):∀(ts:List Nat)(a:Act),(Pp f ts a).defers=a.defers|[],_=>rfl|t::ts,a=>by show(Pp f ts (a.put (E t) (f t))).defers=_;rw[Fd f ts];rfl
theorem L7(f:Nat->F):∀(ts:List Nat)(a:Act)(t:Nat),t<a.tmps.size->(Pp f ts a).tmps[t]?=if t∈ts then E (f t)else a.tmps[t]?|[],_,_,_=>by simp[Pp]|s::ts,a,t,h=>by show(Pp f ts (a.put (E s) (f s))).tmps[t]?=_;rw[L7 f ts _ t (by simpa[Act.put]using h)];by_cases h1:t∈ts;(·rw[if_pos h1,if_pos (List.mem_cons_of_mem _ h1)]);·rw[if_neg h1];by_cases h2:t=s;(·subst h2;rw[if_pos List.mem_cons_self];simp[Act.put,h]);·rw[if_neg (by simp[h1,h2])];simp only[Act.put];rw[Y (fun e=>h2 e.symm)]
def GG(P:Program)(o:J)(ev:tM->F)(w:B)(R:F->B->Prop):Prop:=match(execOp ev o).run P w with|.ok (.value v) w'=>R v w'|.ok (.enter f args) w'=>Calls P f args w' (fun e w''=>∃v,e=.returned v∧R v w'')|_=>False
theorem GG.val{o:J}{ev:tM->F}{w w':B}{v:F}{R:F->B->Prop}(h:(execOp ev o).run P w=.ok (.value v) w')(hr:R v w'):GG P o ev w R:=by
 unfold GG;rw[h];exact hr
theorem GG.call{o:J}{ev:tM->F}{w w':B}{f:Nat}{args:Array F}{R:F->B->Prop}(h:(execOp ev o).run P w=.ok (.enter f args) w')(hr:Calls P f args w' (fun e w''=>∃v,e=.returned v∧R v w'')):GG P o ev w R:=by
 unfold GG;rw[h];exact hr
theorem GG.wp{o:J}{a:Act}{w:B}{R:F->B->Prop}{K:Act->B->Prop}(h:GG P o a.eval w R)(hk:∀v w',R v w'->K (a.put o.dst v) w'):o.wp P a w K Q:=by
 unfold GG at h;unfold Oper.wp;generalize(execOp a.eval o).run P w=r at h;cases r with|ok n w'=>(cases n with|value v=>exact hk _ _ h|enter f args=>refine Calls.mono h ?_;rintro e w''⟨v,rfl,hr⟩;exact hk _ _ hr|_=>exact h.elim)|halt x w'=>exact h.elim
def mA(P:Program)(l:List J)(ts:List Nat)(Fs:List SP)(W0:B)(a0:Act)(i:Nat)(o:J):Prop:=∀(ev:tM->F)(w:B),(∀v,ev (.const v)=v)->(∀g,ev (.global g)=.pointer (E ⟨g,0,O⟩))->(∀f,ev (.func f)=.func (.func f) #[] #[])->(∀t,t∉ts->ev (.tmp t)=a0.eval (.tmp t))->(∀j,j<ts.length->Gk .any l.toArray i j=A->(Fs.getD j SP.any).p (ev (.tmp (ts.getD j 0))) w)->N W0 w O->(∀g b,o.guard=E (g,b)->ev (.tmp (ts.getD g 0))=.bool b)∧GG P o ev w (fun v w'=>N w w' O∧(Fs.getD i SP.any).p v w')
theorem un{P:Program}{o:J}{ev:tM->F}{w:B}{R:F->B->Prop}{ts:List Nat}(h:GG P o ev w R)(hg:o.guard=O:=by
 rfl):(∀g b,o.guard=E (g,b)->ev (.tmp (ts.getD g 0))=.bool b)∧GG P o ev w R:=⟨fun g b e=>(by
 rw[hg]at e;cases e),h⟩
def Rb(P:Program)(l:List J)(ts:List Nat)(Fs:List SP)(W0:B)(a0:Act):Nat->Nat->List J->Prop|0,_,_=>True|_+1,_,[]=>True|m+1,i,o::os=>mA P l ts Fs W0 a0 i o∧Rb P l ts Fs W0 a0 m (i+1) os
theorem Rb.at{ts:List Nat}{Fs:List SP}{W0:B}{a0:Act}:∀(m i:Nat)(os:List J),Rb P l ts Fs W0 a0 m i os->∀j o,j<m->os[j]?=E o->mA P l ts Fs W0 a0 (i+j) o|0,_,_,_,_,_,h,_=>absurd h (Nat.not_lt_zero _)|_+1,_,[],_,_,_,_,h=>by simp at h|m+1,i,o::os,h,0,o',_,e=>by(obtain rfl:o=o':=by simpa using e);exact h.1|m+1,i,o::os,h,j+1,o',hj,e=>by have:=Rb.at m (i+1) os h.2 j o' (by omega) (by simpa using e);rwa[show i+(j+1)=i+1+j by omega]
def Mp(ops:Array J):Nat->Nat->Nat->Bool|0,_,_=>G|n+1,i,j=>match ops[i]?with|E o=>o.after.any fun e=>L .any e&&(e.on==j||Mp ops n e.on j)|none=>G
theorem Eb{ops:Array J}{done:Array Bool}(hc:yT .any ops done):∀(n i j:Nat),Mp ops n i j=A->(∀o,ops[i]?=E o->∀e∈o.after,L .any e=A->done.getD e.on G=A)->done.getD j G=A|0,_,_,h,_=>by cases h|n+1,i,j,h,hi=>by rw[Mp]at h;cases ho:ops[i]?with|none=>rw[ho]at h;cases h|some o=>rw[ho]at h;obtain⟨e,he,hb⟩:=T.1 h;simp only[C,tV,beq_iff_eq]at hb;have h1:=hi o ho e he hb.1;rcases hb.2with h2|h2;(·rw[<-h2];exact h1);·refine Eb hc n e.on j h2 fun o' ho' e' he' hb'=>hc e.on o' ho' ?_ e' he' hb';(have hlt:e.on<done.size:=by rcases V e.on done.size with h|h;(·exact h);·simp[I h]at h1);simpa[hlt]using h1
def LH(l:List J)(ts:List Nat)(size:Nat):Bool:=(tH l.length).all (fun i=>match l[i]?with|E o=>(o.after.all fun e=>decide (e.on<i))&&(if i<ts.length then(o.dst==E (ts.getD i 0))&&(match o.guard with|none=>A|E (g,_)=>decide (g<i))&&decide (ts.getD i 0<size)else((tH l.length).any fun j=>decide (ts.length<=j)&&Gk .any l.toArray i j)||((tH ts.length).all fun j=>Mp l.toArray l.length i j))|none=>A)&&decide ts.Nodup&&decide (ts.length<=l.length)
structure mW (l : List J) (ts : List Nat) (Fs : List SP) (W0 : B) (a0 : Act) (n : Nat) (done : Array Bool) (a : Act) (w : B) : Prop where
  size : done.size = l.length
  count : done.toList.count G = n
  closed : yT .any l.toArray done
  late : ∀ j, ts.length <= j -> done.getD j G = G
  good : N W0 w O
  asize : a.tmps.size = a0.tmps.size
  defers : a.defers = a0.defers
  base : ∀ t, t ∉ ts -> a.tmps[t]? = a0.tmps[t]?
  fact : ∀ j, j < ts.length -> done.getD j G = A -> (Fs.getD j SP.any).p (a.eval (.tmp (ts.getD j 0))) w
def Km(n m:Nat):Array Bool:=((tH n).map fun j=>decide (j<m)).toArray
theorem Rn:∀n k,k<=n->(Km n k).toList.count G=n-k|0,k,h=>by simp[Km]|n+1,k,h=>by(have e:(Km (n+1) k).toList=(Km n k).toList++[decide (n<k)]:=by simp[Km,List.range_succ]);rw[e,List.count_append];by_cases hk:k<=n;(·rw[Rn n k hk];simp[Nat.not_lt.2 hk];omega);·(obtain rfl:k=n+1:=by omega);(have:(Km n (n+1)).toList.count G=0:=by rw[tU];simp only[Km,List.mem_map,tE,decide_eq_false_iff_not,not_exists,not_and,Decidable.not_not];intro x hx;omega);rw[this];simp
theorem qV(a:Act)(t:Nat):a.eval (.tmp t)=(a.tmps[t]?).getD tY:=by
 simp[Act.eval]
theorem Wy{done:Array Bool}{i n:Nat}(h:done.getD i A=G)(hc:done.toList.count G=n+1):(done.setIfInBounds i A).toList.count G=n:=by
 have hlt:i<done.size:=by rcases V i done.size with h'|h';(·exact h');·simp[I h']at h
 have hi:done.toList[i]'(by simpa using hlt)=G:=by simpa[hlt]using h
 rw[Array.toList_setIfInBounds,List.count_set (by simpa using hlt),hi,hc];simp
theorem fJ:∀{x y:Act},x.tmps=y.tmps->x.defers=y.defers->x=y:=fun{x y}h1 h2=>by
 cases x;cases y;cases h1;cases h2;rfl
theorem Wz(p:Nat->Bool):∀n,p n=G->∃k,k<=n∧p k=G∧∀j,j<k->p j=A:=fun n=>by
 induction n using Nat.strongRecOn with|ind n ih=>intro h;by_cases hx:∃j,j<n∧p j=G;(·obtain⟨j,hj,hp⟩:=hx;obtain⟨k,h1,h2,h3⟩:=ih j hj hp;exact⟨k,by omega,h2,h3⟩);·exact⟨n,Nat.le_refl _,h,fun j hj=>by cases e:p j with|true=>rfl|false=>exact absurd ⟨j,hj,e⟩ hx⟩
theorem dB{ts:List Nat}{Fs:List SP}{W0:B}{a0:Act}{n:Nat}{done:Array Bool}{a:Act}{w:B}(S:mW l ts Fs W0 a0 n done a w)(hall:∀j,j<ts.length->done.getD j G=A)(hend:∀(f:Nat->F)(w:B),N W0 w O->(∀j,j<ts.length->(Fs.getD j SP.any).p (f (ts.getD j 0)) w)->wpAny P .any l.toArray Q ((Km l.length ts.length).toList.count G) (Km l.length ts.length) (Pp f ts a0) w):wpAny P .any l.toArray Q n done a w:=by
 have hd:done=Km l.length ts.length:=by refine Array.ext (by simp[Km,S.size]) fun j h1 h2=>?_;simp only[Km,List.getElem_toArray,List.getElem_map,List.getElem_range];by_cases hj:j<ts.length;(·have:=hall j hj;simp[h1]at this;simp[this,hj]);·have:=S.late j (by omega);simp[h1]at this;simp[this,hj]
 have ha:a=Pp (fun t=>a.eval (.tmp t)) ts a0:=by refine fJ (Array.ext_getElem? fun t=>?_) (by rw[Fd];exact S.defers);rcases V t a0.tmps.size with ht|ht;(·rw[L7 _ _ _ _ ht];by_cases hm:t∈ts;(·rw[if_pos hm,qV];(have ht':t<a.tmps.size:=by rw[S.asize];exact ht);simp[ht']);·rw[if_neg hm];exact S.base t hm);·rw[I (by rw[S.asize];exact ht),I (by rw[Nu];exact ht)]
 have hn:=S.count;subst hd;rw[<-hn,ha];exact hend _ w S.good fun j hj=>S.fact j hj (hall j hj)
theorem mJ{ts:List Nat}{Fs:List SP}{W0:B}{a0:Act}(hf:LH l ts a0.tmps.size=A)(hops:Rb P l ts Fs W0 a0 ts.length 0 l)(hend:∀(f:Nat->F)(w:B),N W0 w O->(∀j,j<ts.length->(Fs.getD j SP.any).p (f (ts.getD j 0)) w)->wpAny P .any l.toArray Q ((Km l.length ts.length).toList.count G) (Km l.length ts.length) (Pp f ts a0) w):∀(n:Nat)(done:Array Bool)(a:Act)(w:B),mW l ts Fs W0 a0 n done a w->wpAny P .any l.toArray Q n done a w:=by
 simp only[LH,C,decide_eq_true_eq,tK,tE]at hf;obtain⟨⟨hform,hnd⟩,hml⟩:=hf;have hlow:∀(i:Nat)(o:J),l[i]?=E o->∀e∈o.after,e.on<i:=fun i o ho e he=>by have h:=hform i (tA.1 ho).1;rw[ho]at h;simp only[C,tI,decide_eq_true_eq]at h;exact h.1 e he
 have hear:∀(i:Nat)(o:J),i<ts.length->l[i]?=E o->o.dst=E (ts.getD i 0)∧(∀g b,o.guard=E (g,b)->g<i)∧ts.getD i 0<a0.tmps.size:=fun i o hi ho=>by have h:=hform i (tA.1 ho).1;rw[ho]at h;simp only[C]at h;have h:=h.2;rw[if_pos hi]at h;simp only[C,beq_iff_eq,decide_eq_true_eq]at h;refine⟨h.1.1,fun g b e=>?_,h.2⟩;have h2:=h.1.2;rw[e]at h2;simpa using h2
 intro n;induction n with|zero=>intro done a w S;by_cases hall:∀j,j<ts.length->done.getD j G=A;(·exact dB S hall hend);(·exfalso;refine hall fun j hj=>?_;have h0:=tU.1 S.count;(have hlt:j<done.size:=by rw[S.size];omega);cases e:done[j]with|true=>simp[hlt,e]|false=>exact absurd (by rw[<-e];exact Array.getElem_mem_toList hlt) h0)|succ n ih=>intro done a w S;by_cases hall:∀j,j<ts.length->done.getD j G=A;(·exact dB S hall hend);·(have hun:∃j,j<ts.length∧done.getD j G=G:=by refine Classical.byContradiction fun hc=>hall fun j hj=>?_;cases e:done.getD j G with|true=>rfl|false=>exact absurd ⟨j,hj,e⟩ hc);obtain⟨j0,hj0,hd0⟩:=hun;obtain⟨k,hk,hdk,hbef⟩:=Wz (fun j=>done.getD j G) j0 hd0;(have hkl:k<l.length:=by omega);have hkr:k∈D .any l.toArray done:=mem_ready.2 ⟨by(have hlt:k<done.size:=by rw[S.size];exact hkl);simpa[hlt]using hdk,l[k],by simp[hkl],fun e he _=>hbef _ (hlow k l[k] (by simp[hkl]) e he)⟩;refine⟨fun h=>(by rw[h]at hkr;cases hkr),fun i hi=>?_⟩;obtain⟨hiu,o,ho,hdep⟩:=mem_ready.1 hi;(have ho':l[i]?=E o:=by simpa using ho);have hil:i<l.length:=(tA.1 ho').1;by_cases him:i<ts.length;(·obtain⟨h1,h2,h3⟩:=hear i o him ho';refine wpOp_step ho fun K hK=>?_;have hO:=Rb.at ts.length 0 l hops i o him ho';rw[tX]at hO;obtain⟨hgd,hr⟩:=hO a.eval w (fun _=>rfl) (fun _=>rfl) (fun _=>rfl) (fun t ht=>by rw[qV,qV,S.base t ht]) (fun j hj hw=>by refine S.fact j hj ?_;rw[Gk,ho]at hw;obtain⟨e,he,hb⟩:=T.1 hw;simp only[C,beq_iff_eq]at hb;rw[<-hb.2];exact hdep e he hb.1) S.good;rw[if_pos (by cases hg:o.guard with|none=>simp[M,hg]|some p=>obtain⟨g,b⟩:=p;have hgi:=h2 g b hg;have hv:=hgd g b hg;obtain⟨o2,ho2⟩:∃o2,l[g]?=E o2:=⟨l[g],by simp⟩;obtain⟨k1,_,k3⟩:=hear g o2 (by omega) ho2;(have hlt:ts.getD g 0<a.tmps.size:=by rw[S.asize];exact k3);(have hy:tG l.toArray a.tmps g=E b:=by generalize ts.getD g 0=q at k1 hlt hv;(have ht:a.tmps[q]?=E (.bool b):=by rw[qV,tN hlt]at hv;rw[tN hlt,<-hv];rfl);simp[tG,ho2,k1,ht]);simp[M,hg,hy])];refine hr.wp fun v w' hv=>hK _ _ (ih _ _ _ ?_);rw[h1];(have hia:ts.getD i 0<a.tmps.size:=by rw[S.asize];exact h3);refine⟨by rw[tP];exact S.size,Wy hiu S.count,S.closed.step hi,fun j hj=>?_,Qa S.good hv.1,?_,S.defers,fun t ht=>?_,fun j hj hd=>?_⟩;(·rw[getD_set_ne G (by omega)];exact S.late j hj);(·show(a.tmps.setIfInBounds _ _).size=_;rw[tP];exact S.asize);(·have hne:ts.getD i 0≠t:=fun e=>ht (by rw[<-e,z,tC him];exact List.getElem_mem him);show(a.tmps.setIfInBounds _ _)[t]?=_;rw[Y hne];exact S.base t ht);·by_cases e:i=j;(·subst e;(have:(a.put (E (ts.getD i 0)) v).eval (.tmp (ts.getD i 0))=v:=by generalize ts.getD i 0=q at hia⊢;rw[qV];simp[Act.put,hia]);rw[this];exact hv.2);·have hne:ts.getD i 0≠ts.getD j 0:=fun he=>(by rw[z,z,tC him,tC hj]at he;(have he:ts[i]=ts[j]:=by simpa using he);rcases Nat.lt_or_gt_of_ne e with h|h;(·exact absurd he (tQ.1 hnd i j him hj h));·exact absurd he.symm (tQ.1 hnd j i hj him h));(have:(a.put (E (ts.getD i 0)) v).eval (.tmp (ts.getD j 0))=a.eval (.tmp (ts.getD j 0)):=by rw[qV,qV];show((a.tmps.setIfInBounds _ _)[ts.getD j 0]?).getD tY=_;rw[Y hne]);rw[this];rw[getD_set_ne G e]at hd;exact(Fs.getD j SP.any).st _ _ _ hv.1 (S.fact j hj hd));·exfalso;have h:=hform i hil;rw[ho']at h;simp only[C]at h;have h:=h.2;rw[if_neg him,tV,List.any_eq_true,tK]at h;rcases h with⟨j,hj,hb⟩|hb;(·simp only[C,decide_eq_true_eq]at hb;have hw:=hb.2;rw[Gk,ho]at hw;obtain⟨e,he,hbb⟩:=T.1 hw;simp only[C,beq_iff_eq]at hbb;have:=hdep e he hbb.1;rw[hbb.2,S.late j hb.1]at this;cases this);·refine hall fun j hj=>Eb S.closed _ i j (hb j (tE.2 hj)) fun o2 ho2 e he hbe=>?_;rw[ho]at ho2;cases ho2;exact hdep e he hbe
theorem zS(n k:Nat){id:Nat}{ts:List Nat}{Fs:List SP}{a0:Act}{w:B}(hm:P.follows .mixedOrders=A)(hf:LH l ts a0.tmps.size=A)(hn:l.length=n)(hk:ts.length=k)(hops:Rb P l ts Fs w a0 ts.length 0 l)(hend:∀(f:Nat->F)(w':B),N w w' O->(∀j,j<k->(Fs.getD j SP.any).p (f (ts.getD j 0)) w')->wpAny P .any l.toArray Q (n-k) (Km n k) (Pp f ts a0) w'):(Code.region id l.toArray A).wp P Q a0 w:=by
 subst hn hk;have hml:ts.length<=l.length:=by simp only[LH,C,decide_eq_true_eq]at hf;exact hf.2
 have hc:(Km l.length ts.length).toList.count G=l.length-ts.length:=Rn _ _ hml;refine wp_region_any hm (mJ hf hops (by rw[hc];exact hend) _ _ _ _ ⟨by simp,by simp,?_,fun j _=>?_,Ql (Qb _ _),rfl,rfl,fun _ _=>rfl,fun j _ h=>?_⟩);·intro j o ho hd;(have hlt:j<l.length:=by simpa using(tL.1 ho).1);simp[hlt]at hd
 ·rcases V j l.length with h|h<;>simp[h]
 ·exfalso;rcases V j l.length with h'|h'<;>simp[h']at h
theorem Rt(k:Nat){n:Nat}{done:Array Bool}{a:Act}{w:B}{o:J}(ho:l.toArray[k]?=E o)(h:o.wp P a w (fun a' w'=>wpAny P .any l.toArray Q n (done.setIfInBounds k A) a' w') Q)(hg:o.guard=O:=by
 rfl)(hr:D .any l.toArray done=[k]:=by
 kernel_rfl):wpAny P .any l.toArray Q (n+1) done a w:=by
 refine⟨fun h0=>(by rw[hr]at h0;cases h0),fun i hi=>?_⟩;rw[hr]at hi;obtain rfl:i=k:=by simpa using hi
 refine wpOp_step ho fun K hK=>?_;rw[if_pos (by simp[M,hg])];exact Oper.wp_mono hK h
theorem DA{n:Nat}{done:Array Bool}{a:Act}{w:B}(h:Q .normal a w)(hr:D .any l.toArray done=[]:=by
 kernel_rfl):wpAny P .any l.toArray Q n done a w:=by
 cases n with|zero=>exact⟨hr,h⟩|succ n=>exact⟨fun _=>h,fun i hi=>by rw[hr]at hi;cases hi⟩
end
end
end Go.Proofs.YtpimcmbjdcjmlaaGreatDoor
