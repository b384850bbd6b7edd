/-
  Texts of this proof, joined, with few blanks: PUpP.
-/
import Derived.RangeFuncNested
import Derived.RangeFuncBound
import Derived.RangeFuncCalls
import Derived.RangeFuncLeaves
import Derived.Shelf.Abstract
import Derived.Shelf.RegionOpen
import Derived.OwnWalkIn
import Derived.TacticsInMore
import Derived.LoopNIn
import Derived.LoopIn
import Derived.Test.YtahggnmfofgddaaGreatDoorQ2
set_option maxRecDepth 100000
set_option maxHeartbeats 8000000
open Array renaming replicate_succ->H,replicate_zero->I
open Go renaming World->G,Addr->s
open Go.Ending renaming returned->R
open Go.Proofs.Tryz renaming prog->L,ntmps68->g,func68->r
open Go.Value renaming slice->O,bool->d,int->f
open List renaming append_toArray->K,size_toArray->M,push_toArray->N,length_cons->P,cons_append->Q,length_nil->T,nil_append->V
open Nat renaming reduceAdd->X,reduceSub->Y
open Option renaming none->D,some->E
namespace Go.Proofs.YtahggnmfofgddaaGreatDoor
open Go.RowKit
section
open Go.RowKit Go.Shelf
attribute[local go_sem]Oper.semAt_some
def OJ(n k:Nat):List Nat:=(List.range k).map fun j=>n-1-j
theorem Cx(n k:Nat):OJ n (k+1)=OJ n k++[n-1-k]:=by
 simp[OJ,List.range_succ]
theorem iL(n k:Nat):(OJ n k).length=k:=by
 simp[OJ]
def aY(n₀ c:Nat)(A B:G):Prop:=Below n₀ A B∧(c<A.heap.size->B.heap[c]?=A.heap[c]?)
theorem lD{n₀ c:Nat}{A B C:G}(h:aY n₀ c A B)(k:aY n₀ c B C):aY n₀ c A C:=⟨h.1.trans k.1,fun hc=>(k.2 (Nat.lt_of_lt_of_le hc h.1.size)).trans (h.2 hc)⟩
theorem mW{n₀ c:Nat}{w:G}(hn:n₀<=w.heap.size)(hc:c<w.heap.size)(W:G)(l:Nat)(o o':Obj)(hl:w.heap.size<=l)(h:W.heap[l]?=E o)(h1:o.isCells=false)(h2:o.isWalk=false):aY n₀ c W (W.putObj l o'):=⟨belowK_b hn W l o o' hl h h1 h2,fun _=>World.putObj_heap_other (by
 omega)⟩
theorem aY.refl{n₀ c:Nat}(A:G):aY n₀ c A A:=⟨Below.refl _ _,fun _=>rfl⟩
theorem lS(F:Fence)(n:Nat)(hf:F.fn 68)(hro:F.round=D)(hn:1<=n)(l c n₀ b off len cap:Nat)(fb:Nat->Int)(fr:Nat->Bool)(fo:Nat->Value)(hlen:len<=140737488355328)(hb:b<n₀)(ho:∀j,j<len->∃a m q,fo j=O a m q)(J Jx:List Nat->G->Prop)(hY:∀pre x W,J pre W->pre.length<len->YieldAt F (n-1) L l #[.agg #[f .i64 (fb x),d (fr x),fo x]] W fun e W'=>(e=R (d true)∧J (pre++[x]) W'∧aY n₀ c W W')∨(e=R (d false)∧Jx (pre++[x]) W'))(W:G)(hc:W.cell? ⟨c,0,D⟩=E (O (E ⟨b,off,D⟩) len cap))(hs:∀j,j<len->W.cell? ⟨b,off+j*3,D⟩=E (f .i64 (fb j))∧W.cell? ⟨b,off+j*3+1,D⟩=E (d (fr j))∧W.cell? ⟨b,off+j*3+2,D⟩=E (fo j))(h0:J [] W):CallsIn F n L 68 #[.func (.yield l) #[] #[],.pointer (E ⟨c,0,D⟩)] W fun e W'=>(∃v,e=R v)∧((∃ys,ys=OJ len len∧J ys W')∨(∃pre,True∧Jx pre W')):=by
 have hcw:c<W.heap.size:=UO hc;refine callsIn_of_wp r rfl hf ?_ hro;simp only[g,M,P,T,X,Y,H,I,N,K,V,Q];gi_wp2;gi_loopw[3](fun i wr=>∃k:Nat,k<=len∧i=f .i64 ((len:Int)-1-(k:Int))∧J (OJ len k) wr∧aY n₀ c W wr)(fun i _=>(intOf i+1).toNat);case atStart=>exact⟨0,Nat.zero_le _,by go_num,h0,aY.refl _⟩
 case round=>obtain⟨k,hk,rfl,hJs,hnx⟩:=hrel;(have hcx:wr.cell? ⟨c,0,D⟩=E (O (E ⟨b,off,D⟩) len cap):=by have:=hnx.2 hcw;simpa[World.cell?,this]using hc);by_cases hlt:k<len;(·obtain⟨j,hj⟩:∃j:Nat,len-1-k=j:=⟨_,rfl⟩;(have hj':(len:Int)-1-(k:Int)=(j:Int):=by omega);(have hjl:j<len:=by omega);obtain⟨x1,x2,x3⟩:=hs j hjl;have y1:=(hnx.1.cell (p:=⟨b,off+j*3,D⟩) hb).trans x1;have y2:=(hnx.1.cell (p:=⟨b,off+j*3+1,D⟩) hb).trans x2;have y3:=(hnx.1.cell (p:=⟨b,off+j*3+2,D⟩) hb).trans x3;obtain⟨oa,om,oq,eo⟩:=ho j hjl;obtain⟨fn,tmps,assign,body,hy,hR⟩:=hY _ j wr hJs (by rw[iL];exact hlt);rw[eo]at y3 hy;(have i1:(j:Int)<(len:Int):=by omega);(have HDN:Hid (OJ len (k+1)=OJ len k++[j]):=by show _=_;rw[Cx,hj]);rw[hj'];clear hs hY x1 x2 x3;gi_wp2;refine hR.mono ?_;rintro e W3(⟨rfl,hJ3,hk3⟩|⟨rfl,hJx3⟩);(·gi_wp2;go_roundw;(case rel=>exact⟨k+1,by omega,by go_num,by rw[HDN.out];exact hJ3,lD hnx hk3⟩);case measure=>simp[intOf]);·gi_wp2;refine bodyPost_ret (results_none rfl _ _ _) rfl ?_;exact⟨⟨_,rfl⟩,.inr ⟨_,trivial,hJx3⟩⟩);·(obtain rfl:k=len:=by omega);(have e1:(k:Int)-1-(k:Int)=-1:=by omega);rw[e1];gi_wp2;go_end0;exact⟨⟨_,rfl⟩,.inl ⟨_,rfl,hJs⟩⟩
theorem l8(F:Fence)(n:Nat)(hf:F.fn 68)(hro:F.round=D)(l c:Nat)(a:Option s)(cap:Nat)(J:List Nat->G->Prop)(W:G)(hc:W.cell? ⟨c,0,D⟩=E (O a 0 cap))(h0:J [] W):CallsIn F n L 68 #[.func (.yield l) #[] #[],.pointer (E ⟨c,0,D⟩)] W fun e W'=>(∃v,e=R v)∧J [] W':=by
 refine callsIn_of_wp r rfl hf ?_ hro;simp only[g,M,P,T,X,Y,H,I,N,K,V,Q];gi_wp2;gi_loopw[3](fun i wr=>i=f .i64 (-1)∧J [] wr)(fun _ _=>0);case atStart=>exact⟨by first|rfl|go_num,h0⟩
 case round=>obtain⟨rfl,hJs⟩:=hrel;gi_wp2;go_end0;exact⟨⟨_,rfl⟩,hJs⟩
theorem OC(F:Fence)(n:Nat)(hf:F.fn 55)(hro:F.round=D)(a:Option s)(len cap:Nat)(w:G):CallsIn F n L 55 #[O a len cap] w fun e w'=>e=R (.func (.func 68) #[] #[.pointer (E ⟨w.heap.size,0,D⟩)])∧w'=w.alloc (.cells #[O a len cap] 42):=by
 refine callsIn_of_wp Tryz.func55 rfl hf ?_ hro;simp only[Tryz.ntmps55,M,P,T,X,Y,H,I,N,K,V,Q];gi_wp2;go_ret;exact⟨rfl,rfl⟩
theorem Below.stepAt{n₀:Nat}{A B:G}(h:Below n₀ A B){b:Nat}(hb:b<n₀)(o:Nat):B.cell? ⟨b,o,D⟩=A.cell? ⟨b,o,D⟩:=h.cell (p:=⟨b,o,D⟩) hb
theorem aA(F:Fence)(n:Nat)(hf:F.fn 68)(hro:F.round=D)(hn:1<=n)(c n₀:Nat)(a:Option s)(cap:Nat)(S:List Vw)(fo:Nat->Value)(hlen:S.length<=140737488355328)(w:G)(hcw:c<w.heap.size)(hn₀:n₀<=w.heap.size)(hc:w.cell? ⟨c,0,D⟩=E (O a S.length cap))(hs:S.length=0∨∃b o,a=E ⟨b,o,D⟩∧b<n₀∧∀j,j<S.length->(∃x m q,fo j=O x m q)∧w.cell? ⟨b,o+j*3,D⟩=E (f .i64 (S.getD j QW).bit)∧w.cell? ⟨b,o+j*3+1,D⟩=E (d (S.getD j QW).right)∧w.cell? ⟨b,o+j*3+2,D⟩=E (fo j)):SeqStopsK F n L 68 #[.pointer (E ⟨c,0,D⟩)] (fun x:Nat=>#[.agg #[f .i64 (S.getD x QW).bit,d (S.getD x QW).right,fo x]]) (aY n₀ c) (fun ys=>ys=OJ S.length S.length) (fun _=>True) S.length w:=fun l J Jx W hW _ _ hY h0=>by
 have hc':=(hW.cell (p:=⟨c,0,D⟩) hcw).trans hc;rcases hs with h|⟨b,o,rfl,hb,hs⟩;·rw[h]at hc'⊢;refine(l8 F n hf hro l c a cap J W hc' h0).mono ?_;rintro e W'⟨he,hj⟩;exact⟨he,.inl ⟨_,rfl,hj⟩⟩
 ·refine lS F n hf hro hn l c n₀ b o S.length cap (fun x=>(S.getD x QW).bit) (fun x=>(S.getD x QW).right) fo hlen hb (fun j hj=>(hs j hj).1) J Jx hY W hc' (fun j hj=>?_) h0;obtain⟨_,h1,h2,h3⟩:=hs j hj;(have hbw:b<w.heap.size:=by omega);exact⟨(Below.stepAt hW hbw _).trans h1,(Below.stepAt hW hbw _).trans h2,(Below.stepAt hW hbw _).trans h3⟩
end
end Go.Proofs.YtahggnmfofgddaaGreatDoor
