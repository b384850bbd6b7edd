/-
  Texts of this proof, joined, with few blanks: PUpP.
-/
import Derived.RangeFuncNested
import Derived.RangeFuncBound
import Derived.RangeFuncCalls
import Derived.RangeFuncLeaves
import Derived.Shelf.Abstract
import Derived.Shelf.RegionOpen
import Derived.OwnWalkIn
import Derived.TacticsInMore
import Derived.LoopNIn
import Derived.LoopIn
import Derived.Test.YtcieibjgedmdlaaGreatDoorQ2
set_option maxRecDepth 100000
set_option maxHeartbeats 8000000
open Array renaming replicate_succ->tB,replicate_zero->tC
open Go renaming World->tA
open List renaming append_toArray->tD,size_toArray->tE,push_toArray->tF,length_cons->tG,cons_append->tH,length_nil->tI,nil_append->tJ
open Nat renaming reduceAdd->tK,reduceSub->tL
open Option renaming none->X,some->Y
namespace Go.Proofs.YtcieibjgedmdlaaGreatDoor
open Go.RowKit
section
open Go.RowKit Go.Shelf
attribute[local go_sem]Oper.semAt_some
def bL(n k:Nat):List Nat:=(List.range k).map fun j=>n-1-j
theorem Bp(n k:Nat):bL n (k+1)=bL n k++[n-1-k]:=by
 simp[bL,List.range_succ]
theorem mT(n k:Nat):(bL n k).length=k:=by
 simp[bL]
def dN(n₀ c:Nat)(A B:tA):Prop:=Below n₀ A B∧(c<A.heap.size->B.heap[c]?=A.heap[c]?)
theorem nR{n₀ c:Nat}{A B C:tA}(h:dN n₀ c A B)(k:dN n₀ c B C):dN n₀ c A C:=⟨h.1.trans k.1,fun a=>(k.2 (Nat.lt_of_lt_of_le a h.1.size)).trans (h.2 a)⟩
theorem pK{n₀ c:Nat}{w:tA}(hn:n₀<=w.heap.size)(hc:c<w.heap.size)(W:tA)(l:Nat)(o o':Obj)(hl:w.heap.size<=l)(h:W.heap[l]?=Y o)(h1:o.isCells=false)(h2:o.isWalk=false):dN n₀ c W (W.putObj l o'):=⟨belowK_b hn W l o o' hl h h1 h2,fun _=>World.putObj_heap_other (by
 omega)⟩
theorem dN.refl{n₀ c:Nat}(A:tA):dN n₀ c A A:=⟨Below.refl _ _,fun _=>rfl⟩
theorem oF(F:Fence)(n:Nat)(hf:F.fn 46)(hro:F.round=X)(hn:1<=n)(l c n₀ b off len cap:Nat)(fb:Nat->Int)(fr:Nat->Bool)(fo:Nat->Value)(hlen:len<=140737488355328)(hb:b<n₀)(ho:∀j,j<len->∃a m q,fo j=.slice a m q)(J Jx:List Nat->tA->Prop)(hY:∀pre x W,J pre W->pre.length<len->YieldAt F (n-1) Tryz.prog l #[.agg #[.int .i64 (fb x),.bool (fr x),fo x]] W fun e W'=>(e=.returned (.bool true)∧J (pre++[x]) W'∧dN n₀ c W W')∨(e=.returned (.bool false)∧Jx (pre++[x]) W'))(W:tA)(hc:W.cell? ⟨c,0,X⟩=Y (.slice (Y ⟨b,off,X⟩) len cap))(hs:∀j,j<len->W.cell? ⟨b,off+j*3,X⟩=Y (.int .i64 (fb j))∧W.cell? ⟨b,off+j*3+1,X⟩=Y (.bool (fr j))∧W.cell? ⟨b,off+j*3+2,X⟩=Y (fo j))(h0:J [] W):CallsIn F n Tryz.prog 46 #[.func (.yield l) #[] #[],.pointer (Y ⟨c,0,X⟩)] W fun e W'=>(∃v,e=.returned v)∧((∃ys,ys=bL len len∧J ys W')∨(∃pre,True∧Jx pre W')):=by
 have t:c<W.heap.size:=U1 hc;refine callsIn_of_wp Tryz.func46 rfl hf ?_ hro;simp only[Tryz.ntmps46,tE,tG,tI,tK,tL,tB,tC,tF,tD,tJ,tH];gi_wp2;gi_loopw[3](fun i wr=>∃k:Nat,k<=len∧i=.int .i64 ((len:Int)-1-(k:Int))∧J (bL len k) wr∧dN n₀ c W wr)(fun i _=>(intOf i+1).toNat);case atStart=>exact⟨0,Nat.zero_le _,by go_num,h0,dN.refl _⟩
 case round=>obtain⟨k,P,rfl,f,d⟩:=hrel;(have I:wr.cell? ⟨c,0,X⟩=Y (.slice (Y ⟨b,off,X⟩) len cap):=by have:=d.2 t;simpa[World.cell?,this]using hc);by_cases y:k<len;(·obtain⟨j,K⟩:∃j:Nat,len-1-k=j:=⟨_,rfl⟩;(have u:(len:Int)-1-(k:Int)=(j:Int):=by omega);(have h:j<len:=by omega);obtain⟨B,C,D⟩:=hs j h;have U:=(d.1.cell (p:=⟨b,off+j*3,X⟩) hb).trans B;have V:=(d.1.cell (p:=⟨b,off+j*3+1,X⟩) hb).trans C;have M:=(d.1.cell (p:=⟨b,off+j*3+2,X⟩) hb).trans D;obtain⟨R,S,T,G⟩:=ho j h;obtain⟨O,A,o,z,L,H⟩:=hY _ j wr f (by rw[mT];exact y);rw[G]at M L;(have Q:(j:Int)<(len:Int):=by omega);(have r:Hid (bL len (k+1)=bL len k++[j]):=by show _=_;rw[Bp,K]);rw[u];clear hs hY B C D;gi_wp2;refine H.mono ?_;rintro e N(⟨rfl,s,w⟩|⟨rfl,g⟩);(·gi_wp2;go_roundw;(case rel=>exact⟨k+1,by omega,by go_num,by rw[r.out];exact s,nR d w⟩);case measure=>simp[intOf]);·gi_wp2;refine bodyPost_ret (results_none rfl _ _ _) rfl ?_;exact⟨⟨_,rfl⟩,.inr ⟨_,trivial,g⟩⟩);·(obtain rfl:k=len:=by omega);(have E:(k:Int)-1-(k:Int)=-1:=by omega);rw[E];gi_wp2;go_end0;exact⟨⟨_,rfl⟩,.inl ⟨_,rfl,f⟩⟩
theorem oQ(F:Fence)(n:Nat)(hf:F.fn 46)(hro:F.round=X)(l c:Nat)(a:Option Addr)(cap:Nat)(J:List Nat->tA->Prop)(W:tA)(hc:W.cell? ⟨c,0,X⟩=Y (.slice a 0 cap))(h0:J [] W):CallsIn F n Tryz.prog 46 #[.func (.yield l) #[] #[],.pointer (Y ⟨c,0,X⟩)] W fun e W'=>(∃v,e=.returned v)∧J [] W':=by
 refine callsIn_of_wp Tryz.func46 rfl hf ?_ hro;simp only[Tryz.ntmps46,tE,tG,tI,tK,tL,tB,tC,tF,tD,tJ,tH];gi_wp2;gi_loopw[3](fun i wr=>i=.int .i64 (-1)∧J [] wr)(fun _ _=>0);case atStart=>exact⟨by first|rfl|go_num,h0⟩
 case round=>obtain⟨rfl,b⟩:=hrel;gi_wp2;go_end0;exact⟨⟨_,rfl⟩,b⟩
theorem bG(F:Fence)(n:Nat)(hf:F.fn 36)(hro:F.round=X)(a:Option Addr)(len cap:Nat)(w:tA):CallsIn F n Tryz.prog 36 #[.slice a len cap] w fun e w'=>e=.returned (.func (.func 46) #[] #[.pointer (Y ⟨w.heap.size,0,X⟩)])∧w'=w.alloc (.cells #[.slice a len cap] 43):=by
 refine callsIn_of_wp Tryz.func36 rfl hf ?_ hro;simp only[Tryz.ntmps36,tE,tG,tI,tK,tL,tB,tC,tF,tD,tJ,tH];gi_wp2;go_ret;exact⟨rfl,rfl⟩
theorem Below.stepAt{n₀:Nat}{A B:tA}(h:Below n₀ A B){b:Nat}(hb:b<n₀)(o:Nat):B.cell? ⟨b,o,X⟩=A.cell? ⟨b,o,X⟩:=h.cell (p:=⟨b,o,X⟩) hb
theorem cO(F:Fence)(n:Nat)(hf:F.fn 46)(hro:F.round=X)(hn:1<=n)(c n₀:Nat)(a:Option Addr)(cap:Nat)(S:List VN)(fo:Nat->Value)(hlen:S.length<=140737488355328)(w:tA)(hcw:c<w.heap.size)(hn₀:n₀<=w.heap.size)(hc:w.cell? ⟨c,0,X⟩=Y (.slice a S.length cap))(hs:S.length=0∨∃b o,a=Y ⟨b,o,X⟩∧b<n₀∧∀j,j<S.length->(∃x m q,fo j=.slice x m q)∧w.cell? ⟨b,o+j*3,X⟩=Y (.int .i64 (S.getD j QT).bit)∧w.cell? ⟨b,o+j*3+1,X⟩=Y (.bool (S.getD j QT).right)∧w.cell? ⟨b,o+j*3+2,X⟩=Y (fo j)):SeqStopsK F n Tryz.prog 46 #[.pointer (Y ⟨c,0,X⟩)] (fun x:Nat=>#[.agg #[.int .i64 (S.getD x QT).bit,.bool (S.getD x QT).right,fo x]]) (dN n₀ c) (fun ys=>ys=bL S.length S.length) (fun _=>True) S.length w:=fun l J r W i _ _ v k=>by
 have f:=(i.cell (p:=⟨c,0,X⟩) hcw).trans hc;rcases hs with h|⟨b,o,rfl,y,hs⟩;·rw[h]at f⊢;refine(oQ F n hf hro l c a cap J W f k).mono ?_;rintro e A⟨z,g⟩;exact⟨z,.inl ⟨_,rfl,g⟩⟩
 ·refine oF F n hf hro hn l c n₀ b o S.length cap (fun x=>(S.getD x QT).bit) (fun x=>(S.getD x QT).right) fo hlen y (fun j g=>(hs j g).1) J r v W f (fun j g=>?_) k;obtain⟨_,s,t,u⟩:=hs j g;(have d:b<w.heap.size:=by omega);exact⟨(Below.stepAt i d _).trans s,(Below.stepAt i d _).trans t,(Below.stepAt i d _).trans u⟩
end
end Go.Proofs.YtcieibjgedmdlaaGreatDoor
