/-
  Texts of this proof, joined, with few blanks: FGetP.
-/
import Derived.Test.YtiahomhpaejnhaaGreatDoorQ17
import Derived.Test.YtiahomhpaejnhaaGreatDoorQ38
set_option maxRecDepth 100000
set_option maxHeartbeats 8000000
open Go.Value renaming slice->tA,bool->tC,tuple->tD,int->tE
open Option renaming none->tB,some->tF
namespace Go.Proofs.YtiahomhpaejnhaaGreatDoor
open Go.RowKit
theorem IP{W w:World}{b:Nat}{x y:Value}{t:TypeId}(hg:W.grownBy w tB)(h:W.heap[b]?=tF (.cells #[x,y] t)):w.heap[b]?=tF (.cells #[x,y] t):=by
 rw[hg.block b (Array.getElem?_eq_some_iff.1 h).1 (by simp)];exact h
def fN:Prop:=∀(w:World)(v r u:Value)(l:FL)(n k:List UInt8),ZD w v l->Qe w r n->Qe w u k->VS l->n.length<=140737488355328->k.length<=140737488355328->Calls Tryz.prog 12 #[v,r,u] w fun e w'=>∃x,e=.returned (tD #[.agg #[tC (Y8 l n k),x],tE .i64 (JZ l n k)])∧Qf 0 w' x (Ja l n k)∧w.grownBy w' tB
theorem i8:(56:Nat)≠5:=by
 decide
theorem xF{w:World}{v:Value}{bs:List UInt8}(h:Qf 0 w v bs){b:Nat}{x y:Value}(hb:w.heap[b]?=tF (.cells #[x,y] 56))(u z:Value):Qf 0 ((w.setCell ⟨b,0,tB⟩ u).setCell ⟨b,1,tB⟩ z) v bs:=by
 have c:Qf 0 (w.setCell ⟨b,0,tB⟩ u) v bs:=h.keptT (Qh (Qb w _) 0 u) (.inr ⟨b,_,_,_,rfl,Nat.zero_le _,hb,i8⟩);have a:(w.setCell ⟨b,0,tB⟩ u).heap[b]?=tF (.cells (#[x,y].setIfInBounds 0 u) 56):=by simp only[World.setCell,Array.getElem?_modify,if_true,hb,Option.map_some];rfl
 exact c.keptT (Qh (Qb _ _) 1 z) (.inr ⟨b,_,_,_,rfl,Nat.zero_le _,a,i8⟩)
theorem EZ:fN:=by
 intro w v r u l n k G D F R ag Q;obtain⟨i,f⟩:∃i:World,i=w.alloc (.cells #[tC false,tA tB 0 0] 56):=⟨_,rfl⟩;have g:w.grownBy i tB:=by rw[f];exact World.grownBy_alloc _ _ _
 have m:Hid (i.heap[w.heap.size]?=tF (.cells #[tC false,tA tB 0 0] 56)):=by rw[f];exact heap_alloc_new w _
 have o:Hid (i=w.alloc (.cells #[tC false,tA tB 0 0] 56)):=f;have J:Hid (Calls Tryz.prog 21 #[v,r] i fun e j=>∃x,e=.returned (tD #[x,tE .i64 (qD l n)])∧(qD l n=0->Qo j x (XT l n))∧(∃a n c,x=tA a n c)∧i.grownBy j tB):=U8 i v r l n (G.grown g) (D.grown g) R;obtain⟨a,cap,rfl⟩:=G.shape;obtain⟨ra,rc,rfl⟩:=D.shape;obtain⟨ka,t,rfl⟩:=F.shape;by_cases h:qD l n=0;·have S:=Y0 (zV h).1 n;(have p:JZ l n k=Xh (XT l n) k:=by rw[JZ,if_pos h]);(have q:Y8 l n k=Rm (XT l n) k:=by rw[Y8,if_pos h]);(have s:Ja l n k=Ec (XT l n) k:=by rw[Ja,if_pos h]);rw[p,q,s];rw[h]at J;have Y:Hid (∀j x,i.grownBy j tB->Qo j x (XT l n)->Calls Tryz.prog 22 #[x,tA ka k.length t] j fun e A=>∃y,e=.returned (tD #[.agg #[tC (Rm (XT l n) k),y],tE .i64 (Xh (XT l n) k)])∧Qf 0 A y (Ec (XT l n) k)∧j.grownBy A tB):=fun j x hg hx=>dN j x _ _ k hx (F.grown (Qa g hg)) S.fits Q;generalize Xh (XT l n) k=E at*;generalize Rm (XT l n) k=B at*;generalize Ec (XT l n) k=V at*;generalize XT l n=M at*;clear p q s h G D F f S R;go_enter Tryz.func12,Tryz.ntmps12;go_wp2_with fail;rw[<-o.out];refine J.out.mono ?_;rintro e T⟨x,rfl,C,⟨U,X,W,rfl⟩,d⟩;have Z:Hid (Qo T (tA U X W) M):=C trivial;clear C;go_wp2_with fail;refine(Y.out _ _ d Z.out).mono ?_;rintro e w2⟨y,rfl,N,O⟩;obtain⟨H,I,rfl⟩:=N.slice.shape;have b:=Qa d O;have P:=Qa g b;obtain⟨cA,cB,fA,fB⟩:=QP b m.out;obtain⟨K,L⟩:=Vt b m.out (tC B) (tA H V.length I);have HS:Hid (Qf 0 ((w2.setCell ⟨w.heap.size,0,tB⟩ (tC B)).setCell ⟨w.heap.size,1,tB⟩ (tA H V.length I)) (tA H V.length I) V):=xF N (IP b m.out) _ _;clear N;go_wp2;refine bodyPost_ret (v:=tD #[.agg #[tC B,tA H V.length I],tE .i64 E]) (by simp[results,Tryz.results12,go_sem,K,L]) rfl ?_;exact⟨_,rfl,HS.out,Qc (Qc P _ (by omega) _ _) _ (by omega) _ _⟩
 ·(have p:JZ l n k=qD l n:=by rw[JZ,if_neg h]);(have q:Y8 l n k=false:=by rw[Y8,if_neg h]);(have s:Ja l n k=[]:=by rw[Ja,if_neg h]);rw[p,q,s];generalize qD l n=z at*;(have hz:(z !=0)=true:=by simpa using h);clear p q s G D F f R;go_enter Tryz.func12,Tryz.ntmps12;go_wp2_with fail;rw[<-o.out];refine J.out.mono ?_;rintro e T⟨x,rfl,C,⟨U,X,W,rfl⟩,d⟩;clear C;obtain⟨cA,cB,fA,fB⟩:=QP d m.out;obtain⟨K,L⟩:=Vt d m.out (tC false) (tA tB 0 0);go_wp2;refine bodyPost_ret (v:=tD #[.agg #[tC false,tA tB 0 0],tE .i64 z]) (by simp[results,Tryz.results12,go_sem,K,L]) rfl ?_;exact⟨_,rfl,jB _,Qc (Qc (Qa g d) _ (by omega) _ _) _ (by omega) _ _⟩
theorem aN:lX:=fun w v r u l n k a b c d f g=>(EZ w v r u l n k a b c d f g).mono (by
 rintro e j⟨x,rfl,i,h⟩;exact⟨x,rfl,i.slice,h⟩)
end Go.Proofs.YtiahomhpaejnhaaGreatDoor
