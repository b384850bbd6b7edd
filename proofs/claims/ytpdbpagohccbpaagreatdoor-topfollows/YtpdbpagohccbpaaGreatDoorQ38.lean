/-
  Texts of this proof, joined, with few blanks: FGetP.
-/
import Derived.Test.YtpdbpagohccbpaaGreatDoorQ17
import Derived.Test.YtpdbpagohccbpaaGreatDoorQ37
set_option maxRecDepth 100000
set_option maxHeartbeats 8000000
open Go.Value renaming slice->tA,bool->tC,tuple->tD,int->tE
open Option renaming none->tB,some->tF
namespace Go.Proofs.YtpdbpagohccbpaaGreatDoor
open Go.RowKit
theorem L6{W w:World}{b:Nat}{x y:Value}{t:TypeId}(hg:W.grownBy w tB)(h:W.heap[b]?=tF (.cells #[x,y] t)):w.heap[b]?=tF (.cells #[x,y] t):=by
 rw[hg.block b (Array.getElem?_eq_some_iff.1 h).1 (by simp)];exact h
def aN:Prop:=∀(w:World)(v r u:Value)(l:FL)(n k:List UInt8),ZI w v l->Qe w r n->Qe w u k->V2 l->n.length<=140737488355328->k.length<=140737488355328->Calls Tryz.prog 51 #[v,r,u] w fun e w'=>∃x,e=.returned (tD #[.agg #[tC (UU l n k),x],tE .i64 (Vr l n k)])∧Qh 0 w' x (UV l n k)∧w.grownBy w' tB
theorem dD:(116:Nat)≠5:=by
 decide
theorem qN{w:World}{v:Value}{bs:List UInt8}(h:Qh 0 w v bs){b:Nat}{x y:Value}(hb:w.heap[b]?=tF (.cells #[x,y] 116))(u z:Value):Qh 0 ((w.setCell ⟨b,0,tB⟩ u).setCell ⟨b,1,tB⟩ z) v bs:=by
 have c:Qh 0 (w.setCell ⟨b,0,tB⟩ u) v bs:=h.keptT (Qg (Qb w _) 0 u) (.inr ⟨b,_,_,_,rfl,Nat.zero_le _,hb,dD⟩);have a:(w.setCell ⟨b,0,tB⟩ u).heap[b]?=tF (.cells (#[x,y].setIfInBounds 0 u) 116):=by simp only[World.setCell,Array.getElem?_modify,if_true,hb,Option.map_some];rfl
 exact c.keptT (Qg (Qb _ _) 1 z) (.inr ⟨b,_,_,_,rfl,Nat.zero_le _,a,dD⟩)
theorem Cx:aN:=by
 intro w v r u l n k G D F R ag Q;obtain⟨i,f⟩:∃i:World,i=w.alloc (.cells #[tC false,tA tB 0 0] 116):=⟨_,rfl⟩;have g:w.grownBy i tB:=by rw[f];exact World.grownBy_alloc _ _ _
 have m:Hid (i.heap[w.heap.size]?=tF (.cells #[tC false,tA tB 0 0] 116)):=by rw[f];exact heap_alloc_new w _
 have o:Hid (i=w.alloc (.cells #[tC false,tA tB 0 0] 116)):=f;have J:Hid (Calls Tryz.prog 69 #[v,r] i fun e j=>∃x,e=.returned (tD #[x,tE .i64 (GU l n)])∧(GU l n=0->Qq j x (Y0 l n))∧(∃a n c,x=tA a n c)∧i.grownBy j tB):=Ur i v r l n (G.grown g) (D.grown g) R;obtain⟨a,cap,rfl⟩:=G.shape;obtain⟨ra,rc,rfl⟩:=D.shape;obtain⟨ka,t,rfl⟩:=F.shape;by_cases h:GU l n=0;·have S:=K2 (qG h).1 n;(have p:Vr l n k=Z4 (Y0 l n) k:=by rw[Vr,if_pos h]);(have q:UU l n k=Rt (Y0 l n) k:=by rw[UU,if_pos h]);(have s:UV l n k=Rv (Y0 l n) k:=by rw[UV,if_pos h]);rw[p,q,s];rw[h]at J;have Y:Hid (∀j x,i.grownBy j tB->Qq j x (Y0 l n)->Calls Tryz.prog 70 #[x,tA ka k.length t] j fun e A=>∃y,e=.returned (tD #[.agg #[tC (Rt (Y0 l n) k),y],tE .i64 (Z4 (Y0 l n) k)])∧Qh 0 A y (Rv (Y0 l n) k)∧j.grownBy A tB):=fun j x hg hx=>OC j x _ _ k hx (F.grown (Qa g hg)) S.fits Q;generalize Z4 (Y0 l n) k=E at*;generalize Rt (Y0 l n) k=B at*;generalize Rv (Y0 l n) k=V at*;generalize Y0 l n=M at*;clear p q s h G D F f S R;go_enter Tryz.func51,Tryz.ntmps51;go_wp2_with fail;rw[<-o.out];refine J.out.mono ?_;rintro e T⟨x,rfl,C,⟨U,X,W,rfl⟩,d⟩;have Z:Hid (Qq T (tA U X W) M):=C trivial;clear C;go_wp2_with fail;refine(Y.out _ _ d Z.out).mono ?_;rintro e w2⟨y,rfl,N,O⟩;obtain⟨H,I,rfl⟩:=N.slice.shape;have b:=Qa d O;have P:=Qa g b;obtain⟨cA,cB,fA,fB⟩:=QO b m.out;obtain⟨K,L⟩:=UK b m.out (tC B) (tA H V.length I);have HS:Hid (Qh 0 ((w2.setCell ⟨w.heap.size,0,tB⟩ (tC B)).setCell ⟨w.heap.size,1,tB⟩ (tA H V.length I)) (tA H V.length I) V):=qN N (L6 b m.out) _ _;clear N;go_wp2;refine bodyPost_ret (v:=tD #[.agg #[tC B,tA H V.length I],tE .i64 E]) (by simp[results,Tryz.results51,go_sem,K,L]) rfl ?_;exact⟨_,rfl,HS.out,Qc (Qc P _ (by omega) _ _) _ (by omega) _ _⟩
 ·(have p:Vr l n k=GU l n:=by rw[Vr,if_neg h]);(have q:UU l n k=false:=by rw[UU,if_neg h]);(have s:UV l n k=[]:=by rw[UV,if_neg h]);rw[p,q,s];generalize GU l n=z at*;(have hz:(z !=0)=true:=by simpa using h);clear p q s G D F f R;go_enter Tryz.func51,Tryz.ntmps51;go_wp2_with fail;rw[<-o.out];refine J.out.mono ?_;rintro e T⟨x,rfl,C,⟨U,X,W,rfl⟩,d⟩;clear C;obtain⟨cA,cB,fA,fB⟩:=QO d m.out;obtain⟨K,L⟩:=UK d m.out (tC false) (tA tB 0 0);go_wp2;refine bodyPost_ret (v:=tD #[.agg #[tC false,tA tB 0 0],tE .i64 z]) (by simp[results,Tryz.results51,go_sem,K,L]) rfl ?_;exact⟨_,rfl,xC _,Qc (Qc (Qa g d) _ (by omega) _ _) _ (by omega) _ _⟩
end Go.Proofs.YtpdbpagohccbpaaGreatDoor
