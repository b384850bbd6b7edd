/-
  Texts of this proof, joined, with few blanks: FGetP.
-/
import Derived.Test.YtpimcmbjdcjmlaaGreatDoorQ17
import Derived.Test.YtpimcmbjdcjmlaaGreatDoorQ38
set_option maxRecDepth 100000
set_option maxHeartbeats 8000000
open Go.Obj renaming cells->F
open Go.Value renaming slice->A,bool->D,tuple->I,int->J,agg->L
open Go.World renaming grownBy->G,setCell->H,grownBy_alloc->O
open Option renaming none->C,some->K,map_some->N
namespace Go.Proofs.YtpimcmbjdcjmlaaGreatDoor
open Go.RowKit
theorem WK{W w:World}{b:Nat}{x y:Value}{t:TypeId}(hg:G W w C)(h:W.heap[b]?=K (F #[x,y] t)):w.heap[b]?=K (F #[x,y] t):=by
 rw[hg.block b (Array.getElem?_eq_some_iff.1 h).1 (by simp)];exact h
def dP:Prop:=∀(w:World)(v r u:Value)(l:FL)(n k:List UInt8),ZS w v l->Qe w r n->Qe w u k->Gj l->n.length<=140737488355328->k.length<=140737488355328->Calls Tryz.prog 48 #[v,r,u] w fun e w'=>∃x,e=.returned (I #[L #[D (K3 l n k),x],J .i64 (U4 l n k)])∧Qf 0 w' x (K7 l n k)∧G w w' C
theorem gJ:(112:Nat)≠5:=by
 decide
theorem zH{w:World}{v:Value}{bs:List UInt8}(h:Qf 0 w v bs){b:Nat}{x y:Value}(hb:w.heap[b]?=K (F #[x,y] 112))(u z:Value):Qf 0 ((H w ⟨b,0,C⟩ u).setCell ⟨b,1,C⟩ z) v bs:=by
 have h1:Qf 0 (H w ⟨b,0,C⟩ u) v bs:=h.keptT (Qg (Qb w _) 0 u) (.inr ⟨b,_,_,_,rfl,Nat.zero_le _,hb,gJ⟩);have hb2:(H w ⟨b,0,C⟩ u).heap[b]?=K (F (#[x,y].setIfInBounds 0 u) 112):=by simp only[H,Array.getElem?_modify,if_true,hb,N];rfl
 exact h1.keptT (Qg (Qb _ _) 1 z) (.inr ⟨b,_,_,_,rfl,Nat.zero_le _,hb2,gJ⟩)
theorem BA:dP:=by
 intro w v r u l n k hv hr hu hl hnl hkl;obtain⟨W0,hW0⟩:∃W0:World,W0=w.alloc (F #[D false,A C 0 0] 112):=⟨_,rfl⟩;have hgW:G w W0 C:=by rw[hW0];exact O _ _ _
 have C0:Hid (W0.heap[w.heap.size]?=K (F #[D false,A C 0 0] 112)):=by rw[hW0];exact heap_alloc_new w _
 have HW0:Hid (W0=w.alloc (F #[D false,A C 0 0] 112)):=hW0;have CP:Hid (Calls Tryz.prog 67 #[v,r] W0 fun e w'=>∃x,e=.returned (I #[x,J .i64 (GJ l n)])∧(GJ l n=0->Qp w' x (XY l n))∧(∃a n c,x=A a n c)∧G W0 w' C):=UD W0 v r l n (hv.grown hgW) (hr.grown hgW) hl;obtain⟨a,cap,rfl⟩:=hv.shape;obtain⟨ra,rc,rfl⟩:=hr.shape;obtain⟨ka,kcap,rfl⟩:=hu.shape;by_cases hE:GJ l n=0;·have hT:=Jm (qY hE).1 n;(have e1:U4 l n k=Xd (XY l n) k:=by rw[U4,if_pos hE]);(have e2:K3 l n k=TL (XY l n) k:=by rw[K3,if_pos hE]);(have e3:K7 l n k=Rg (XY l n) k:=by rw[K7,if_pos hE]);rw[e1,e2,e3];rw[hE]at CP;have GT:Hid (∀w' x,G W0 w' C->Qp w' x (XY l n)->Calls Tryz.prog 68 #[x,A ka k.length kcap] w' fun e w''=>∃y,e=.returned (I #[L #[D (TL (XY l n) k),y],J .i64 (Xd (XY l n) k)])∧Qf 0 w'' y (Rg (XY l n) k)∧G w' w'' C):=fun w' x hg hx=>bN w' x _ _ k hx (hu.grown (Qa hgW hg)) hT.fits hkl;generalize Xd (XY l n) k=E at*;generalize TL (XY l n) k=B at*;generalize Rg (XY l n) k=V at*;generalize XY l n=M at*;clear e1 e2 e3 hE hv hr hu hW0 hT hl;go_enter Tryz.func48,Tryz.ntmps48;go_wp2_with fail;rw[<-HW0.out];refine CP.out.mono ?_;rintro e w1⟨x,rfl,h1,⟨xa,xn,xc,rfl⟩,hg1⟩;have H1:Hid (Qp w1 (A xa xn xc) M):=h1 trivial;clear h1;go_wp2_with fail;refine(GT.out _ _ hg1 H1.out).mono ?_;rintro e w2⟨y,rfl,h2,hg2⟩;obtain⟨ya,yc,rfl⟩:=h2.slice.shape;have hg12:=Qa hg1 hg2;have hgw:=Qa hgW hg12;obtain⟨cA,cB,fA,fB⟩:=QO hg12 C0.out;obtain⟨cC,cD⟩:=U5 hg12 C0.out (D B) (A ya V.length yc);have HS:Hid (Qf 0 ((H w2 ⟨w.heap.size,0,C⟩ (D B)).setCell ⟨w.heap.size,1,C⟩ (A ya V.length yc)) (A ya V.length yc) V):=zH h2 (WK hg12 C0.out) _ _;clear h2;go_wp2;refine bodyPost_ret (v:=I #[L #[D B,A ya V.length yc],J .i64 E]) (by simp[results,Tryz.results48,go_sem,cC,cD]) rfl ?_;exact⟨_,rfl,HS.out,Qc (Qc hgw _ (by omega) _ _) _ (by omega) _ _⟩
 ·(have e1:U4 l n k=GJ l n:=by rw[U4,if_neg hE]);(have e2:K3 l n k=false:=by rw[K3,if_neg hE]);(have e3:K7 l n k=[]:=by rw[K7,if_neg hE]);rw[e1,e2,e3];generalize GJ l n=z at*;(have hz:(z !=0)=true:=by simpa using hE);clear e1 e2 e3 hv hr hu hW0 hl;go_enter Tryz.func48,Tryz.ntmps48;go_wp2_with fail;rw[<-HW0.out];refine CP.out.mono ?_;rintro e w1⟨x,rfl,h1,⟨xa,xn,xc,rfl⟩,hg1⟩;clear h1;obtain⟨cA,cB,fA,fB⟩:=QO hg1 C0.out;obtain⟨cC,cD⟩:=U5 hg1 C0.out (D false) (A C 0 0);go_wp2;refine bodyPost_ret (v:=I #[L #[D false,A C 0 0],J .i64 z]) (by simp[results,Tryz.results48,go_sem,cC,cD]) rfl ?_;exact⟨_,rfl,xY _,Qc (Qc (Qa hgW hg1) _ (by omega) _ _) _ (by omega) _ _⟩
end Go.Proofs.YtpimcmbjdcjmlaaGreatDoor
