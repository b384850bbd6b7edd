/-
  Texts of this proof, joined, with few blanks: TBitP, TForkP, PBitP.
-/
import Derived.Deep.RegionWith
import Derived.Handy
import Derived.Test.YtaljfgkjfogmeaaGreatDoorQ7
import Derived.Test.YtaljfgkjfogmeaaGreatDoorQ2
set_option maxRecDepth 100000
set_option maxHeartbeats 8000000
open Exists renaming intro->O
open Go renaming Calls->M,World->N,Value->X,TypeId->d,Addr->f
open Go.Ending renaming returned->G
open Go.IntKind renaming i64->B,wrap_i64->g
open Go.Obj renaming cells->K
open Go.Proofs.Tryz renaming prog->F,ntmps77->W,func77->Y
open Go.RowKit renaming Hid->Q,intOf->T
open Go.Value renaming int->C,slice->H,bool->S,tuple->V
open Go.World renaming grownBy->E,cell?_setCell_other->I,setCell->J,cell?->o,frozen?->p,grownBy_alloc->q,size_alloc->r,cell?_setCell_same'->s
open Option renaming none->A,some->D,map_some->k
namespace Go.Proofs.YtaljfgkjfogmeaaGreatDoor
open Go.RowKit
theorem Zy.key{l:PL}(h:Zy l)(j:Nat)(hj:j<l.length):1<=(l.getD j ([],[])).1.length∧(l.getD j ([],[])).1.length<=16:=by
 have:=(h.pairs l[j] (List.getElem_mem hj)).1;simpa[hj]using this
theorem Wj(w:N)(lb bb:Nat)(a:Option f)(cap:Nat)(l:PL)(b i:Nat)(hl:w.cell? ⟨lb,0,A⟩=D (H a l.length cap))(hb:w.cell? ⟨bb,0,A⟩=D (C B (b:Int)))(hv:Qs w (H a l.length cap) l)(hT:Zy l)(hi:i<l.length)(hb145:b<145):M F 155 #[C B (i:Int),.pointer (D ⟨lb,0,A⟩),.pointer (D ⟨bb,0,A⟩)] w fun e w'=>e=G (S (ZP (l.getD i ([],[])).1 b))∧E w w' A:=by
 obtain⟨pb,po,rfl,hat⟩:=hv.at i hi;obtain⟨vk,vv,c1,c2,s1,s2⟩:=hat;have hk:=hT.key i hi;have BT:Q (M F 147 #[vk,C B (b:Int)] w.drew fun e w'=>e=G (V #[S (ZP (l.getD i ([],[])).1 b),C B 0])∧E w.drew w' A):=Nj.of Bf w.drew vk _ b s1.drew hk hb145;generalize ZP (l.getD i ([],[])).1 b=z at*;have t1:(i:Int)<(l.length:Int):=by omega
 have hgd:=Qn (Qb w A);obtain⟨ka,kc,rfl⟩:=s1.shape;generalize l.getD i ([],[])=P at*;clear s1 s2 c2 hv hT;go_enter Tryz.func155,Tryz.ntmps155;go_wp2_with fail;go_region_with(go_at_call 147;refine BT.out.mono ?_;rintro e w1⟨rfl,hg1⟩);all_goals go_wp2;go_ret;exact⟨rfl,Qa hgd hg1⟩
theorem AQ(w:N)(lb bb:Nat)(a:Option f)(cap:Nat)(l:PL)(b n:Nat)(hl:w.cell? ⟨lb,0,A⟩=D (H a l.length cap))(hb:w.cell? ⟨bb,0,A⟩=D (C B (b:Int)))(hv:Qs w (H a l.length cap) l)(hT:Zy l)(hb145:b<145)(hn:n<=l.length)(hbit:∀j,j<l.length->ZP (l.getD j ([],[])).1 b=decide (n<=j)):M F 77 #[C B (l.length:Int),.func (.func 155) #[] #[.pointer (D ⟨lb,0,A⟩),.pointer (D ⟨bb,0,A⟩)]] w fun e w'=>e=G (C B (n:Int))∧E w w' A:=by
 have CL:Q (∀(w':N)(i:Nat),E w w' A->i<l.length->M F 155 #[C B (i:Int),.pointer (D ⟨lb,0,A⟩),.pointer (D ⟨bb,0,A⟩)] w' fun e w''=>e=G (S (decide (n<=i)))∧E w' w'' A):=fun w' i hg hi=>by have:=Wj w' lb bb a cap l b i (hg.cell hl (by simp)) (hg.cell hb (by simp)) (hv.grown hg) hT hi hb145;rw[hbit i hi]at this;exact this
 have hroom:=hT.room;clear hl hb hv hT hbit;go_enter Y,W;go_wp2_with fail;go_loopw[5,6](fun si sj wr=>∃i j:Nat,i<=n∧n<=j∧j<=l.length∧si=C B (i:Int)∧sj=C B (j:Int)∧E w wr A)(fun si sj _=>(T sj).toNat-(T si).toNat);case atStart=>exact⟨0,l.length,by omega,hn,by omega,rfl,rfl,Qb _ _⟩
 case round=>obtain⟨i,j,hi,hj,hjl,rfl,rfl,hgr⟩:=hrel;by_cases hlt:i<j;(·(have t1:(i:Int)<(j:Int):=by omega);obtain⟨h,hh⟩:∃h:Nat,((i:Int)+(j:Int))/2=(h:Int):=⟨(i+j)/2,by omega⟩;(have b1:i<=h:=by omega);(have b2:h<j:=by omega);have CH:Q (M F 155 #[C B (h:Int),.pointer (D ⟨lb,0,A⟩),.pointer (D ⟨bb,0,A⟩)] wr fun e w''=>e=G (S (decide (n<=h)))∧E wr w'' A):=CL.out wr h hgr (by omega);go_wp2_with fail;refine CH.out.mono ?_;rintro e w1⟨rfl,hg1⟩;have hgw:=Qa hgr hg1;by_cases hz:n<=h;(·rw[decide_eq_true hz];go_wp2_with fail;go_roundw;(case rel=>first|exact⟨i,h,by omega,by omega,by omega,rfl,rfl,hgw⟩|((repeat apply O);refine⟨⟨i,h,by omega,by omega,by omega,rfl,?_,hgw⟩,rfl⟩;go_num));case measure=>simp[T];omega);·rw[decide_eq_false hz];go_wp2_with fail;go_roundw;(case rel=>first|exact⟨h+1,j,by omega,by omega,by omega,by go_num,rfl,hgw⟩|((repeat apply O);refine⟨⟨h+1,j,by omega,by omega,by omega,?_,rfl,hgw⟩,rfl⟩;go_num));case measure=>simp[T];omega);·(obtain rfl:i=n:=by omega);(obtain rfl:j=i:=by omega);go_wp2;go_ret;exact⟨rfl,hgr⟩
theorem UU{w:N}{b:Nat}{x:X}{t:d}(h:w.heap[b]?=D (K #[x] t)):w.cell? ⟨b,0,A⟩=D x:=by
 simp[o,h]
theorem kT{w:N}{b:Nat}{x:X}{t:d}(h:w.heap[b]?=D (K #[x] t)):w.frozen? ⟨b,0,A⟩=false:=by
 simp[p,h]
theorem kZ{w:N}{b:Nat}{x:X}{t:d}(h:w.heap[b]?=D (K #[x] t))(u:X):(J w ⟨b,0,A⟩ u).heap[b]?=D (K #[u] t):=by
 simp only[J,Array.getElem?_modify,if_true,h,k];first|rfl|simp
theorem Ot(w:N)(v:X)(l:PL)(hv:Qs w v l)(hT:Zy l)(h2:2<=l.length):M F 145 #[v] w fun e w'=>e=G (V #[C B (Qy l),C B (JF l (Qy l).toNat:Int),C B 0])∧E w w' A:=by
 obtain⟨a,cap,rfl⟩:=hv.shape;have hr:=Yf hT h2;have hpart:=EY hT h2;have hsr:=Ut hT h2;have hbit:=fun j hj=>GC hT h2 j hj;have hroom:=hT.room;obtain⟨b,hb⟩:∃b:Nat,Qy l=(b:Int):=⟨(Qy l).toNat,by omega⟩;rw[hb]at hpart hsr hbit⊢;rw[Int.toNat_natCast]at hsr hbit⊢;have hb145:b<145:=by omega
 generalize JF l b=n at*;obtain⟨m,hm⟩:∃m,l.length=m+1:=⟨l.length-1,by omega⟩;rw[show l.length-1=m by omega]at hpart;obtain⟨W1,hW1⟩:∃W1:N,W1=(w.alloc (K #[H a l.length cap] 53)).alloc (K #[C B 0] 3):=⟨_,rfl⟩;have hgW:E w W1 A:=by rw[hW1];exact Qw (q _ _ _) _
 have HW1:Q (W1=(w.alloc (K #[H a l.length cap] 53)).alloc (K #[C B 0] 3)):=hW1;have d1:W1.drew.cell? ⟨w.heap.size,0,A⟩=D (H a l.length cap):=by rw[hW1];simp
 have d2:Q (W1.heap[w.heap.size+1]?=D (K #[C B 0] 3)):=by have:=heap_alloc_new (w.alloc (K #[H a l.length cap] 53)) (K #[C B 0] 3);rw[r]at this;rw[hW1];exact this
 obtain⟨pb,po,rfl,hat0⟩:=hv.at 0 (by omega);obtain⟨pb2,po2,e,hatm⟩:=hv.at m (by omega);cases e;have hpb:pb<w.heap.size:=by obtain⟨_,_,c,_⟩:=hat0;exact Vu c
 obtain⟨vk,vv,c1,_,s1,_⟩:=hat0.grown (Qn hgW);obtain⟨uk,uv,c2,_,s2,_⟩:=hatm.grown (Qn hgW);rw[Nat.zero_mul,Nat.add_zero]at c1;have PT:Q (M F 154 #[vk,uk] W1.drew fun e w'=>e=G (V #[C B (b:Int),C B 0])∧E W1.drew w' A):=by have:=Rg.of SG W1.drew vk uk _ _ s1 s2 (hT.key 0 (by omega)) (hT.key m (by omega));rw[hpart]at this;exact this
 obtain⟨ka,kc,rfl⟩:=s1.shape;obtain⟨ua,uc,rfl⟩:=s2.shape;generalize(l.getD 0 ([],[])).1.length=k0 at*;generalize(l.getD m ([],[])).1.length=km at*;have i0:(0:Int)<(l.length:Int):=by omega
 have i1:(m:Int)<(l.length:Int):=by omega
 have i2:B.wrap ((l.length:Int)-1)=(m:Int):=by rw[g];omega
 have HBT:Q (∀j,j<l.length->ZP (l.getD j ([],[])).1 b=decide (n<=j)):=hbit;have hgd:=Qn hgW;have hm1:m+1<=l.length:=by omega
 have hm2:l.length<=m+1:=by omega
 clear hpart hbit hW1 s1 s2 hat0 hatm hb hr hm;have HV:Q (Qs w (H (D ⟨pb,po,A⟩) l.length cap) l):=hv;have HT:Q (Zy l):=hT;clear hv hT;generalize hL:l.length=L at*;have HL:Q (l.length=L):=hL;clear hL;have i0':0<L:=by omega
 go_enter Tryz.func145,Tryz.ntmps145;go_wp2_with fail;rw[<-HW1.out];go_region_held3(fun w'=>w'.cell? ⟨w.heap.size,0,A⟩=D (H (D ⟨pb,po,A⟩) L cap)∧w'.cell? ⟨pb,po,A⟩=D (H ka k0 kc)∧w'.cell? ⟨pb,po+m*2,A⟩=D (H ua km uc))(first|exact⟨d1,c1,c2⟩|exact⟨f1,f2,f3⟩|exact⟨(I _ _ _ _ (by simp)).trans f1,(I _ _ _ _ (by first|(simp;done)|(simp;omega))).trans f2,(I _ _ _ _ (by first|(simp;done)|(simp;omega))).trans f3⟩)(first|(go_at_call 154;refine PT.out.mono ?_;rintro e w1⟨rfl,hg1⟩;have f1:=hg1.cell d1 (by simp);have f2:=hg1.cell c1 (by simp);have f3:=hg1.cell c2 (by simp);have g0:=Qc hg1 d2.out;have g1:w1.cell? ⟨w.heap.size+1,0,A⟩=D (C B 0):=UU g0;have g2:w1.frozen? ⟨w.heap.size+1,0,A⟩=false:=kT g0));have hgw:=Qa hgd hg1;have k1:(J w1 ⟨w.heap.size+1,0,A⟩ (C B (b:Int))).cell? ⟨w.heap.size,0,A⟩=D (H (D ⟨pb,po,A⟩) L cap):=(I _ _ _ _ (by simp)).trans f1;have k2:(J w1 ⟨w.heap.size+1,0,A⟩ (C B (b:Int))).cell? ⟨w.heap.size+1,0,A⟩=D (C B (b:Int)):=s _ _ _ (by rw[g1];rfl);have hgs:E w (J w1 ⟨w.heap.size+1,0,A⟩ (C B (b:Int))) A:=Qd hgw _ (by omega) _ _;have SE:Q (M F 77 #[C B (L:Int),.func (.func 155) #[] #[.pointer (D ⟨w.heap.size,0,A⟩),.pointer (D ⟨w.heap.size+1,0,A⟩)]] (J w1 ⟨w.heap.size+1,0,A⟩ (C B (b:Int))) fun e w'=>e=G (C B (n:Int))∧(J w1 ⟨w.heap.size+1,0,A⟩ (C B (b:Int))).grownBy w' A):=by have:=AQ (J w1 ⟨w.heap.size+1,0,A⟩ (C B (b:Int))) w.heap.size (w.heap.size+1) (D ⟨pb,po,A⟩) cap l b n (by rw[HL.out];exact k1) k2 (by rw[HL.out];exact HV.out.grown hgs) HT.out hb145 (by rw[HL.out];omega) (by rw[HL.out];exact HBT.out);rw[HL.out]at this;exact this
 have BK:Q ((J w1 ⟨w.heap.size+1,0,A⟩ (C B (b:Int))).heap[w.heap.size+1]?=D (K #[C B (b:Int)] 3)):=kZ g0 _;obtain⟨W2,hW2⟩:∃W2:N,W2=J w1 ⟨w.heap.size+1,0,A⟩ (C B (b:Int)):=⟨_,rfl⟩;rw[<-hW2]at SE BK hgs k1 k2;have HW2:Q (W2=J w1 ⟨w.heap.size+1,0,A⟩ (C B (b:Int))):=hW2;clear hW2 g0 g1 g2 f1 f2 f3 c1 c2 d1 hgd hgw hg1 PT;have e1:(J w1 ⟨w.heap.size+1,0,A⟩ (C B (b:Int))).cell? ⟨w.heap.size,0,A⟩=D (H (D ⟨pb,po,A⟩) L cap):=by rw[<-HW2.out];exact k1
 go_wp2_with fail;rw[<-HW2.out];refine SE.out.mono ?_;rintro e w3⟨rfl,hg3⟩;have g0:=Qc hg3 BK.out;have g1:=UU g0;have g2:=kT g0;have g3:=UU (kZ g0 (C B (b:Int)));go_wp2;refine bodyPost_ret (v:=V #[C B (b:Int),C B (n:Int),C B 0]) (by simp[results,Tryz.results145,go_sem,g3]) rfl ?_;exact⟨rfl,Qd (Qa hgs hg3) _ (by omega) _ _⟩
theorem Az(w:N)(lb bb:Nat)(a:Option f)(cap:Nat)(l:PL)(b i:Nat)(hl:w.cell? ⟨lb,0,A⟩=D (H a l.length cap))(hb:w.cell? ⟨bb,0,A⟩=D (C B (b:Int)))(hv:Qs w (H a l.length cap) l)(hT:Zy l)(hi:i<l.length)(hb145:b<145):M F 156 #[C B (i:Int),.pointer (D ⟨lb,0,A⟩),.pointer (D ⟨bb,0,A⟩)] w fun e w'=>e=G (S (ZP (l.getD i ([],[])).1 b))∧E w w' A:=by
 obtain⟨pb,po,rfl,hat⟩:=hv.at i hi;obtain⟨vk,vv,c1,c2,s1,s2⟩:=hat;have hk:=hT.key i hi;have BT:Q (M F 147 #[vk,C B (b:Int)] w.drew fun e w'=>e=G (V #[S (ZP (l.getD i ([],[])).1 b),C B 0])∧E w.drew w' A):=Nj.of Bf w.drew vk _ b s1.drew hk hb145;generalize ZP (l.getD i ([],[])).1 b=z at*;have t1:(i:Int)<(l.length:Int):=by omega
 have hgd:=Qn (Qb w A);obtain⟨ka,kc,rfl⟩:=s1.shape;generalize l.getD i ([],[])=P at*;clear s1 s2 c2 hv hT;go_enter Tryz.func156,Tryz.ntmps156;go_wp2_with fail;go_region_with(go_at_call 147;refine BT.out.mono ?_;rintro e w1⟨rfl,hg1⟩);all_goals go_wp2;go_ret;exact⟨rfl,Qa hgd hg1⟩
theorem Dr(w:N)(lb bb:Nat)(a:Option f)(cap:Nat)(l:PL)(b n:Nat)(hl:w.cell? ⟨lb,0,A⟩=D (H a l.length cap))(hb:w.cell? ⟨bb,0,A⟩=D (C B (b:Int)))(hv:Qs w (H a l.length cap) l)(hT:Zy l)(hb145:b<145)(hn:n<=l.length)(hbit:∀j,j<l.length->ZP (l.getD j ([],[])).1 b=decide (n<=j)):M F 77 #[C B (l.length:Int),.func (.func 156) #[] #[.pointer (D ⟨lb,0,A⟩),.pointer (D ⟨bb,0,A⟩)]] w fun e w'=>e=G (C B (n:Int))∧E w w' A:=by
 have CL:Q (∀(w':N)(i:Nat),E w w' A->i<l.length->M F 156 #[C B (i:Int),.pointer (D ⟨lb,0,A⟩),.pointer (D ⟨bb,0,A⟩)] w' fun e w''=>e=G (S (decide (n<=i)))∧E w' w'' A):=fun w' i hg hi=>by have:=Az w' lb bb a cap l b i (hg.cell hl (by simp)) (hg.cell hb (by simp)) (hv.grown hg) hT hi hb145;rw[hbit i hi]at this;exact this
 have hroom:=hT.room;clear hl hb hv hT hbit;go_enter Y,W;go_wp2_with fail;go_loopw[5,6](fun si sj wr=>∃i j:Nat,i<=n∧n<=j∧j<=l.length∧si=C B (i:Int)∧sj=C B (j:Int)∧E w wr A)(fun si sj _=>(T sj).toNat-(T si).toNat);case atStart=>exact⟨0,l.length,by omega,hn,by omega,rfl,rfl,Qb _ _⟩
 case round=>obtain⟨i,j,hi,hj,hjl,rfl,rfl,hgr⟩:=hrel;by_cases hlt:i<j;(·(have t1:(i:Int)<(j:Int):=by omega);obtain⟨h,hh⟩:∃h:Nat,((i:Int)+(j:Int))/2=(h:Int):=⟨(i+j)/2,by omega⟩;(have b1:i<=h:=by omega);(have b2:h<j:=by omega);have CH:Q (M F 156 #[C B (h:Int),.pointer (D ⟨lb,0,A⟩),.pointer (D ⟨bb,0,A⟩)] wr fun e w''=>e=G (S (decide (n<=h)))∧E wr w'' A):=CL.out wr h hgr (by omega);go_wp2_with fail;refine CH.out.mono ?_;rintro e w1⟨rfl,hg1⟩;have hgw:=Qa hgr hg1;by_cases hz:n<=h;(·rw[decide_eq_true hz];go_wp2_with fail;go_roundw;(case rel=>first|exact⟨i,h,by omega,by omega,by omega,rfl,rfl,hgw⟩|((repeat apply O);refine⟨⟨i,h,by omega,by omega,by omega,rfl,?_,hgw⟩,rfl⟩;go_num));case measure=>simp[T];omega);·rw[decide_eq_false hz];go_wp2_with fail;go_roundw;(case rel=>first|exact⟨h+1,j,by omega,by omega,by omega,by go_num,rfl,hgw⟩|((repeat apply O);refine⟨⟨h+1,j,by omega,by omega,by omega,?_,rfl,hgw⟩,rfl⟩;go_num));case measure=>simp[T];omega);·(obtain rfl:i=n:=by omega);(obtain rfl:j=i:=by omega);go_wp2;go_ret;exact⟨rfl,hgr⟩
end Go.Proofs.YtaljfgkjfogmeaaGreatDoor
