/-
  Texts of this proof, joined, with few blanks: FolM.
-/
import Derived.Deep.MidRow
import Derived.Test.YtpdbpagohccbpaaGreatDoorQ46
set_option maxRecDepth 100000
set_option maxHeartbeats 8000000
open Array renaming all_eq_true_iff_forall_mem->tE
open Go renaming World->Y,Value->tA,Oper->tF,TypeId->tH
open Go.Value renaming slice->tB,bool->tD,int->tG
open Go.World renaming grownBy->tC
open Option renaming none->V,some->X
namespace Go.Proofs.YtpdbpagohccbpaaGreatDoor
open Go.RowKit
def fK{α:Type}(l:List α):Array α:=l.toArray
theorem TN{α:Type}(l:List α):Array.mk l=fK l:=rfl
theorem IZ{G:Prop}(h:∀T:Prop,PLift (T=G)->T):G:=h G ⟨rfl⟩
def w8(f:Nat->Bool):Array tA:=#[tD (f 0),tD (f 1),tD (f 2),tD (f 3),tD (f 4),tD (f 5),tD (f 6),tD (f 7)]
theorem gB(f:Nat->Bool){s:Nat}(hs:s<8):(w8 f)[s]?=X (tD (f s)):=by
 rcases(by omega:s=0∨s=1∨s=2∨s=3∨s=4∨s=5∨s=6∨s=7)with rfl|rfl|rfl|rfl|rfl|rfl|rfl|rfl<;>rfl
theorem d9(f:Nat->Bool){s:Nat}(hs:s<8)(x:Bool):(w8 f).setIfInBounds s (tD x)=w8 (Kv f s x):=by
 rcases(by omega:s=0∨s=1∨s=2∨s=3∨s=4∨s=5∨s=6∨s=7)with rfl|rfl|rfl|rfl|rfl|rfl|rfl|rfl<;>simp[w8,Kv]
theorem FF{w:Y}{b:Nat}{f:Nat->Bool}{t:tH}{fz:Nat×Nat}(h:w.heap[b]?=X (.cells (w8 f) t fz)){s:Nat}(hs:s<8):w.cell? ⟨b,s,V⟩=X (tD (f s)):=Qm h (gB f hs)
theorem Ao{w:Y}{b:Nat}{f:Nat->Bool}{t:tH}{fz:Nat×Nat}(h:w.heap[b]?=X (.cells (w8 f) t fz)){s:Nat}(hs:s<8)(x:Bool):(w.setCell ⟨b,s,V⟩ (tD x)).heap[b]?=X (.cells (w8 (Kv f s x)) t fz):=by
 rw[Qj h,d9 f hs]
theorem IU{f g:Nat->Bool}(h:∀s,s<8->f s=g s):w8 f=w8 g:=by
 simp[w8,h]
abbrev dV(k s m:Int)(d:tA):Array tA:=#[tG .i64 k,tG .i64 s,tG .i64 m,d,tD false,tG .i64 0,tB V 0 0,tB V 0 0,tB V 0 0,tB V 0 0,tG .i64 0,tG .i64 0,tG .i64 0,tD false,tB V 0 0,tB V 0 0,tB V 0 0,tD false,tB V 0 0,tB V 0 0,tB V 0 0,tD false,tB V 0 0,tB V 0 0,tB V 0 0,tD false]
def PC(w:Y)(b:Nat):Prop:=∃x0 x1 x2 x3 x4 x5 x6 x7 x8 x9 x10 x11 x12 x13 x14 x15 x16 x17 x18 x19 x20 x21 x22 x23 x24 x25:tA,w.heap[b]?=X (.cells #[x0,x1,x2,x3,x4,x5,x6,x7,x8,x9,x10,x11,x12,x13,x14,x15,x16,x17,x18,x19,x20,x21,x22,x23,x24,x25] 56)∧∀x∈[x0,x1,x2,x3,x4,x5,x6,x7,x8,x9,x10,x11,x12,x13,x14,x15,x16,x17,x18,x19,x20,x21,x22,x23,x24,x25],x.oneCell'=true
theorem PC.other{w w':Y}{b c:Nat}(h:PC w b)(hg:tC w w' (X c))(hn:b≠c):PC w' b:=by
 obtain⟨v,x,y,z,A,B,C,D,E,F,a,d,e,f,g,i,j,k,l,m,n,o,p,q,r,s,t,u⟩:=h;exact⟨v,x,y,z,A,B,C,D,E,F,a,d,e,f,g,i,j,k,l,m,n,o,p,q,r,s,by rw[hg.block b (Array.getElem?_eq_some_iff.1 t).1 (by simpa using hn)];exact t,u⟩
def Ja(base:Nat)(w:Y)(v:tA)(n:Nat):Prop:=∃us:List tA,w.ownsRow base 56 26 v n us∧(n=0->v=tB V 0 0)
theorem WI(base:Nat)(w:Y):Ja base w (tB V 0 0) 0:=⟨[],World.ownsRow_nil _ _ _ _,fun _=>rfl⟩
theorem Ja.lt{base:Nat}{w:Y}{v:tA}{n:Nat}(h:Ja base w v n):∀g,v.ownBlock=X g->base<=g∧g<w.heap.size:=by
 obtain⟨a,h,_⟩:=h;exact World.ownsRow.lt h
theorem Ja.kept{base:Nat}{w w':Y}{v:tA}{n:Nat}(h:Ja base w v n)(hs:∀g,v.ownBlock=X g->w'.heap[g]?=w.heap[g]?):Ja base w' v n:=by
 obtain⟨e,h,b⟩:=h;refine⟨e,⟨h.1,?_⟩,b⟩;rcases h.2with h|⟨g,cap,a,rfl,c,d,rest⟩;·exact .inl h
 ·exact .inr ⟨g,cap,a,rfl,c,by rw[hs g rfl];exact d,rest⟩
theorem Ja.grown{base:Nat}{w w':Y}{v:tA}{n:Nat}(h:Ja base w v n)(hg:tC w w' V):Ja base w' v n:=h.kept fun g e=>hg.block g (h.lt g e).2 (by
 simp)
theorem Ja.apart{base:Nat}{w:Y}{v:tA}{n b:Nat}(h:Ja base w v n)(hb:b<base):X b≠v.ownBlock:=fun e=>by
 have:=(h.lt b e.symm).1;omega
theorem Ja.below{base:Nat}{w w':Y}{v:tA}{n b:Nat}(h:Ja base w v n)(hb:b<base)(hg:tC w w' (X b)):Ja base w' v n:=h.kept fun g e=>hg.block g (h.lt g e).2 fun a=>by
 have:=(h.lt g e).1;cases a;omega
theorem US{w w1 w2:Y}{r:Option Nat}(h:tC w w1 r)(k:tC w1 w2 V):tC w w2 r:=⟨k.os.trans h.os,k.tape.trans h.tape,k.output.trans h.output,Nat.le_trans h.size k.size,fun i a b=>(k.block i (Nat.lt_of_lt_of_le a h.size) (by
 simp)).trans (h.block i a b)⟩
theorem CG{w w1 w2:Y}{r:Option Nat}{base:Nat}{v:tA}{n:Nat}(h:tC w w1 r)(ho:Ja base w1 v n)(hb:w.heap.size<=base)(k:tC w1 w2 v.ownBlock):tC w w2 r:=⟨k.os.trans h.os,k.tape.trans h.tape,k.output.trans h.output,Nat.le_trans h.size k.size,fun i a b=>(k.block i (Nat.lt_of_lt_of_le a h.size) (fun e=>by
 have:=(ho.lt i e.symm).1;omega)).trans (h.block i a b)⟩
theorem Ks{P:Program}{ops:Array tF}{rest:List tF}{o:tF}{a:Act}{w:Y}{Q:Exit->Act->Y->Prop}(hgd:o.guard=V)(hds:o.dst=V)(ty:tH)(x y:Operand)(ho:o.op=.store ty x y)(g k:Nat)(cells:Array tA)(hx:a.eval x=.pointer (X ⟨g,k,V⟩))(hy:a.eval y=.agg cells)(t:tH)(old new:Array tA)(hg:w.heap[g]?=X (.cells old t (0,0)))(hi:(P.info? ty).map (·.size)=X cells.size)(hl0:decide (k+cells.size<=old.size)=true)(h1:cells.all (·.oneCell')=true)(hn:old.toList.take k++cells.toList++old.toList.drop (k+cells.size)=new.toList)(h:∀W:Y,W.heap[g]?=X (.cells new t (0,0))->tC w W (X g)->wpList P ops Q rest a W):wpList P ops Q (o::rest) a w:=by
 have d:k+cells.size<=old.size:=of_decide_eq_true hl0;refine wpList_plain hgd fun _ c=>?_;have b:(storeVar ty ⟨g,k,V⟩ (.agg cells)).run P w=.ok () (w.setRow g new):=by have:=run_storeCells_at (P:=P) g k t cells.toList 0 old w hg (by simpa using d) (fun v j=>(tE.1 h1) v (by simpa using j));rw[Nat.add_zero,Array.length_toList,hn,Array.toArray_toList]at this;cases hq:P.info? ty with|none=>simp[hq]at hi|some i=>(have f:cells.size=i.size:=by simp[hq]at hi;omega);simp[storeVar,sizeOf,typeInfo,hq,Value.cells,f,this]
 unfold Oper.wp execOp;simp only[ho,hx,hy,Instr.storeAt,Instr.sureAddr,Sem.run_bind,Sem.run_pure,Result.andThen_ok,b];exact c (a.put o.dst undef) _ (by rw[hds];exact h _ (setRow_heap w g _ new t _ hg) ⟨rfl,rfl,rfl,by rw[size_setRow];exact Nat.le_refl _,fun i _ hn=>setRow_other _ _ _ _ (fun e=>hn (by rw[e]))⟩)
theorem cM{w:Y}{b k:Nat}{z0 z1 z2 z3 z4 z5 z6 z7 z8 z9 z10 z11 z12 z13 z14:tA}(h0:w.cell? ⟨b,k,V⟩=X z0)(h1:w.cell? ⟨b,k+1,V⟩=X z1)(h2:w.cell? ⟨b,k+2,V⟩=X z2)(h3:w.cell? ⟨b,k+3,V⟩=X z3)(h4:w.cell? ⟨b,k+4,V⟩=X z4)(h5:w.cell? ⟨b,k+5,V⟩=X z5)(h6:w.cell? ⟨b,k+6,V⟩=X z6)(h7:w.cell? ⟨b,k+7,V⟩=X z7)(h8:w.cell? ⟨b,k+8,V⟩=X z8)(h9:w.cell? ⟨b,k+9,V⟩=X z9)(h10:w.cell? ⟨b,k+10,V⟩=X z10)(h11:w.cell? ⟨b,k+11,V⟩=X z11)(h12:w.cell? ⟨b,k+12,V⟩=X z12)(h13:w.cell? ⟨b,k+13,V⟩=X z13)(h14:w.cell? ⟨b,k+14,V⟩=X z14):w.rangeAt b k [z0,z1,z2,z3,z4,z5,z6,z7,z8,z9,z10,z11,z12,z13,z14]:=by
 intro j v a;match j,a with|0,a=>cases a;exact h0|1,a=>cases a;exact h1|2,a=>cases a;exact h2|3,a=>cases a;exact h3|4,a=>cases a;exact h4|5,a=>cases a;exact h5|6,a=>cases a;exact h6|7,a=>cases a;exact h7|8,a=>cases a;exact h8|9,a=>cases a;exact h9|10,a=>cases a;exact h10|11,a=>cases a;exact h11|12,a=>cases a;exact h12|13,a=>cases a;exact h13|14,a=>cases a;exact h14|j+15,a=>simp at a
theorem aM{w:Y}{a:Option Addr}{n cap:Nat}{l:List Rp}(h:VJ w (tB a n cap) l)(i:Nat)(hi:i<l.length):∃(b o:Nat)(y2 y3 y4 y5 y6 y7 y8 y9 y10 y11 y12 y13 y14:tA),a=X ⟨b,o,V⟩∧w.rangeAt b (o+i*15) [tG .i64 (l.getD i U1).sess,tG .i64 (l.getD i U1).code,y2,y3,y4,y5,y6,y7,y8,y9,y10,y11,y12,y13,y14]∧∀y∈[y2,y3,y4,y5,y6,y7,y8,y9,y10,y11,y12,y13,y14],y.oneCell'=true:=by
 obtain⟨b,o,I,N,J,O,K,P,L,Q,M,R,m,s,p,t,q,u,r,v,e,x,z,A,B,C,D,E,F,G,H,c,d,f,g,j,_⟩:=h.all i hi;refine⟨b,o,_,_,_,_,_,_,_,_,_,_,_,_,_,e,cM x z A B C D E F G H c d f g j,fun y k=>?_⟩;simp only[List.mem_cons,List.not_mem_nil,or_false]at k;rcases k with rfl|rfl|rfl|rfl|rfl|rfl|rfl|rfl|rfl|rfl|rfl|rfl|rfl<;>rfl
theorem ZL{P:Program}{md:Region.Mode}{ops:Array tF}{Q:Exit->Act->Y->Prop}{S:Y->Prop}{i:Nat}{oi:tF}{v:tA}{fuel:Nat}{listed:Array Bool}{a:Act}{w:Y}(d:Option Tmp)(hi:ops[i]?=X oi)(hd:oi.dst=d)(hs:Region.noSelect ops=true)(hf:Region.free md ops listed i=true)(hr:(Region.ready md ops listed).contains i=true)(hQ:∀c a w,Q (.panic c) (a.put d v) w->Q (.panic c) a w)(hy:YieldsIf P ops S oi v a)(hS:S w)(h:wpAnyH P md ops Q S fuel (listed.setIfInBounds i true) (a.put d v) w):wpAnyH P md ops Q S (fuel+1) listed a w:=by
 subst hd;exact wpAnyH_take hi hs hf hr hQ hy hS h
theorem Lt{P:Program}{md:Region.Mode}{ops:Array tF}{Q:Exit->Act->Y->Prop}{S:Y->Prop}{k n:Nat}{done:Array Bool}{a:Act}{w:Y}{o:tF}{f:FuncId}{vs:Array tA}{R:Ending->Y->Prop}(d:Option Tmp)(hr:Region.ready md ops done=[k])(ho:ops[k]?=X o)(hd:o.dst=d)(hw:Region.wanted o (yielded ops a.tmps)=true)(hrun:(execOp a.eval o).run P w=.ok (.enter f vs) w)(hc:Calls P f vs w R)(h:∀e w',R e w'->∃v,e=.returned v∧S w'∧wpAnyH P md ops Q S n (done.setIfInBounds k true) (a.put d v) w'):wpAnyH P md ops Q S (n+1) done a w:=by
 subst hd;exact wpAnyH_all hr (by simp) fun i b=>by(obtain rfl:i=k:=by simpa using b);exact wpOp_step ho fun c g=>by rw[if_pos hw];show o.upon P a c Q ((execOp a.eval o).run P w);rw[hrun,Oper.upon_enter];refine hc.mono ?_;rintro e w' l;obtain⟨v,rfl,j,m⟩:=h e w' l;exact g _ _ ⟨j,m⟩
theorem fE:(Tryz.prog.info? 56).map (fun i=>(i.zero,i.size,i.bytes))=X (X (.agg (dV 0 0 0 (tB V 0 0))),26,432):=by
 kernel_rfl
theorem IE{w:Y}{b o:Nat}{v:tA}(h:w.cell? ⟨b,o,V⟩=X v):b<w.heap.size:=by
 unfold World.cell? at h;by_cases a:b<w.heap.size;·exact a
 ·simp[Array.getElem?_eq_none (by omega:w.heap.size<=b)]at h
theorem BL{w w1 w2:Y}{r:Option Nat}(h:tC w w1 r)(k:tC w1 w2 r):tC w w2 r:=Qa h k
theorem Ob{w:Y}{b:Nat}{x0 x1 x2 x3 x4 x5 x6 x7 x8 x9 x10 x11 x12 x13 x14 x15 x16 x17 x18 x19 x20 x21 x22 x23 x24 x25:tA}(h:w.heap[b]?=X (.cells #[x0,x1,x2,x3,x4,x5,x6,x7,x8,x9,x10,x11,x12,x13,x14,x15,x16,x17,x18,x19,x20,x21,x22,x23,x24,x25] 56))(h1:(#[x0,x1,x2,x3,x4,x5,x6,x7,x8,x9,x10,x11,x12,x13,x14,x15,x16,x17,x18,x19,x20,x21,x22,x23,x24,x25]:Array tA).all (·.oneCell')=true):PC w b:=⟨_,_,_,_,_,_,_,_,_,_,_,_,_,_,_,_,_,_,_,_,_,_,_,_,_,_,h,fun x a=>(tE.1 h1) x (by
 simpa using a)⟩
theorem Pv{w:Y}{ops:Array tF}{rest:List tF}{o:tF}{a:Act}{Q:Exit->Act->Y->Prop}(hgd:o.guard=V)(s x:Operand)(ho:o.op=.call {callee:=.builtin .append,args:=#[s,x],argTypes:=#[31,31]})(base:Nat)(v:tA)(n:Nat)(hs:a.eval s=v)(hown:Ja base w v n)(nb:Nat)(cs:List tA)(hcl:cs.length=26)(hb:∀j u,cs[j]?=X u->w.cell? ⟨nb,j,V⟩=X u)(h1:∀u∈cs,u.oneCell'=true)(hx:a.eval x=tB (X ⟨nb,0,V⟩) 1 1)(hl:n<=100000)(hbase:base<=w.heap.size)(h:∀v' w',Ja base w' v' (n+1)->tC w w' v.ownBlock->wpList Tryz.prog ops Q rest (a.put o.dst v') w'):wpList Tryz.prog ops Q (o::rest) a w:=by
 obtain⟨q,hown,_⟩:=hown;obtain⟨p,k,b,c,d⟩:=info_parts fE;refine wpList_plain hgd fun _ f=>wp_append_lies w s x 31 ho base 56 p _ 26 432 Tryz.underlying31 k b c d rfl (by decide) v n q hs hown ⟨nb,0,V⟩ 1 1 cs hx (by rw[hcl]) (fun j u l=>by rw[ZU,Nat.zero_add];exact hb j u l) h1 (by omega) (by unfold maxLen;omega) (by omega) hbase _ rfl ?_;intro g cap w' m i _ _;exact f _ _ (h _ w' ⟨_,m,fun e=>by omega⟩ i)
end Go.Proofs.YtpdbpagohccbpaaGreatDoor
