/-
  Texts of this proof, joined, with few blanks: AcN, AcL, TScript.
-/
import Derived.Test.YtflkfielgfkchaaGreatDoorQ46
import Derived.Test.YtflkfielgfkchaaGreatDoorQ44
set_option maxRecDepth 100000
set_option maxHeartbeats 8000000
open Go renaming World->G,Value->I,heap_alloc_new->O,Oper->V
open Go.IntKind renaming i64->E
open Go.Obj renaming cells->J
open Go.Proofs.Tryz renaming prog->M
open Go.Value renaming slice->C,int->D
open Go.World renaming grownBy_alloc->H,grownBy->L,ownsRow_nil->Y
open List renaming take_of_length_le->R,not_mem_nil->S,mem_cons->T
open Option renaming none->F,some->N
namespace Go.Proofs.YtflkfielgfkchaaGreatDoor
open Go.RowKit
def Vu(rb:Nat)(w:G)(v:I)(l:List Ac):Prop:=Jk rb w v l∧(l=[]->v=C F 0 0)
theorem T6(rb:Nat)(w:G):Vu rb w (C F 0 0) []:=⟨OJ _ _,fun _=>rfl⟩
theorem Vu.grown{rb:Nat}{w w':G}{v:I}{l:List Ac}(h:Vu rb w v l)(hg:L w w' F):Vu rb w' v l:=⟨h.1.grownNone hg,h.2⟩
theorem Vu.shape{rb:Nat}{w:G}{v:I}{l:List Ac}(h:Vu rb w v l):∃a cap,v=C a l.length cap:=h.1.shape
theorem Vu.list{rb:Nat}{w:G}{v:I}{l:List Ac}(h:Vu rb w v l):XH w v l:=h.1.list
theorem Vu.row{rb:Nat}{w:G}{v:I}{l:List Ac}(h:Vu rb w v l):∀g,v.ownBlock=N g->∃cs t fz,w.heap[g]?=N (J cs t fz)∧¬Vi t∧t≠46∧∀q,cs[0]?≠N (D .u8 q):=fun g e=>by
 obtain⟨⟨us,hul,hr,hp⟩,h0⟩:=h;rcases hr.2with⟨rfl,_⟩|⟨g',cap,cur,rfl,hb,hg,hn,hmx,hcs,ht⟩;·cases e
 ·cases e;refine⟨cur,_,_,hg,by simp[Vi],by decide,fun q hq=>?_⟩;cases us with|nil=>have:=h0 (by rw[<-hul];rfl);cases this|cons x us=>(have hl:0<l.length:=by rw[<-hul];simp);(have e:(cur.toList.take (l.length*4))[0]?=(Jj (x::us))[0]?:=by rw[ht]);rw[List.getElem?_take,if_pos (by omega),Array.getElem?_toList,hq]at e;simp[Jj]at e
theorem Vu.other{rb:Nat}{w:G}{v:I}{l:List Ac}(h:Vu rb w v l){b:Nat}{cs:Array I}{t:TypeId}{fz:Nat×Nat}(hb:w.heap[b]?=N (J cs t fz))(ht:t≠27):N b≠v.ownBlock:=fun e=>by
 rcases h.1.row with h|⟨g,cur,fz',h1,_,h2⟩;·rw[h]at e;cases e
 ·rw[h1]at e;cases e;rw[hb]at h2;simp only[Option.some.injEq,Obj.cells.injEq]at h2;exact ht h2.2.1
structure mO (rb : Nat) (w w' : G) (v v' : I) (l : List Ac) : Prop where
  own : Vu rb w' v' l
  kl : KL w w'
  grown : L w w' v.ownBlock
theorem YZ{w:G}{ops:Array V}{rest:List V}{o:V}{a:Act}{Q:Exit->Act->G->Prop}(hgd:o.guard=F)(s x:Operand)(ho:o.op=.call {callee:=.builtin .append,args:=#[s,x],argTypes:=#[23,23]})(rb:Nat)(v:I)(l:List Ac)(hs:a.eval s=v)(hown:Vu rb w v l)(r2:Nat)(u:I)(m:List Ac)(hx:a.eval x=u)(hsrc:Jk r2 w u m)(hl:l.length+m.length<=1000)(hbase:rb<=w.heap.size)(h:∀v' w',mO rb w w' v v' (l++m)->wpList M ops Q rest (a.put o.dst v') w'):wpList M ops Q (o::rest) a w:=by
 by_cases h0:l++m=[];·obtain⟨rfl,rfl⟩:=List.append_eq_nil_iff.1 h0;have hv:=hown.2 rfl;obtain⟨xa,xc,rfl⟩:=hsrc.shape;obtain⟨i0,hi,hz0,hz1,hz2⟩:=info_parts Db;refine wpList_plain hgd fun K hK=>?_;have hrun:=zP (P:=M) (w:=w) rb 23 o.type 27 i0 4 Tryz.underlying23 hi (C F 0 0) 0 [] (Y _ _ _ _) xa xc;rw[hv]at hs;unfold Oper.wp;simp[execOp,ho,resolve,invoke,builtin,hs,hx,hrun,Result.andThen];rw[hv]at hown h;exact hK _ _ (h _ w ⟨hown,KL.refl _,⟨rfl,rfl,rfl,Nat.le_refl _,fun _ _ _=>rfl⟩⟩)
 ·refine Pc hgd s x ho rb v l hs hown.1 r2 u m hx hsrc (by omega) hbase fun v' w' h1 h2=>h v' w' ⟨⟨h1,fun e=>absurd e h0⟩,KL.turn h2 hown.row,h2⟩
theorem kA{rb:Nat}{w W w1:G}{v:I}{l:List Ac}(h:L w W F)(ho:Vu rb W v l)(hb:w.heap.size<=rb)(hg:L W w1 v.ownBlock):L w w1 F:=Tm h ho.1 hb hg
theorem Rb(W:G)(A:Ac)(vd:I)(hp:Qi 0 W vd A.data):Jk 0 (W.alloc (J #[D E A.kind,D E A.sess,D E A.keep,vd] 27)) (C (N ⟨W.heap.size,0,F⟩) 1 1) [A]:=Cq (w:=W.alloc _) 0 W.heap.size [(A,vd)] (O W _) (Nat.zero_le _) (by
 simp) fun y hy=>by
 simp only[T,S,or_false]at hy;subst hy;exact hp.keptT (H _ _ F) (.inl rfl)
theorem aK(W:G)(A B:Ac)(va vb:I)(ha:Qi 0 W va A.data)(hb:Qi 0 W vb B.data):Jk 0 (W.alloc (J #[D E A.kind,D E A.sess,D E A.keep,va,D E B.kind,D E B.sess,D E B.keep,vb] 27)) (C (N ⟨W.heap.size,0,F⟩) 2 2) [A,B]:=Cq (w:=W.alloc _) 0 W.heap.size [(A,va),(B,vb)] (O W _) (Nat.zero_le _) (by
 simp) fun y hy=>by
 simp only[T,S,or_false]at hy;rcases hy with rfl|rfl;·exact ha.keptT (H _ _ F) (.inl rfl)
 ·exact hb.keptT (H _ _ F) (.inl rfl)
theorem vS(w:G):Qi 0 w (C F 0 0) []:=⟨QC w,.inl rfl⟩
theorem Wj(W:G):Jk 0 (W.alloc (J #[D E 4,D E 0,D E 0,C F 0 0] 27)) (C (N ⟨W.heap.size,0,F⟩) 1 1) [Zb]:=Rb W Zb _ (vS W)
theorem lV(W:G):Jk 0 (W.alloc (J #[D E 2,D E 0,D E 0,C F 0 0] 27)) (C (N ⟨W.heap.size,0,F⟩) 1 1) [Pf]:=Rb W Pf _ (vS W)
theorem lC(W:G)(k:Int):Jk 0 (W.alloc (J #[D E 3,D E 0,D E k,C F 0 0] 27)) (C (N ⟨W.heap.size,0,F⟩) 1 1) [ZJ k]:=Rb W (ZJ k) _ (vS W)
theorem cO(W:G)(k:Int):Jk 0 (W.alloc (J #[D E 3,D E 0,D E k,C F 0 0,D E 4,D E 0,D E 0,C F 0 0] 27)) (C (N ⟨W.heap.size,0,F⟩) 2 2) [ZJ k,Zb]:=aK W (ZJ k) Zb _ _ (vS W) (vS W)
def Oz:Prop:=∀(w:G)(v:I)(l:List Gr)(most:Nat),JV w v l->Fy l->UD w->most<=1000->Calls M 12 #[v,D E (most:Int)] w fun e w'=>∃x,e=.returned x∧Vu w.heap.size w' x (XP l most)∧L w w' F
theorem Nd:Oz:=by
 intro w v l most hv hf hT hm;obtain⟨la,lc,rfl⟩:=hv.shape;have HF:Hid (Fy l):=hf;have HT:Hid (UD w):=hT;clear hf hT;go_enter Tryz.func12,Tryz.ntmps12;go_wp2_with fail;go_loopw[5,6](fun cv i wr=>∃m:Nat,m<=l.length∧m<=most∧i=D E (m:Int)∧Vu w.heap.size wr cv (XP l m)∧L w wr F)(fun _ i _=>l.length-(intOf i).toNat);case atStart=>exact⟨0,by omega,by omega,rfl,T6 _ _,Qb _ _⟩
 case round=>obtain⟨m,hml,hmm,rfl,hown,hg⟩:=hrel;obtain⟨ca,ccap,rfl⟩:=hown.shape;obtain⟨cs,hcs⟩:∃cs,cs=XP l m:=⟨_,rfl⟩;(have hcl:cs.length=m:=by rw[hcs,Br];omega);rw[<-hcs]at hown⊢;have HON:Hid (Vu w.heap.size wr (C ca cs.length ccap) cs):=hown;have HOW:Hid (Jk w.heap.size wr (C ca cs.length ccap) cs):=hown.1;have HCS:Hid (cs=XP l m):=hcs;(have hal2:cs.length<=1000:=by omega);have HCL:Hid (cs.length=m):=hcl;clear hown hcs hcl;by_cases hlt:m<l.length;(·(have i1:(m:Int)<(l.length:Int):=by omega);by_cases hlt2:m<most;(·(have i2:(m:Int)<(most:Int):=by omega);obtain⟨b,o,rfl,hat⟩:=hv.at m hlt;obtain⟨c1,c2,c3,c4,c5⟩:=hat.grown hg;have hpf:Tz (l.getD m kQ):=HF.out _ (by rw[List.getD_eq_getElem?_getD,List.getElem?_eq_getElem hlt];exact List.getElem_mem hlt);have HST:Hid (XP l (m+1)=XP l m++[Ez (l.getD m kQ)]):=Dg hlt;have KA:Hid (Calls M 24 #[.agg #[D E (l.getD m kQ).kind,D E (l.getD m kQ).sess,D E (l.getD m kQ).name,D E (l.getD m kQ).key,D E (l.getD m kQ).value]] wr (l6 wr (Ez (l.getD m kQ)))):=cH wr _ hpf (HT.out.grown hg);obtain⟨X,hX⟩:∃X,X=Ez (l.getD m kQ):=⟨_,rfl⟩;rw[<-hX]at KA HST;generalize l.getD m kQ=P at*;clear hat hpf hX;go_wp2_with fail;refine KA.out.mono ?_;rintro e w1⟨vd,rfl,hp,hg1⟩;obtain⟨va,vc,rfl⟩:=hp.slice.shape;obtain⟨W2,HW2,hg2,B2⟩:=Zn w1 (J #[D E X.kind,D E X.sess,D E X.keep,C va X.data.length vc] 27);obtain⟨⟨z0,z1,z2,z3⟩,_⟩:=Qj (Qb W2 F) B2.out;have hgw2:=Qa hg (Qa hg1 hg2);have HO2:Hid (Jk w.heap.size W2 (C ca cs.length ccap) cs):=HOW.out.grownNone (Qa hg1 hg2);have HP2:Hid (Qi 0 (W2.alloc (J #[D E X.kind,D E X.sess,D E X.keep,C va X.data.length vc] 27)) (C va X.data.length vc) X.data):=(hp.keptT hg2 (.inl rfl)).keptT (H _ _ _) (.inl rfl);have hsz2:=hgw2.size;clear hp HOW KA hg1 hg2 c1 c2 c3 c4 c5;obtain⟨B,hB⟩:∃B,B=w1.heap.size:=⟨_,rfl⟩;rw[<-hB]at z0 z1 z2 z3 B2;go_upto_region 6with fail;rw[<-HW2.out,<-hB];clear hB HW2;go_wp2_with(at_builtin;refine Pg rfl _ _ rfl w.heap.size (C ca cs.length ccap) cs rfl (HO2.out.alloc _) (C va X.data.length vc) X HP2.out W2.heap.size (O W2 _) rfl (by omega) (by simp;omega) ?_;intro v4 w4 ho4 hg4);have hgw4:L w w4 F:=Tm (Qw hgw2 _) (HO2.out.alloc _) (Nat.le_refl _) hg4;go_roundw;(case rel=>exact⟨m+1,by omega,by omega,by go_num,by rw[HST.out,<-HCS.out];exact⟨ho4,fun e=>by simp at e⟩,hgw4⟩);case measure=>simp[intOf]<;>omega);·(have i2:¬(m:Int)<(most:Int):=by omega);(obtain rfl:m=most:=by omega);go_wp2;go_ret;exact⟨_,rfl,by rw[<-HCS.out];exact HON.out,hg⟩);·(have i1:¬(m:Int)<(l.length:Int):=by omega);(have HEQ:Hid (XP l most=XP l m):=by show _=_;unfold XP;rw[R (by omega),R (by omega)]);go_wp2;go_ret;exact⟨_,rfl,by rw[HEQ.out,<-HCS.out];exact HON.out,hg⟩
theorem An:E0:=fun w v l most hv hf hT hm=>(Nd w v l most hv hf hT hm).mono fun _ _⟨x,h1,h2,h3⟩=>⟨x,h1,h2.1,h3⟩
end Go.Proofs.YtflkfielgfkchaaGreatDoor
