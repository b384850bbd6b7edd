/-
  Texts of this proof, joined, with few blanks: SvM, TxIdR, TxIdW, TpApp, TpMayP, RootMem, PCPr, FCProve, FCRoot, HsKeptP, KPick, LFV, TpRec.
-/
import Derived.Test.YtieoehicoocpjaaGreatDoorQ3
set_option maxRecDepth 100000
set_option maxHeartbeats 8000000
open Array renaming getElem?_eq_some_iff->P
open Bool renaming false->S,true->tD
open Go renaming World->C,Value->D,Calls->M,undef->V,TypeId->tN
open Go.Ending renaming returned->F
open Go.IntKind renaming i64->J,wrap_i64->tP
open Go.Obj renaming cells->O
open Go.Proofs.Tryz renaming prog->E,ntmps82->d,ntmps92->j,func82->z,func92->tA,ntmps23->tJ,func23->tL
open Go.RowKit renaming Hid->T,intOf->tM
open Go.Value renaming int->I,slice->L,bool->X,ownBlock->tC,tuple->tE,agg->tG
open Go.World renaming grownBy->A,grownBy_alloc->N,cell?->tI
open List renaming eq_nil_of_length_eq_zero->tB,take_length->tH
open Nat renaming lt_of_lt_of_le->Y,zero_add->tK
open Option renaming some->G,none->H
namespace Go.Proofs.YtieoehicoocpjaaGreatDoor
open Go.RowKit
def jN(r:Rp):List UInt8:=match r.pf with|G (f,_,_)=>GS f|none=>[]
def Jb(r:Rp):Dj:=match r.pf with|G (f,n,k)=>Kb f n k|none=>U3
def Ja(r:Rp):Dj:=match r.pf with|G (f,n,k)=>Ke f n k|none=>U3
def qY(w:C)(v:D)(r:Rp):Prop:=∃vv vp vr oe os ok ov ie is ik iv,v=tG #[I J r.sess,I J r.code,I J r.turn,X r.found,vv,vp,vr,oe,os,ok,ov,ie,is,ik,iv]∧Qe w vv r.value∧Qq w vp r.pairs∧Qe w vr (jN r)∧KH w (tG #[oe,os,ok,ov]) (Jb r)∧KH w (tG #[ie,is,ik,iv]) (Ja r)
theorem qY.grown{w w':C}{v:D}{r:Rp}(h:qY w v r)(hg:A w w' H):qY w' v r:=by
 obtain⟨vv,vp,vr,oe,os,ok,ov,ie,is,ik,iv,rfl,h1,h2,h3,h4,h5⟩:=h;exact⟨vv,vp,vr,oe,os,ok,ov,ie,is,ik,iv,rfl,h1.grown hg,h2.grown hg,h3.grown hg,h4.grown hg,h5.grown hg⟩
def iA(w:C)(cs:List D)(r:Rp):Prop:=qY w (tG ⟨cs⟩) r
def iF(w:C)(cs:List D)(c:XA):Prop:=∃vw,cs=[I J c.turn,vw]∧Xm 0 w vw c.writes
def iD(w:C)(cs:List D)(f:FL):Prop:=∃v,cs=[v]∧Zy 0 w v f
def iC(_:C)(cs:List D)(n:Nat):Prop:=cs=[I J (n:Int)]
abbrev Yr:=JA 48 15 iA
abbrev Ko:=JA 188 2 iF
abbrev JW:=JA 31 1 iD
abbrev UZ:=JA 3 1 iC
def Zq(v:Sv):List FL:=(List.range (v.commits.length+1)).map (Qz v)
theorem UJ(v:Sv):(Zq v).length=v.commits.length+1:=by
 simp[Zq]
theorem Bv(v:Sv){n:Nat}(h:n<=v.commits.length):(Zq v).getD n []=Qz v n:=by
 simp[Zq,List.getD,List.getElem?_map,List.getElem?_range (show n<v.commits.length+1by omega)]
def Jj(v:Sv)(s:Nat):Int:=if v.waits s=tD then 2 else if v.begun s=tD then 1 else 0
def gU(_B:Nat)(w:C)(v:Sv)(s:Nat)(cs:Array D):Prop:=∃t vr vw,cs[7+s*4]?=G (I J (Jj v s))∧cs[7+s*4+1]?=G (I J t.start)∧cs[7+s*4+2]?=G vr∧cs[7+s*4+3]?=G vw∧Zc 0 w (fun w=>Gx w (tG #[I J t.start,vr,vw]) t)∧(v.begun s=tD->t=v.txns s)
structure YY (R B : Nat) (w : C) (v : Sv) (cs : Array D) : Prop where
  size : cs.size = 40
  up : cs[0]? = G (X v.up)
  tape : ∃ vd, cs[1]? = G vd ∧ Zc 0 w (fun w => Qe w vd v.tape.data)
  mark : cs[2]? = G (I J v.tape.synced)
  commits : ∃ u, cs[3]? = G u ∧ Ko B w u v.commits
  forests : ∃ u, cs[4]? = G u ∧ JW B w u (Zq v)
  synced : cs[5]? = G (I J (v.synced : Int))
  queue : ∃ u, cs[6]? = G u ∧ UZ B w u v.queue
  sess : ∀ s, s < 8 -> gU B w v s cs
  replies : ∃ u, cs[39]? = G u ∧ Yr B w u v.out ∧ ∀ g, u.ownBlock = G g -> g < R
def ZS(R B:Nat)(w:C)(b:Nat)(v:Sv):Prop:=∃cs,B<=b∧w.heap[b]?=G (O cs 90 (0,0))∧YY R B w v cs
theorem Pa:vP 90:=.inl rfl
theorem kQ:vP 48:=.inr (.inl rfl)
theorem gF:vP 188:=.inr (.inr (.inl rfl))
theorem gR:vP 31:=.inr (.inr (.inr (.inl rfl)))
theorem gE:vP 3:=.inr (.inr (.inr (.inr rfl)))
theorem gU.later{B:Nat}{w w':C}{v:Sv}{s:Nat}{cs:Array D}(h:gU B w v s cs)(k:Kp B w w'):gU B w' v s cs:=by
 obtain⟨t,vr,vw,h1,h2,h3,h4,h5,h6⟩:=h;exact⟨t,vr,vw,h1,h2,h3,h4,h5.later k,h6⟩
theorem YY.grown{R B:Nat}{w w':C}{v:Sv}{cs:Array D}(h:YY R B w v cs)(hg:A w w' H):YY R B w' v cs:=by
 obtain⟨h0,h1,⟨x2,h2,k2⟩,h3,⟨x4,h4,k4⟩,⟨x5,h5,k5⟩,h6,⟨x7,h7,k7⟩,h8,⟨x9,h9,k9,r9⟩⟩:=h;exact⟨h0,h1,⟨x2,h2,k2.grown hg⟩,h3,⟨x4,h4,k4.grown hg⟩,⟨x5,h5,k5.grown hg⟩,h6,⟨x7,h7,k7.grown hg⟩,fun s hs=>(h8 s hs).later (Kp.grown hg),⟨x9,h9,k9.grown hg,r9⟩⟩
theorem YY.turned{R B:Nat}{w w':C}{v:Sv}{cs:Array D}(h:YY R B w v cs){g:Nat}{ds:Array D}{t:tN}{fz:Nat×Nat}(hk:Kp B w w')(hg:A w w' (G g))(hb:w.heap[g]?=G (O ds t fz))(h1':t≠48)(h2':t≠188)(h3':t≠31)(h4':t≠3):YY R B w' v cs:=by
 obtain⟨h0,h1,⟨x2,h2,k2⟩,h3,⟨x4,h4,k4⟩,⟨x5,h5,k5⟩,h6,⟨x7,h7,k7⟩,h8,⟨x9,h9,k9,r9⟩⟩:=h;exact⟨h0,h1,⟨x2,h2,k2.later hk⟩,h3,⟨x4,h4,k4.other (by decide) hk hg (.inr ⟨g,ds,t,fz,rfl,hb,h2'⟩)⟩,⟨x5,h5,k5.other (by decide) hk hg (.inr ⟨g,ds,t,fz,rfl,hb,h3'⟩)⟩,h6,⟨x7,h7,k7.other (by decide) hk hg (.inr ⟨g,ds,t,fz,rfl,hb,h4'⟩)⟩,fun s hs=>(h8 s hs).later hk,⟨x9,h9,k9.other (by decide) hk hg (.inr ⟨g,ds,t,fz,rfl,hb,h1'⟩),r9⟩⟩
theorem YY.box{R B:Nat}{w w':C}{v:Sv}{cs:Array D}(h:YY R B w v cs){nb:Nat}{ds:Array D}{fz:Nat×Nat}(hk:Kp B w w')(hg:A w w' (G nb))(hn:R<=nb)(hb:w.heap[nb]?=G (O ds 48 fz)):YY R B w' v cs:=by
 obtain⟨h0,h1,⟨x2,h2,k2⟩,h3,⟨x4,h4,k4⟩,⟨x5,h5,k5⟩,h6,⟨x7,h7,k7⟩,h8,⟨x9,h9,k9,r9⟩⟩:=h;refine⟨h0,h1,⟨x2,h2,k2.later hk⟩,h3,⟨x4,h4,k4.other (by decide) hk hg (.inr ⟨nb,ds,_,fz,rfl,hb,by decide⟩)⟩,⟨x5,h5,k5.other (by decide) hk hg (.inr ⟨nb,ds,_,fz,rfl,hb,by decide⟩)⟩,h6,⟨x7,h7,k7.other (by decide) hk hg (.inr ⟨nb,ds,_,fz,rfl,hb,by decide⟩)⟩,fun s hs=>(h8 s hs).later hk,⟨x9,h9,k9.kept hk (fun g e=>hg.block g (k9.lt g e).2 (fun q=>?_)),r9⟩⟩;have:=r9 g e;cases q;omega
theorem YY.more{R R' B:Nat}{w:C}{v:Sv}{cs:Array D}(h:YY R B w v cs)(hR:R<=R'):YY R' B w v cs:=by
 obtain⟨h0,h1,h2,h3,h4,h5,h6,h7,h8,⟨x9,h9,k9,r9⟩⟩:=h;exact⟨h0,h1,h2,h3,h4,h5,h6,h7,h8,⟨x9,h9,k9,fun g e=>Y (r9 g e) hR⟩⟩
theorem Gy{R B:Nat}{w:C}{v:Sv}{cs:Array D}(h:YY R B w v cs):∀q,cs[0]?≠G (I .u8 q):=fun q e=>by
 rw[h.up]at e;cases e
theorem Yv{R B:Nat}{w w':C}{v:Sv}{b:Nat}{cs:Array D}(h:YY R B w v cs)(hB:B<=b)(hb:w.heap[b]?=G (O cs 90 (0,0)))(hg:A w w' (G b)):Kp B w w'∧YY R B w' v cs:=have k:=Kp.turn hg hB hb Pa (Gy h);⟨k,h.turned k hg hb (by
 decide) (by
 decide) (by
 decide) (by
 decide)⟩
theorem Qn{w:C}{b i:Nat}{cs:Array D}{t:tN}{u:D}{fz:Nat×Nat}(hb:w.heap[b]?=G (O cs t fz))(h:cs[i]?=G u):w.cell? ⟨b,i,H⟩=G u:=by
 simp[tI,hb,h]
theorem Qm{w:C}{b:Nat}{cs:Array D}{t:tN}(hb:w.heap[b]?=G (O cs t (0,0)))(i:Nat):w.frozen? ⟨b,i,H⟩=S:=by
 simp[World.frozen?,hb]
theorem Ti(w:C)(v:D)(l:List Rd)(p:Rd->Bool)(g:Nat)(lb:Array D)(eg:∀args w,(callFunc g args).run E w=.ok (.enter g args) w)(hv:Xa w v l)(hl:l.length<=140737488355328)(hp:∀W x r,A w W H->Yq W x r->M E g (#[x]++lb) W fun e w'=>e=F (X (p r))∧A W w' H):M E 148 #[v,.func (.func g) #[] lb] w fun e w'=>e=F (I J (ZL p l))∧A w w' H:=by
 obtain⟨a,cap,rfl⟩:=hv.shape;have HV:T (Xa w (L a l.length cap) l):=hv;have HP:T (∀W x r,A w W H->Yq W x r->M E g (#[x]++lb) W fun e w'=>e=F (X (p r))∧A W w' H):=hp;obtain⟨Z,hZ⟩:∃Z,Z=ZL p l:=⟨_,rfl⟩;have HZ1:T (∀m,m<l.length->(l.take m).any p=S->p (l.getD m Zg)=tD->Z=(m:Int)):=fun m h1 h2 h3=>by rw[hZ];exact G5 p Zg l m h1 h2 h3
 have HZ2:T (l.any p=S->Z=-1):=fun h=>by rw[hZ];exact KX p l h
 rw[<-hZ];clear hv hp hZ;go_enter Tryz.func148,Tryz.ntmps148;go_wp2_with fail;go_loopw[5,8](fun _ i wr=>∃m:Nat,m<=l.length∧i=I J (m:Int)∧(l.take m).any p=S∧A w wr H)(fun _ i _=>l.length-(tM i).toNat);case atStart=>exact⟨0,by omega,rfl,by simp,Qb _ _⟩
 case round=>obtain⟨m,hm,rfl,han,hg⟩:=hrel;by_cases hlt:m<l.length;(·(have i1:(m:Int)<(l.length:Int):=by omega);obtain⟨b,o,rfl,u1,u2,u3,u4,u5,u6,⟨c1,c2,c3,c4⟩,hr⟩:=zD HV.out m hlt;have z1:=hg.cell c1 (by simp);have z2:=hg.cell c2 (by simp);have z3:=hg.cell c3 (by simp);have z4:=hg.cell c4 (by simp);have hcall:=HP.out wr _ _ hg (hr.grown hg);have HA:T ((l.take (m+1)).any p=((l.take m).any p||p (l.getD m Zg))):=Pl Zg p l m hlt;have HZ3:T (p (l.getD m Zg)=tD->Z=(m:Int)):=fun h=>HZ1.out m hlt han h;have HAN:T ((l.take m).any p=S):=han;clear han hr c1 c2 c3 c4;have HC:T (M E g (#[tG #[L u1 (l.getD m Zg).name.length u2,L u3 (l.getD m Zg).key.length u4,X (l.getD m Zg).wide,L u5 (l.getD m Zg).last.length u6]]++lb) wr fun e w'=>e=F (X (p (l.getD m Zg)))∧A wr w' H):=hcall;clear hcall;generalize p (l.getD m Zg)=B at*;generalize(l.getD m Zg).name.length=n1 at*;generalize(l.getD m Zg).key.length=n2 at*;generalize(l.getD m Zg).last.length=n3 at*;generalize(l.getD m Zg).wide=g1 at*;cases B with|true=>have HZ:T (Z=(m:Int)):=HZ3.out rfl;clear HZ3 HA;go_wp2_with fail;refine HC.out.mono ?_;rintro e w2⟨rfl,hg2⟩;go_wp2;go_ret;exact⟨ZZ HZ.out,Qa hg hg2⟩|false=>(have HN:T ((l.take (m+1)).any p=S):=by show _=_;rw[HA.out,HAN.out];rfl);clear HZ3 HA;go_wp2_with fail;refine HC.out.mono ?_;rintro e w2⟨rfl,hg2⟩;go_wp2_with fail;go_roundw;(case rel=>exact⟨m+1,by omega,by go_num,HN.out,Qa hg hg2⟩);case measure=>simp[tM];omega);·(obtain rfl:m=l.length:=by omega);(have i1:¬(l.length:Int)<(l.length:Int):=by omega);rw[tH]at han;have HZ:T (Z=-1):=HZ2.out han;clear han;go_wp2;go_ret;exact⟨ZZ HZ.out,hg⟩
theorem Tm(w:C)(v:D)(l:List Zf)(p:Zf->Bool)(g:Nat)(lb:Array D)(eg:∀args w,(callFunc g args).run E w=.ok (.enter g args) w)(hv:QQ w v l)(hl:l.length<=140737488355328)(hp:∀W x r,A w W H->Xb W x r->M E g (#[x]++lb) W fun e w'=>e=F (X (p r))∧A W w' H):M E 126 #[v,.func (.func g) #[] lb] w fun e w'=>e=F (I J (ZL p l))∧A w w' H:=by
 obtain⟨a,cap,rfl⟩:=hv.shape;have HV:T (QQ w (L a l.length cap) l):=hv;have HP:T (∀W x r,A w W H->Xb W x r->M E g (#[x]++lb) W fun e w'=>e=F (X (p r))∧A W w' H):=hp;obtain⟨Z,hZ⟩:∃Z,Z=ZL p l:=⟨_,rfl⟩;have HZ1:T (∀m,m<l.length->(l.take m).any p=S->p (l.getD m Qp)=tD->Z=(m:Int)):=fun m h1 h2 h3=>by rw[hZ];exact G5 p Qp l m h1 h2 h3
 have HZ2:T (l.any p=S->Z=-1):=fun h=>by rw[hZ];exact KX p l h
 rw[<-hZ];clear hv hp hZ;go_enter Tryz.func126,Tryz.ntmps126;go_wp2_with fail;go_loopw[5,8](fun _ i wr=>∃m:Nat,m<=l.length∧i=I J (m:Int)∧(l.take m).any p=S∧A w wr H)(fun _ i _=>l.length-(tM i).toNat);case atStart=>exact⟨0,by omega,rfl,by simp,Qb _ _⟩
 case round=>obtain⟨m,hm,rfl,han,hg⟩:=hrel;by_cases hlt:m<l.length;(·(have i1:(m:Int)<(l.length:Int):=by omega);obtain⟨b,o,rfl,u1,u2,u3,u4,u5,u6,⟨c1,c2,c3,c4⟩,hr⟩:=Ya HV.out m hlt;have z1:=hg.cell c1 (by simp);have z2:=hg.cell c2 (by simp);have z3:=hg.cell c3 (by simp);have z4:=hg.cell c4 (by simp);have hcall:=HP.out wr _ _ hg (hr.grown hg);have HA:T ((l.take (m+1)).any p=((l.take m).any p||p (l.getD m Qp))):=Pl Qp p l m hlt;have HZ3:T (p (l.getD m Qp)=tD->Z=(m:Int)):=fun h=>HZ1.out m hlt han h;have HAN:T ((l.take m).any p=S):=han;clear han hr c1 c2 c3 c4;have HC:T (M E g (#[tG #[L u1 (l.getD m Qp).name.length u2,L u3 (l.getD m Qp).key.length u4,X (l.getD m Qp).gone,L u5 (l.getD m Qp).value.length u6]]++lb) wr fun e w'=>e=F (X (p (l.getD m Qp)))∧A wr w' H):=hcall;clear hcall;generalize p (l.getD m Qp)=B at*;generalize(l.getD m Qp).name.length=n1 at*;generalize(l.getD m Qp).key.length=n2 at*;generalize(l.getD m Qp).value.length=n3 at*;generalize(l.getD m Qp).gone=g1 at*;cases B with|true=>have HZ:T (Z=(m:Int)):=HZ3.out rfl;clear HZ3 HA;go_wp2_with fail;refine HC.out.mono ?_;rintro e w2⟨rfl,hg2⟩;go_wp2;go_ret;exact⟨ZZ HZ.out,Qa hg hg2⟩|false=>(have HN:T ((l.take (m+1)).any p=S):=by show _=_;rw[HA.out,HAN.out];rfl);clear HZ3 HA;go_wp2_with fail;refine HC.out.mono ?_;rintro e w2⟨rfl,hg2⟩;go_wp2_with fail;go_roundw;(case rel=>exact⟨m+1,by omega,by go_num,HN.out,Qa hg hg2⟩);case measure=>simp[tM];omega);·(obtain rfl:m=l.length:=by omega);(have i1:¬(l.length:Int)<(l.length:Int):=by omega);rw[tH]at han;have HZ:T (Z=-1):=HZ2.out han;clear han;go_wp2;go_ret;exact⟨ZZ HZ.out,hg⟩
def WM:Prop:=∀(w:C)(v u:D)(t:VS)(c:XA),KT w v t->JY w u c->xI t->EO c->YA w->M E 117 #[v,u] w fun e w'=>∃x,e=F (tE #[x,I J (U4 Qj t c)])∧Yt w' x (qX Qj t c)∧A w w' H
theorem UO(w:C)(v:D)(t:VS)(hv:KT w v t):M E 82 #[v] w fun e w'=>e=F (I J (if Gh t=tD then 0 else 6))∧A w w' H:=by
 obtain⟨a,cap,rfl⟩:=hv.agg;have hm:=Ky t;clear hv;by_cases c1:(t.data.length:Int)>200000;·rw[if_neg (by rw[hm];omega)];clear hm;go_enter z,d;go_wp2;go_ret;exact⟨rfl,N _ _ _⟩
 ·by_cases c2:t.synced<0;(·rw[if_neg (by rw[hm];omega)];clear hm;go_enter z,d;go_wp2;go_ret;exact⟨rfl,N _ _ _⟩);·by_cases c3:t.synced>(t.data.length:Int);(·rw[if_neg (by rw[hm];omega)];clear hm;go_enter z,d;go_wp2;go_ret;exact⟨rfl,N _ _ _⟩);·rw[if_pos (by rw[hm];omega)];clear hm;go_enter z,d;go_wp2;go_ret;exact⟨rfl,N _ _ _⟩
def O9(w:C)(b:Nat):Prop:=∃cur t fz,w.heap[b]?=G (O cur t fz)∧(t=5∨∃q,cur[0]?=G (I .u8 q))
def D6(w:C)(b:Nat):Prop:=∃cur t fz,w.heap[b]?=G (O cur t fz)∧t≠5∧∀q,cur[0]?≠G (I .u8 q)
theorem O9.ne{w:C}{a b:Nat}(h:O9 w a)(h':D6 w b):a≠b:=by
 rintro rfl;obtain⟨cur,t,fz,h1,h2⟩:=h;obtain⟨cur',t',fz',h3,h4,h5⟩:=h';rw[h1]at h3;simp only[Option.some.injEq,Obj.cells.injEq]at h3;obtain⟨rfl,rfl,_⟩:=h3;rcases h2 with h2|⟨q,h2⟩;·exact h4 h2
 ·exact h5 q h2
theorem D6.grown{w w':C}{b:Nat}(h:D6 w b)(hg:A w w' H):D6 w' b:=by
 obtain⟨cur,t,fz,h1,h2⟩:=h;exact⟨cur,t,fz,by rw[hg.block b (P.1 h1).1 (by simp)];exact h1,h2⟩
def Us(w:C)(v:D)(bs:List UInt8):Prop:=Qe w v bs∧(bs=[]∨∃b,v.ownBlock=G b∧b<w.heap.size∧O9 w b)
theorem Za.partSR{base':Nat}{w:C}{v:D}{bs:List UInt8}(h:Za base' w v bs):Us w v bs:=by
 refine⟨h.slice,?_⟩;rcases h.2with⟨rfl,h0⟩|⟨g,cap,cur,rfl,hb,hg,_⟩;·exact .inl (tB h0)
 ·exact .inr ⟨g,rfl,(P.1 hg).1,cur,_,_,hg,.inl rfl⟩
theorem ZJ.partSR{w:C}{nb:Nat}{bs:List UInt8}(h:ZJ w nb bs)(hl:bs.length=32):Us w (L (G ⟨nb,0,H⟩) 32 32) bs:=by
 refine⟨h.slice32 hl,.inr ⟨nb,rfl,Vt (h.cell 0 (by omega)),?_⟩⟩;have hc:=h.cell 0 (by omega);obtain⟨t,hb⟩:=h;refine⟨_,t,_,hb,.inr ⟨((bs.getD 0 0).toNat:Int),?_⟩⟩;·simpa[tI,hb]using hc
theorem Rh{w:C}{v:D}{bs:List UInt8}(h:Us w v bs):v.oneCell'=tD:=by
 obtain⟨⟨a,cap,rfl,_⟩,_⟩:=h;rfl
def D4(w:C)(row:Option Nat):Prop:=row=H∨∃g,row=G g∧D6 w g
theorem Us.kept{w w':C}{v:D}{bs:List UInt8}(h:Us w v bs){row:Option Nat}(hg:A w w' row)(hrow:D4 w row):Us w' v bs:=by
 obtain⟨hs,ho⟩:=h;rcases ho with rfl|⟨b,hb,hlt,hc⟩;·obtain⟨a,cap,rfl,hc,h⟩:=hs;refine⟨⟨a,cap,rfl,hc,?_⟩,.inl rfl⟩;rcases h with h|⟨b,o,rfl,h⟩;(·exact .inl h);·exact .inr ⟨b,o,rfl,fun i hi=>by simp at hi⟩
 ·(have hne:G b≠row:=by intro e;rcases hrow with rfl|⟨g,rfl,hg'⟩;(·cases e);·cases e;exact hc.ne hg' rfl);have hblk:=hg.block b hlt hne;refine⟨?_,.inr ⟨b,hb,Y hlt hg.size,?_⟩⟩;(·obtain⟨a,cap,rfl,hcp,h⟩:=hs;refine⟨a,cap,rfl,hcp,?_⟩;rcases h with h|⟨b',o,rfl,h⟩;(·exact .inl h);·refine .inr ⟨b',o,rfl,fun i hi=>?_⟩;simp[tC]at hb;subst hb;exact hg.cell (h i hi) (by simpa using hne));·obtain⟨cur,t,fz,hc,hc2⟩:=hc;exact⟨cur,t,fz,by rw[hblk];exact hc,hc2⟩
theorem Us.grown{w w':C}{v:D}{bs:List UInt8}(h:Us w v bs)(hg:A w w' H):Us w' v bs:=h.kept hg (.inl rfl)
theorem fO:(44:Nat)≠5:=by
 decide
def Vg(base:Nat)(w:C)(v:D)(l:PL):Prop:=∃vs:List (D×D),vs.length=l.length∧w.ownsRow base 44 2 v l.length (flat vs)∧D4 w v.ownBlock∧(∀k,v.ownBlock=G k->∃cur fz,w.heap[k]?=G (O cur 44 fz))∧∀i,i<l.length->Qi base w (vs.getD i (V,V)).1 (l.getD i ([],[])).1∧Us w (vs.getD i (V,V)).2 (l.getD i ([],[])).2
theorem Hk(base:Nat)(w:C):Vg base w (L H 0 0) []:=⟨[],rfl,World.ownsRow_nil _ _ _ _,.inl rfl,fun k hk=>by
 simp[tC]at hk,fun i hi=>by
 simp at hi⟩
theorem Vg.lt{base:Nat}{w:C}{v:D}{l:PL}(h:Vg base w v l):∀k,v.ownBlock=G k->base<=k∧k<w.heap.size:=by
 obtain⟨vs,_,h,_⟩:=h;exact World.ownsRow.lt h
theorem Vg.shape{base:Nat}{w:C}{v:D}{l:PL}(h:Vg base w v l):∃a cap,v=L a l.length cap:=by
 obtain⟨vs,_,h,_⟩:=h;rcases h.2with⟨rfl,h0⟩|⟨g,cap,cur,rfl,_⟩;·exact⟨H,0,by rw[h0]⟩
 ·exact⟨_,cap,rfl⟩
theorem D4.grownN{w w':C}{r:Option Nat}(h:D4 w r)(hg:A w w' H):D4 w' r:=by
 rcases h with h|⟨g,h,h2⟩;·exact .inl h
 ·exact .inr ⟨g,h,h2.grown hg⟩
theorem Vg.grownNone{base:Nat}{w w':C}{v:D}{l:PL}(h:Vg base w v l)(hg:A w w' H):Vg base w' v l:=by
 obtain⟨vs,h1,h2,h3,h4,h5⟩:=h;refine⟨vs,h1,World.ownsRow.kept h2 hg ?_,h3.grownN hg,fun k hk=>?_,fun i hi=>⟨(h5 i hi).1.kept hg (.inl rfl),(h5 i hi).2.grown hg⟩⟩;·cases hv:v.ownBlock with|none=>exact .inl rfl|some k=>exact .inr (by simp)
 ·obtain⟨cur,fz,hb⟩:=h4 k hk;exact⟨cur,fz,by rw[hg.block k (P.1 hb).1 (by simp)];exact hb⟩
theorem Vg.list{base:Nat}{w:C}{v:D}{l:PL}(h:Vg base w v l):Qq w v l:=by
 obtain⟨vs,hl,hr,_,_,h3⟩:=h;have hr':=hr;rcases hr.2with⟨rfl,h0⟩|⟨g,cap,cur,rfl,hb,hg,hn,hm,hs,ht⟩;·have:l=[]:=tB h0;subst this;exact Yi w
 ·refine⟨_,cap,rfl,hn,.inr ⟨g,0,rfl,fun i hi=>?_⟩⟩;have hf:=zY vs i (by omega);refine⟨(vs.getD i (V,V)).1,(vs.getD i (V,V)).2,?_,?_,(h3 i hi).1.1,(h3 i hi).2.1⟩;(·have:=Gi.cells hr' _ _ hf.1;rw[tK];exact this);·have:=Gi.cells hr' _ _ hf.2;rw[tK];exact this
theorem M2{base:Nat}{w W w1:C}{v:D}{l:PL}(h:A w W H)(ho:Vg base W v l)(hb:w.heap.size<=base)(hg:A W w1 v.ownBlock):A w w1 H:=⟨hg.os.trans h.os,hg.tape.trans h.tape,hg.output.trans h.output,Nat.le_trans h.size hg.size,fun i hi hn=>(hg.block i (Y hi h.size) (fun e=>by
 have:=(ho.lt i e.symm).1;omega)).trans (h.block i hi hn)⟩
theorem jY{w:C}{ops:Array Oper}{rest:List Oper}{o:Oper}{a:Act}{Q:Exit->Act->C->Prop}(hgd:o.guard=H)(s x:Operand)(ho:o.op=.call {callee:=.builtin .append,args:=#[s,x],argTypes:=#[41,41]})(base:Nat)(v:D)(l:PL)(hs:a.eval s=v)(hown:Vg base w v l)(vk vv:D)(p:Pr)(hk:Qi base w vk p.1)(hv:Us w vv p.2)(nb:Nat)(hb:w.heap[nb]?=G (O #[vk,vv] 44))(hx:a.eval x=L (G ⟨nb,0,H⟩) 1 1)(hl:(l.length+1)*48<=140737488355328)(hbase:base<=w.heap.size)(h:∀v' w',Vg base w' v' (l++[p])->A w w' v.ownBlock->wpList E ops Q rest (a.put o.dst v') w'):wpList E ops Q (o::rest) a w:=by
 obtain⟨i0,hi,hz0,hz1,hz2⟩:=info_parts DH;obtain⟨vs,hvl,hr,hrow,hty,hp⟩:=hown;have hrow5:v.ownBlock=H∨∃g cur fz,v.ownBlock=G g∧base<=g∧w.heap[g]?=G (O cur 44 fz):=by cases hv':v.ownBlock with|none=>exact .inl rfl|some k=>obtain⟨cur,fz,hb'⟩:=hty k hv';exact .inr ⟨k,cur,fz,rfl,(World.ownsRow.lt hr k hv').1,hb'⟩
 refine wpList_plain hgd fun K hK=>?_;refine wp_append_lies w s x 41 ho base 44 i0 (tG #[L H 0 0,L H 0 0]) 2 48 Tryz.underlying41 hi hz0 hz1 hz2 rfl (by decide) v l.length (flat vs) hs hr ⟨nb,0,H⟩ 1 1 (flat [(vk,vv)]) hx rfl (World.news_of_block (cs:=#[vk,vv]) hb) ?_ (by omega) (by unfold maxLen;omega) hl hbase _ rfl ?_;·intro u hu;simp only[flat,List.flatMap_cons,List.flatMap_nil,List.append_nil,List.mem_cons,List.not_mem_nil,or_false]at hu;rcases hu with rfl|rfl;(·exact ZH hk);·exact Rh hv
 ·intro g cap w' h1 h2 _ _;(have hparts:∀i,i<(l++[p]).length->Qi base w' ((vs++[(vk,vv)]).getD i (V,V)).1 ((l++[p]).getD i ([],[])).1∧Us w' ((vs++[(vk,vv)]).getD i (V,V)).2 ((l++[p]).getD i ([],[])).2:=by intro i hi;rw[Ji,Ji,hvl];by_cases hil:i<l.length;(·rw[if_pos hil,if_pos hil];exact⟨(hp i hil).1.kept h2 hrow5,(hp i hil).2.kept h2 hrow⟩);·rw[if_neg hil,if_neg hil];(obtain rfl:i=l.length:=by simp at hi;omega);rw[Nat.sub_self];exact⟨hk.kept h2 hrow5,hv.kept h2 hrow⟩);(have hblk:∃cur,w'.heap[g]?=G (O cur 44 (0,0))∧cur.toList.take ((l.length+1)*2)=flat vs++flat [(vk,vv)]:=by rcases h1.2with⟨e,_⟩|⟨g',cap',cur,e,_,hg',_,_,_,ht⟩;(·cases e);·simp only[Value.slice.injEq,Option.some.injEq,Addr.mk.injEq]at e;obtain⟨⟨rfl,_⟩,_,_⟩:=e;exact⟨cur,hg',ht⟩);obtain⟨cur,hcur,htk⟩:=hblk;(have hfirst:∀q,cur[0]?≠G (I .u8 q):=by intro q hq;have e0:=(zY (vs++[(vk,vv)]) 0 (by simp)).1;rw[JT,<-htk,List.getElem?_take,if_pos (by omega)]at e0;have hp0:=(hparts 0 (by simp)).1;obtain⟨a0,c0,e1⟩:=hp0.1.shape;rw[e1]at e0;(have:cur.toList[0]?=cur[0]?:=by simp);rw[Nat.zero_mul,this,hq]at e0;cases e0);refine hK _ _ (h _ w' ⟨vs++[(vk,vv)],by simp[hvl],?_,.inr ⟨g,rfl,cur,_,_,hcur,fO,hfirst⟩,fun k hk'=>?_,hparts⟩ h2);(·rw[JT,List.length_append];exact h1);·simp[tC]at hk';subst hk';exact⟨cur,_,hcur⟩
def Ou:Prop:=∀(w:C)(v u:D)(l:PL)(k:List UInt8),Qq w v l->Qe w u k->kI l->YA w->M E 119 #[v,u] w fun e w'=>∃x,e=F (tE #[x,I J (Xc l k)])∧Zw w.heap.size w' x (xQ l k)∧A w w' H
def Wv:Prop:=∀(w:C)(v r u:D)(l:FL)(n k:List UInt8),Zx w v l->Qe w r n->Qe w u k->VF l->n.length<=140737488355328->k.length<=140737488355328->YA w->M E 100 #[v,r,u] w fun e w'=>∃x y,e=F (tE #[x,y,I J (J5 l n k)])∧Zw 0 w' x (Kb l n k)∧Zw 0 w' y (Ke l n k)∧A w w' H
def Ip:Prop:=∀(w:C)(v:D)(l:FL),Zx w v l->VF l->YA w->M E 99 #[v] w fun e w'=>∃x,e=F (tE #[x,I J (Q8 l)])∧XU w' x (GS l)∧A w w' H
theorem Ho:Od:=by
 intro w n t hn0 hn1 ht0 ht1;by_cases h0:t>=0;·by_cases h1:t<=n;(·(have i0:J.wrap (n-t)=n-t:=by rw[tP];omega);by_cases h2:n-t<6;(·(have hk:ZI n t=tD:=by rw[ZI,decide_eq_true_iff];omega);rw[hk];go_enter tA,j;go_wp2;go_ret;exact⟨rfl,Qb _ _⟩);·(have hk:ZI n t=S:=by rw[ZI,decide_eq_false_iff_not];omega);rw[hk];go_enter tA,j;go_wp2;go_ret;exact⟨rfl,Qb _ _⟩);·(have hk:ZI n t=S:=by rw[ZI,decide_eq_false_iff_not];omega);rw[hk];go_enter tA,j;go_wp2;go_ret;exact⟨rfl,Qb _ _⟩
 ·(have hk:ZI n t=S:=by rw[ZI,decide_eq_false_iff_not];omega);rw[hk];go_enter tA,j;go_wp2;go_ret;exact⟨rfl,Qb _ _⟩
theorem Cn{x:Int}{k:Nat}(h:x=(k:Int)):F (I J x)=F (I J (k:Int)):=by
 rw[h]
theorem Lh(n:Int)(many:Nat)(w:C)(hn0:-9223372036854775808<=n)(hn1:n<=9223372036854775807)(h0:0<many)(h1:many<=2000000):M E 23 #[I J n,I J (many:Int)] w fun e w'=>e=F (I J (V4 n many:Int))∧w'=w:=by
 by_cases hs:n<0;·go_enter tL,tJ;go_wp2;go_ret;(have e:-(n+1).tmod many=(-(n+1))%many:=by rw[<-Int.neg_tmod,Int.tmod_eq_emod_of_nonneg (by omega)]);have b0:=Int.emod_nonneg (-(n+1)) (show(many:Int)≠0 by omega);have b1:=Int.emod_lt_of_pos (-(n+1)) (show(0:Int)<many by omega);exact⟨Cn (by rw[e,V4,if_pos hs];omega),rfl⟩
 ·go_enter tL,tJ;go_wp2;go_ret;have b0:=Int.emod_nonneg n (show(many:Int)≠0 by omega);have b1:=Int.emod_lt_of_pos n (show(0:Int)<many by omega);exact⟨Cn (by rw[V4,if_neg (by omega)];omega),rfl⟩
theorem Th(n:Int)(many:Nat)(w:C)(hn0:-9223372036854775808<=n)(hn1:n<=9223372036854775807)(h0:0<many)(h1:many<=2000000):M E 14 #[I J n,I J (many:Int)] w fun e w'=>e=F (I J (V4 n many:Int))∧w'=w:=by
 have PK:T (M E 23 #[I J n,I J (many:Int)] w fun e w'=>e=F (I J (V4 n many:Int))∧w'=w):=Lh n many w hn0 hn1 h0 h1;go_enter Tryz.func14,Tryz.ntmps14;go_wp2_with(go_at_call 23;refine PK.out.mono ?_;rintro e w2⟨rfl,rfl⟩);go_ret;exact⟨rfl,rfl⟩
theorem NY.at(hG:NY)(w:C)(v r u:D)(f:FL)(n k:List UInt8)(hv:Zx w v f)(hr:Qe w r n)(hu:Qe w u k)(hF:ZQ f)(hn:1<=n.length∧n.length<=8)(hk:1<=k.length∧k.length<=16):M E 12 #[v,r,u] w fun e w'=>∃xa xc,e=F (tE #[tG #[X (qZ (YU f n) k).isSome,L xa ((qZ (YU f n) k).getD []).length xc],I J 0])∧Qe w' (L xa ((qZ (YU f n) k).getD []).length xc) ((qZ (YU f n) k).getD [])∧A w w' H:=by
 obtain⟨e1,e2,e3⟩:=Su hF n k hn hk;refine(hG w v r u f n k hv hr hu hF.fits (by omega) (by omega)).mono ?_;rintro e w'⟨x,rfl,hx,hg⟩;rw[e3]at hx;obtain⟨xa,xc,rfl⟩:=hx.shape;rw[e1,e2];exact⟨xa,xc,rfl,hx,hg⟩
def O0:Prop:=∀(w:C)(v:D)(t:VS),KT w v t->xI t->YA w->M E 85 #[v] w fun e w'=>∃vs x,e=F (tE #[vs,x,I J (RI t)])∧Y6 w.heap.size w' vs (xR Qj t)∧Yt w' x (zK Qj t)∧A w w' H
end Go.Proofs.YtieoehicoocpjaaGreatDoor
