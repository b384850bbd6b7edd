/-
  Texts of this proof, joined, with few blanks: SvM, TxIdR, TxIdW, TpApp, TpMayP, RootMem, PCPr, FCProve, FCRoot, HsKeptP, FCVerify, PCProve, KPick, LPF, LFV, TpRec.
-/
import Derived.Test.YtahggnmfofgddaaGreatDoorQ3
set_option maxRecDepth 100000
set_option maxHeartbeats 8000000
open Array renaming getElem?_eq_some_iff->S
open Bool renaming false->N,true->tG
open Go renaming World->C,Value->E,Calls->M,undef->Y,TypeId->tN
open Go.Ending renaming returned->F
open Go.IntKind renaming i64->J,wrap_i64->tP
open Go.Obj renaming cells->P
open Go.Proofs.Tryz renaming prog->D,ntmps76->j,ntmps85->z,func76->tA,func85->tB,ntmps27->tJ,func27->tL
open Go.RowKit renaming Hid->X,intOf->tM
open Go.Value renaming int->I,slice->L,bool->T,tuple->V,agg->tC,ownBlock->tE
open Go.World renaming grownBy->A,grownBy_alloc->O,cell?->tI
open List renaming eq_nil_of_length_eq_zero->tD,take_length->tH
open Nat renaming lt_of_lt_of_le->d,zero_add->tK
open Option renaming none->G,some->H
namespace Go.Proofs.YtahggnmfofgddaaGreatDoor
open Go.RowKit
def JA(r:Rp):List UInt8:=match r.pf with|H (f,_,_)=>US f|none=>[]
def Zx(r:Rp):GI:=match r.pf with|H (f,n,k)=>JH f n k|none=>Vq
def Zw(r:Rp):GI:=match r.pf with|H (f,n,k)=>JK f n k|none=>Vq
def xR(w:C)(v:E)(r:Rp):Prop:=∃vv vp vr oe os ok ov ie is ik iv,v=tC #[I J r.sess,I J r.code,I J r.turn,T r.found,vv,vp,vr,oe,os,ok,ov,ie,is,ik,iv]∧Qe w vv r.value∧Qq w vp r.pairs∧Qe w vr (JA r)∧Xy w (tC #[oe,os,ok,ov]) (Zx r)∧Xy w (tC #[ie,is,ik,iv]) (Zw r)
theorem xR.grown{w w':C}{v:E}{r:Rp}(h:xR w v r)(hg:A w w' G):xR w' v r:=by
 obtain⟨vv,vp,vr,oe,os,ok,ov,ie,is,ik,iv,rfl,h1,h2,h3,h4,h5⟩:=h;exact⟨vv,vp,vr,oe,os,ok,ov,ie,is,ik,iv,rfl,h1.grown hg,h2.grown hg,h3.grown hg,h4.grown hg,h5.grown hg⟩
def oE(w:C)(cs:List E)(r:Rp):Prop:=xR w (tC ⟨cs⟩) r
def oJ(w:C)(cs:List E)(c:XO):Prop:=∃vw,cs=[I J c.turn,vw]∧Xx 0 w vw c.writes
def oH(w:C)(cs:List E)(f:FL):Prop:=∃v,cs=[v]∧ZJ 0 w v f
def oG(_:C)(cs:List E)(n:Nat):Prop:=cs=[I J (n:Int)]
abbrev YF:=JY 48 15 oE
abbrev KS:=JY 181 2 oJ
abbrev Kl:=JY 28 1 oH
abbrev Vo:=JY 3 1 oG
def Zv(v:Sv):List FL:=(List.range (v.commits.length+1)).map (QH v)
theorem U8(v:Sv):(Zv v).length=v.commits.length+1:=by
 simp[Zv]
theorem So(v:Sv){n:Nat}(h:n<=v.commits.length):(Zv v).getD n []=QH v n:=by
 simp[Zv,List.getD,List.getElem?_map,List.getElem?_range (show n<v.commits.length+1by omega)]
def Jw(v:Sv)(s:Nat):Int:=if v.waits s=tG then 2 else if v.begun s=tG then 1 else 0
def nW(_B:Nat)(w:C)(v:Sv)(s:Nat)(cs:Array E):Prop:=∃t vr vw,cs[7+s*4]?=H (I J (Jw v s))∧cs[7+s*4+1]?=H (I J t.start)∧cs[7+s*4+2]?=H vr∧cs[7+s*4+3]?=H vw∧Zf 0 w (fun w=>qO w (tC #[I J t.start,vr,vw]) t)∧(v.begun s=tG->t=v.txns s)
structure Jb (R B : Nat) (w : C) (v : Sv) (cs : Array E) : Prop where
  size : cs.size = 40
  up : cs[0]? = H (T v.up)
  tape : ∃ vd, cs[1]? = H vd ∧ Zf 0 w (fun w => Qe w vd v.tape.data)
  mark : cs[2]? = H (I J v.tape.synced)
  commits : ∃ u, cs[3]? = H u ∧ KS B w u v.commits
  forests : ∃ u, cs[4]? = H u ∧ Kl B w u (Zv v)
  synced : cs[5]? = H (I J (v.synced : Int))
  queue : ∃ u, cs[6]? = H u ∧ Vo B w u v.queue
  sess : ∀ s, s < 8 -> nW B w v s cs
  replies : ∃ u, cs[39]? = H u ∧ YF B w u v.out ∧ ∀ g, u.ownBlock = H g -> g < R
def Z4(R B:Nat)(w:C)(b:Nat)(v:Sv):Prop:=∃cs,B<=b∧w.heap[b]?=H (P cs 93 (0,0))∧Jb R B w v cs
theorem Fk:P8 93:=.inl rfl
theorem vH:P8 48:=.inr (.inl rfl)
theorem nD:P8 181:=.inr (.inr (.inl rfl))
theorem nT:P8 28:=.inr (.inr (.inr (.inl rfl)))
theorem nC:P8 3:=.inr (.inr (.inr (.inr rfl)))
theorem nW.later{B:Nat}{w w':C}{v:Sv}{s:Nat}{cs:Array E}(h:nW B w v s cs)(k:Kp B w w'):nW B w' v s cs:=by
 obtain⟨t,vr,vw,h1,h2,h3,h4,h5,h6⟩:=h;exact⟨t,vr,vw,h1,h2,h3,h4,h5.later k,h6⟩
theorem Jb.grown{R B:Nat}{w w':C}{v:Sv}{cs:Array E}(h:Jb R B w v cs)(hg:A w w' G):Jb R B w' v cs:=by
 obtain⟨h0,h1,⟨x2,h2,k2⟩,h3,⟨x4,h4,k4⟩,⟨x5,h5,k5⟩,h6,⟨x7,h7,k7⟩,h8,⟨x9,h9,k9,r9⟩⟩:=h;exact⟨h0,h1,⟨x2,h2,k2.grown hg⟩,h3,⟨x4,h4,k4.grown hg⟩,⟨x5,h5,k5.grown hg⟩,h6,⟨x7,h7,k7.grown hg⟩,fun s hs=>(h8 s hs).later (Kp.grown hg),⟨x9,h9,k9.grown hg,r9⟩⟩
theorem Jb.turned{R B:Nat}{w w':C}{v:Sv}{cs:Array E}(h:Jb R B w v cs){g:Nat}{ds:Array E}{t:tN}{fz:Nat×Nat}(hk:Kp B w w')(hg:A w w' (H g))(hb:w.heap[g]?=H (P ds t fz))(h1':t≠48)(h2':t≠181)(h3':t≠28)(h4':t≠3):Jb R B w' v cs:=by
 obtain⟨h0,h1,⟨x2,h2,k2⟩,h3,⟨x4,h4,k4⟩,⟨x5,h5,k5⟩,h6,⟨x7,h7,k7⟩,h8,⟨x9,h9,k9,r9⟩⟩:=h;exact⟨h0,h1,⟨x2,h2,k2.later hk⟩,h3,⟨x4,h4,k4.other (by decide) hk hg (.inr ⟨g,ds,t,fz,rfl,hb,h2'⟩)⟩,⟨x5,h5,k5.other (by decide) hk hg (.inr ⟨g,ds,t,fz,rfl,hb,h3'⟩)⟩,h6,⟨x7,h7,k7.other (by decide) hk hg (.inr ⟨g,ds,t,fz,rfl,hb,h4'⟩)⟩,fun s hs=>(h8 s hs).later hk,⟨x9,h9,k9.other (by decide) hk hg (.inr ⟨g,ds,t,fz,rfl,hb,h1'⟩),r9⟩⟩
theorem Jb.box{R B:Nat}{w w':C}{v:Sv}{cs:Array E}(h:Jb R B w v cs){nb:Nat}{ds:Array E}{fz:Nat×Nat}(hk:Kp B w w')(hg:A w w' (H nb))(hn:R<=nb)(hb:w.heap[nb]?=H (P ds 48 fz)):Jb R B w' v cs:=by
 obtain⟨h0,h1,⟨x2,h2,k2⟩,h3,⟨x4,h4,k4⟩,⟨x5,h5,k5⟩,h6,⟨x7,h7,k7⟩,h8,⟨x9,h9,k9,r9⟩⟩:=h;refine⟨h0,h1,⟨x2,h2,k2.later hk⟩,h3,⟨x4,h4,k4.other (by decide) hk hg (.inr ⟨nb,ds,_,fz,rfl,hb,by decide⟩)⟩,⟨x5,h5,k5.other (by decide) hk hg (.inr ⟨nb,ds,_,fz,rfl,hb,by decide⟩)⟩,h6,⟨x7,h7,k7.other (by decide) hk hg (.inr ⟨nb,ds,_,fz,rfl,hb,by decide⟩)⟩,fun s hs=>(h8 s hs).later hk,⟨x9,h9,k9.kept hk (fun g e=>hg.block g (k9.lt g e).2 (fun q=>?_)),r9⟩⟩;have:=r9 g e;cases q;omega
theorem Jb.more{R R' B:Nat}{w:C}{v:Sv}{cs:Array E}(h:Jb R B w v cs)(hR:R<=R'):Jb R' B w v cs:=by
 obtain⟨h0,h1,h2,h3,h4,h5,h6,h7,h8,⟨x9,h9,k9,r9⟩⟩:=h;exact⟨h0,h1,h2,h3,h4,h5,h6,h7,h8,⟨x9,h9,k9,fun g e=>d (r9 g e) hR⟩⟩
theorem qP{R B:Nat}{w:C}{v:Sv}{cs:Array E}(h:Jb R B w v cs):∀q,cs[0]?≠H (I .u8 q):=fun q e=>by
 rw[h.up]at e;cases e
theorem YK{R B:Nat}{w w':C}{v:Sv}{b:Nat}{cs:Array E}(h:Jb R B w v cs)(hB:B<=b)(hb:w.heap[b]?=H (P cs 93 (0,0)))(hg:A w w' (H b)):Kp B w w'∧Jb R B w' v cs:=have k:=Kp.turn hg hB hb Fk (qP h);⟨k,h.turned k hg hb (by
 decide) (by
 decide) (by
 decide) (by
 decide)⟩
theorem Qm{w:C}{b i:Nat}{cs:Array E}{t:tN}{u:E}{fz:Nat×Nat}(hb:w.heap[b]?=H (P cs t fz))(h:cs[i]?=H u):w.cell? ⟨b,i,G⟩=H u:=by
 simp[tI,hb,h]
theorem Qg{w:C}{b:Nat}{cs:Array E}{t:tN}(hb:w.heap[b]?=H (P cs t (0,0)))(i:Nat):w.frozen? ⟨b,i,G⟩=N:=by
 simp[World.frozen?,hb]
theorem RK(w:C)(v:E)(l:List Rd)(p:Rd->Bool)(g:Nat)(lb:Array E)(eg:∀args w,(callFunc g args).run D w=.ok (.enter g args) w)(hv:Xf w v l)(hl:l.length<=140737488355328)(hp:∀W x r,A w W G->YE W x r->M D g (#[x]++lb) W fun e w'=>e=F (T (p r))∧A W w' G):M D 139 #[v,.func (.func g) #[] lb] w fun e w'=>e=F (I J (ZX p l))∧A w w' G:=by
 obtain⟨a,cap,rfl⟩:=hv.shape;have HV:X (Xf w (L a l.length cap) l):=hv;have HP:X (∀W x r,A w W G->YE W x r->M D g (#[x]++lb) W fun e w'=>e=F (T (p r))∧A W w' G):=hp;obtain⟨Z,hZ⟩:∃Z,Z=ZX p l:=⟨_,rfl⟩;have HZ1:X (∀m,m<l.length->(l.take m).any p=N->p (l.getD m Zh)=tG->Z=(m:Int)):=fun m h1 h2 h3=>by rw[hZ];exact zT p Zh l m h1 h2 h3
 have HZ2:X (l.any p=N->Z=-1):=fun h=>by rw[hZ];exact Ui p l h
 rw[<-hZ];clear hv hp hZ;go_enter Tryz.func139,Tryz.ntmps139;go_wp2_with fail;go_loopw[5,8](fun _ i wr=>∃m:Nat,m<=l.length∧i=I J (m:Int)∧(l.take m).any p=N∧A w wr G)(fun _ i _=>l.length-(tM i).toNat);case atStart=>exact⟨0,by omega,rfl,by simp,Qb _ _⟩
 case round=>obtain⟨m,hm,rfl,han,hg⟩:=hrel;by_cases hlt:m<l.length;(·(have i1:(m:Int)<(l.length:Int):=by omega);obtain⟨b,o,rfl,u1,u2,u3,u4,u5,u6,⟨c1,c2,c3,c4⟩,hr⟩:=xV HV.out m hlt;have z1:=hg.cell c1 (by simp);have z2:=hg.cell c2 (by simp);have z3:=hg.cell c3 (by simp);have z4:=hg.cell c4 (by simp);have hcall:=HP.out wr _ _ hg (hr.grown hg);have HA:X ((l.take (m+1)).any p=((l.take m).any p||p (l.getD m Zh))):=Ft Zh p l m hlt;have HZ3:X (p (l.getD m Zh)=tG->Z=(m:Int)):=fun h=>HZ1.out m hlt han h;have HAN:X ((l.take m).any p=N):=han;clear han hr c1 c2 c3 c4;have HC:X (M D g (#[tC #[L u1 (l.getD m Zh).name.length u2,L u3 (l.getD m Zh).key.length u4,T (l.getD m Zh).wide,L u5 (l.getD m Zh).last.length u6]]++lb) wr fun e w'=>e=F (T (p (l.getD m Zh)))∧A wr w' G):=hcall;clear hcall;generalize p (l.getD m Zh)=B at*;generalize(l.getD m Zh).name.length=n1 at*;generalize(l.getD m Zh).key.length=n2 at*;generalize(l.getD m Zh).last.length=n3 at*;generalize(l.getD m Zh).wide=g1 at*;cases B with|true=>have HZ:X (Z=(m:Int)):=HZ3.out rfl;clear HZ3 HA;go_wp2_with fail;refine HC.out.mono ?_;rintro e w2⟨rfl,hg2⟩;go_wp2;go_ret;exact⟨Z8 HZ.out,Qa hg hg2⟩|false=>(have HN:X ((l.take (m+1)).any p=N):=by show _=_;rw[HA.out,HAN.out];rfl);clear HZ3 HA;go_wp2_with fail;refine HC.out.mono ?_;rintro e w2⟨rfl,hg2⟩;go_wp2_with fail;go_roundw;(case rel=>exact⟨m+1,by omega,by go_num,HN.out,Qa hg hg2⟩);case measure=>simp[tM];omega);·(obtain rfl:m=l.length:=by omega);(have i1:¬(l.length:Int)<(l.length:Int):=by omega);rw[tH]at han;have HZ:X (Z=-1):=HZ2.out han;clear han;go_wp2;go_ret;exact⟨Z8 HZ.out,hg⟩
theorem RY(w:C)(v:E)(l:List Zi)(p:Zi->Bool)(g:Nat)(lb:Array E)(eg:∀args w,(callFunc g args).run D w=.ok (.enter g args) w)(hv:QS w v l)(hl:l.length<=140737488355328)(hp:∀W x r,A w W G->Xg W x r->M D g (#[x]++lb) W fun e w'=>e=F (T (p r))∧A W w' G):M D 117 #[v,.func (.func g) #[] lb] w fun e w'=>e=F (I J (ZX p l))∧A w w' G:=by
 obtain⟨a,cap,rfl⟩:=hv.shape;have HV:X (QS w (L a l.length cap) l):=hv;have HP:X (∀W x r,A w W G->Xg W x r->M D g (#[x]++lb) W fun e w'=>e=F (T (p r))∧A W w' G):=hp;obtain⟨Z,hZ⟩:∃Z,Z=ZX p l:=⟨_,rfl⟩;have HZ1:X (∀m,m<l.length->(l.take m).any p=N->p (l.getD m Qr)=tG->Z=(m:Int)):=fun m h1 h2 h3=>by rw[hZ];exact zT p Qr l m h1 h2 h3
 have HZ2:X (l.any p=N->Z=-1):=fun h=>by rw[hZ];exact Ui p l h
 rw[<-hZ];clear hv hp hZ;go_enter Tryz.func117,Tryz.ntmps117;go_wp2_with fail;go_loopw[5,8](fun _ i wr=>∃m:Nat,m<=l.length∧i=I J (m:Int)∧(l.take m).any p=N∧A w wr G)(fun _ i _=>l.length-(tM i).toNat);case atStart=>exact⟨0,by omega,rfl,by simp,Qb _ _⟩
 case round=>obtain⟨m,hm,rfl,han,hg⟩:=hrel;by_cases hlt:m<l.length;(·(have i1:(m:Int)<(l.length:Int):=by omega);obtain⟨b,o,rfl,u1,u2,u3,u4,u5,u6,⟨c1,c2,c3,c4⟩,hr⟩:=Yn HV.out m hlt;have z1:=hg.cell c1 (by simp);have z2:=hg.cell c2 (by simp);have z3:=hg.cell c3 (by simp);have z4:=hg.cell c4 (by simp);have hcall:=HP.out wr _ _ hg (hr.grown hg);have HA:X ((l.take (m+1)).any p=((l.take m).any p||p (l.getD m Qr))):=Ft Qr p l m hlt;have HZ3:X (p (l.getD m Qr)=tG->Z=(m:Int)):=fun h=>HZ1.out m hlt han h;have HAN:X ((l.take m).any p=N):=han;clear han hr c1 c2 c3 c4;have HC:X (M D g (#[tC #[L u1 (l.getD m Qr).name.length u2,L u3 (l.getD m Qr).key.length u4,T (l.getD m Qr).gone,L u5 (l.getD m Qr).value.length u6]]++lb) wr fun e w'=>e=F (T (p (l.getD m Qr)))∧A wr w' G):=hcall;clear hcall;generalize p (l.getD m Qr)=B at*;generalize(l.getD m Qr).name.length=n1 at*;generalize(l.getD m Qr).key.length=n2 at*;generalize(l.getD m Qr).value.length=n3 at*;generalize(l.getD m Qr).gone=g1 at*;cases B with|true=>have HZ:X (Z=(m:Int)):=HZ3.out rfl;clear HZ3 HA;go_wp2_with fail;refine HC.out.mono ?_;rintro e w2⟨rfl,hg2⟩;go_wp2;go_ret;exact⟨Z8 HZ.out,Qa hg hg2⟩|false=>(have HN:X ((l.take (m+1)).any p=N):=by show _=_;rw[HA.out,HAN.out];rfl);clear HZ3 HA;go_wp2_with fail;refine HC.out.mono ?_;rintro e w2⟨rfl,hg2⟩;go_wp2_with fail;go_roundw;(case rel=>exact⟨m+1,by omega,by go_num,HN.out,Qa hg hg2⟩);case measure=>simp[tM];omega);·(obtain rfl:m=l.length:=by omega);(have i1:¬(l.length:Int)<(l.length:Int):=by omega);rw[tH]at han;have HZ:X (Z=-1):=HZ2.out han;clear han;go_wp2;go_ret;exact⟨Z8 HZ.out,hg⟩
def OM:Prop:=∀(w:C)(v u:E)(t:Gz)(c:XO),Ug w v t->Kn w u c->yV t->Mi c->X6 w->M D 109 #[v,u] w fun e w'=>∃x,e=F (V #[x,I J (VX Qo t c)])∧YI w' x (xQ Qo t c)∧A w w' G
theorem Vc(w:C)(v:E)(t:Gz)(hv:Ug w v t):M D 76 #[v] w fun e w'=>e=F (I J (if G5 t=tG then 0 else 6))∧A w w' G:=by
 obtain⟨a,cap,rfl⟩:=hv.agg;have hm:=KZ t;clear hv;by_cases c1:(t.data.length:Int)>200000;·rw[if_neg (by rw[hm];omega)];clear hm;go_enter tA,j;go_wp2;go_ret;exact⟨rfl,O _ _ _⟩
 ·by_cases c2:t.synced<0;(·rw[if_neg (by rw[hm];omega)];clear hm;go_enter tA,j;go_wp2;go_ret;exact⟨rfl,O _ _ _⟩);·by_cases c3:t.synced>(t.data.length:Int);(·rw[if_neg (by rw[hm];omega)];clear hm;go_enter tA,j;go_wp2;go_ret;exact⟨rfl,O _ _ _⟩);·rw[if_pos (by rw[hm];omega)];clear hm;go_enter tA,j;go_wp2;go_ret;exact⟨rfl,O _ _ _⟩
def eJ(w:C)(b:Nat):Prop:=∃cur t fz,w.heap[b]?=H (P cur t fz)∧(t=5∨∃q,cur[0]?=H (I .u8 q))
def Bt(w:C)(b:Nat):Prop:=∃cur t fz,w.heap[b]?=H (P cur t fz)∧t≠5∧∀q,cur[0]?≠H (I .u8 q)
theorem eJ.ne{w:C}{a b:Nat}(h:eJ w a)(h':Bt w b):a≠b:=by
 rintro rfl;obtain⟨cur,t,fz,h1,h2⟩:=h;obtain⟨cur',t',fz',h3,h4,h5⟩:=h';rw[h1]at h3;simp only[Option.some.injEq,Obj.cells.injEq]at h3;obtain⟨rfl,rfl,_⟩:=h3;rcases h2 with h2|⟨q,h2⟩;·exact h4 h2
 ·exact h5 q h2
theorem Bt.grown{w w':C}{b:Nat}(h:Bt w b)(hg:A w w' G):Bt w' b:=by
 obtain⟨cur,t,fz,h1,h2⟩:=h;exact⟨cur,t,fz,by rw[hg.block b (S.1 h1).1 (by simp)];exact h1,h2⟩
def UN(w:C)(v:E)(bs:List UInt8):Prop:=Qe w v bs∧(bs=[]∨∃b,v.ownBlock=H b∧b<w.heap.size∧eJ w b)
theorem Za.partSR{base':Nat}{w:C}{v:E}{bs:List UInt8}(h:Za base' w v bs):UN w v bs:=by
 refine⟨h.slice,?_⟩;rcases h.2with⟨rfl,h0⟩|⟨g,cap,cur,rfl,hb,hg,_⟩;·exact .inl (tD h0)
 ·exact .inr ⟨g,rfl,(S.1 hg).1,cur,_,_,hg,.inl rfl⟩
theorem ZS.partSR{w:C}{nb:Nat}{bs:List UInt8}(h:ZS w nb bs)(hl:bs.length=32):UN w (L (H ⟨nb,0,G⟩) 32 32) bs:=by
 refine⟨h.slice32 hl,.inr ⟨nb,rfl,UO (h.cell 0 (by omega)),?_⟩⟩;have hc:=h.cell 0 (by omega);obtain⟨t,hb⟩:=h;refine⟨_,t,_,hb,.inr ⟨((bs.getD 0 0).toNat:Int),?_⟩⟩;·simpa[tI,hb]using hc
theorem EJ{w:C}{v:E}{bs:List UInt8}(h:UN w v bs):v.oneCell'=tG:=by
 obtain⟨⟨a,cap,rfl,_⟩,_⟩:=h;rfl
def Bq(w:C)(row:Option Nat):Prop:=row=G∨∃g,row=H g∧Bt w g
theorem UN.kept{w w':C}{v:E}{bs:List UInt8}(h:UN w v bs){row:Option Nat}(hg:A w w' row)(hrow:Bq w row):UN w' v bs:=by
 obtain⟨hs,ho⟩:=h;rcases ho with rfl|⟨b,hb,hlt,hc⟩;·obtain⟨a,cap,rfl,hc,h⟩:=hs;refine⟨⟨a,cap,rfl,hc,?_⟩,.inl rfl⟩;rcases h with h|⟨b,o,rfl,h⟩;(·exact .inl h);·exact .inr ⟨b,o,rfl,fun i hi=>by simp at hi⟩
 ·(have hne:H b≠row:=by intro e;rcases hrow with rfl|⟨g,rfl,hg'⟩;(·cases e);·cases e;exact hc.ne hg' rfl);have hblk:=hg.block b hlt hne;refine⟨?_,.inr ⟨b,hb,d hlt hg.size,?_⟩⟩;(·obtain⟨a,cap,rfl,hcp,h⟩:=hs;refine⟨a,cap,rfl,hcp,?_⟩;rcases h with h|⟨b',o,rfl,h⟩;(·exact .inl h);·refine .inr ⟨b',o,rfl,fun i hi=>?_⟩;simp[tE]at hb;subst hb;exact hg.cell (h i hi) (by simpa using hne));·obtain⟨cur,t,fz,hc,hc2⟩:=hc;exact⟨cur,t,fz,by rw[hblk];exact hc,hc2⟩
theorem UN.grown{w w':C}{v:E}{bs:List UInt8}(h:UN w v bs)(hg:A w w' G):UN w' v bs:=h.kept hg (.inl rfl)
theorem mL:(44:Nat)≠5:=by
 decide
def VJ(base:Nat)(w:C)(v:E)(l:PL):Prop:=∃vs:List (E×E),vs.length=l.length∧w.ownsRow base 44 2 v l.length (flat vs)∧Bq w v.ownBlock∧(∀k,v.ownBlock=H k->∃cur fz,w.heap[k]?=H (P cur 44 fz))∧∀i,i<l.length->Qj base w (vs.getD i (Y,Y)).1 (l.getD i ([],[])).1∧UN w (vs.getD i (Y,Y)).2 (l.getD i ([],[])).2
theorem IM(base:Nat)(w:C):VJ base w (L G 0 0) []:=⟨[],rfl,World.ownsRow_nil _ _ _ _,.inl rfl,fun k hk=>by
 simp[tE]at hk,fun i hi=>by
 simp at hi⟩
theorem VJ.lt{base:Nat}{w:C}{v:E}{l:PL}(h:VJ base w v l):∀k,v.ownBlock=H k->base<=k∧k<w.heap.size:=by
 obtain⟨vs,_,h,_⟩:=h;exact World.ownsRow.lt h
theorem VJ.shape{base:Nat}{w:C}{v:E}{l:PL}(h:VJ base w v l):∃a cap,v=L a l.length cap:=by
 obtain⟨vs,_,h,_⟩:=h;rcases h.2with⟨rfl,h0⟩|⟨g,cap,cur,rfl,_⟩;·exact⟨G,0,by rw[h0]⟩
 ·exact⟨_,cap,rfl⟩
theorem Bq.grownN{w w':C}{r:Option Nat}(h:Bq w r)(hg:A w w' G):Bq w' r:=by
 rcases h with h|⟨g,h,h2⟩;·exact .inl h
 ·exact .inr ⟨g,h,h2.grown hg⟩
theorem VJ.grownNone{base:Nat}{w w':C}{v:E}{l:PL}(h:VJ base w v l)(hg:A w w' G):VJ base w' v l:=by
 obtain⟨vs,h1,h2,h3,h4,h5⟩:=h;refine⟨vs,h1,World.ownsRow.kept h2 hg ?_,h3.grownN hg,fun k hk=>?_,fun i hi=>⟨(h5 i hi).1.kept hg (.inl rfl),(h5 i hi).2.grown hg⟩⟩;·cases hv:v.ownBlock with|none=>exact .inl rfl|some k=>exact .inr (by simp)
 ·obtain⟨cur,fz,hb⟩:=h4 k hk;exact⟨cur,fz,by rw[hg.block k (S.1 hb).1 (by simp)];exact hb⟩
theorem VJ.list{base:Nat}{w:C}{v:E}{l:PL}(h:VJ base w v l):Qq w v l:=by
 obtain⟨vs,hl,hr,_,_,h3⟩:=h;have hr':=hr;rcases hr.2with⟨rfl,h0⟩|⟨g,cap,cur,rfl,hb,hg,hn,hm,hs,ht⟩;·have:l=[]:=tD h0;subst this;exact XN w
 ·refine⟨_,cap,rfl,hn,.inr ⟨g,0,rfl,fun i hi=>?_⟩⟩;have hf:=yM vs i (by omega);refine⟨(vs.getD i (Y,Y)).1,(vs.getD i (Y,Y)).2,?_,?_,(h3 i hi).1.1,(h3 i hi).2.1⟩;(·have:=G6.cells hr' _ _ hf.1;rw[tK];exact this);·have:=G6.cells hr' _ _ hf.2;rw[tK];exact this
theorem Cl{base:Nat}{w W w1:C}{v:E}{l:PL}(h:A w W G)(ho:VJ base W v l)(hb:w.heap.size<=base)(hg:A W w1 v.ownBlock):A w w1 G:=⟨hg.os.trans h.os,hg.tape.trans h.tape,hg.output.trans h.output,Nat.le_trans h.size hg.size,fun i hi hn=>(hg.block i (d hi h.size) (fun e=>by
 have:=(ho.lt i e.symm).1;omega)).trans (h.block i hi hn)⟩
theorem uN{w:C}{ops:Array Oper}{rest:List Oper}{o:Oper}{a:Act}{Q:Exit->Act->C->Prop}(hgd:o.guard=G)(s x:Operand)(ho:o.op=.call {callee:=.builtin .append,args:=#[s,x],argTypes:=#[41,41]})(base:Nat)(v:E)(l:PL)(hs:a.eval s=v)(hown:VJ base w v l)(vk vv:E)(p:Pr)(hk:Qj base w vk p.1)(hv:UN w vv p.2)(nb:Nat)(hb:w.heap[nb]?=H (P #[vk,vv] 44))(hx:a.eval x=L (H ⟨nb,0,G⟩) 1 1)(hl:(l.length+1)*48<=140737488355328)(hbase:base<=w.heap.size)(h:∀v' w',VJ base w' v' (l++[p])->A w w' v.ownBlock->wpList D ops Q rest (a.put o.dst v') w'):wpList D ops Q (o::rest) a w:=by
 obtain⟨i0,hi,hz0,hz1,hz2⟩:=info_parts Ba;obtain⟨vs,hvl,hr,hrow,hty,hp⟩:=hown;have hrow5:v.ownBlock=G∨∃g cur fz,v.ownBlock=H g∧base<=g∧w.heap[g]?=H (P cur 44 fz):=by cases hv':v.ownBlock with|none=>exact .inl rfl|some k=>obtain⟨cur,fz,hb'⟩:=hty k hv';exact .inr ⟨k,cur,fz,rfl,(World.ownsRow.lt hr k hv').1,hb'⟩
 refine wpList_plain hgd fun K hK=>?_;refine wp_append_lies w s x 41 ho base 44 i0 (tC #[L G 0 0,L G 0 0]) 2 48 Tryz.underlying41 hi hz0 hz1 hz2 rfl (by decide) v l.length (flat vs) hs hr ⟨nb,0,G⟩ 1 1 (flat [(vk,vv)]) hx rfl (World.news_of_block (cs:=#[vk,vv]) hb) ?_ (by omega) (by unfold maxLen;omega) hl hbase _ rfl ?_;·intro u hu;simp only[flat,List.flatMap_cons,List.flatMap_nil,List.append_nil,List.mem_cons,List.not_mem_nil,or_false]at hu;rcases hu with rfl|rfl;(·exact ZQ hk);·exact EJ hv
 ·intro g cap w' h1 h2 _ _;(have hparts:∀i,i<(l++[p]).length->Qj base w' ((vs++[(vk,vv)]).getD i (Y,Y)).1 ((l++[p]).getD i ([],[])).1∧UN w' ((vs++[(vk,vv)]).getD i (Y,Y)).2 ((l++[p]).getD i ([],[])).2:=by intro i hi;rw[Ju,Ju,hvl];by_cases hil:i<l.length;(·rw[if_pos hil,if_pos hil];exact⟨(hp i hil).1.kept h2 hrow5,(hp i hil).2.kept h2 hrow⟩);·rw[if_neg hil,if_neg hil];(obtain rfl:i=l.length:=by simp at hi;omega);rw[Nat.sub_self];exact⟨hk.kept h2 hrow5,hv.kept h2 hrow⟩);(have hblk:∃cur,w'.heap[g]?=H (P cur 44 (0,0))∧cur.toList.take ((l.length+1)*2)=flat vs++flat [(vk,vv)]:=by rcases h1.2with⟨e,_⟩|⟨g',cap',cur,e,_,hg',_,_,_,ht⟩;(·cases e);·simp only[Value.slice.injEq,Option.some.injEq,Addr.mk.injEq]at e;obtain⟨⟨rfl,_⟩,_,_⟩:=e;exact⟨cur,hg',ht⟩);obtain⟨cur,hcur,htk⟩:=hblk;(have hfirst:∀q,cur[0]?≠H (I .u8 q):=by intro q hq;have e0:=(yM (vs++[(vk,vv)]) 0 (by simp)).1;rw[Ki,<-htk,List.getElem?_take,if_pos (by omega)]at e0;have hp0:=(hparts 0 (by simp)).1;obtain⟨a0,c0,e1⟩:=hp0.1.shape;rw[e1]at e0;(have:cur.toList[0]?=cur[0]?:=by simp);rw[Nat.zero_mul,this,hq]at e0;cases e0);refine hK _ _ (h _ w' ⟨vs++[(vk,vv)],by simp[hvl],?_,.inr ⟨g,rfl,cur,_,_,hcur,mL,hfirst⟩,fun k hk'=>?_,hparts⟩ h2);(·rw[Ki,List.length_append];exact h1);·simp[tE]at hk';subst hk';exact⟨cur,_,hcur⟩
def cX:Prop:=∀(w:C)(v u:E)(l:PL)(k:List UInt8),Qq w v l->Qe w u k->kX l->X6 w->M D 110 #[v,u] w fun e w'=>∃x,e=F (V #[x,I J (Xh l k)])∧ZI w.heap.size w' x (jD l k)∧A w w' G
def Ox:Prop:=∀(w:C)(v r u:E)(l:FL)(n k:List UInt8),ZG w v l->Qe w r n->Qe w u k->VH l->n.length<=140737488355328->k.length<=140737488355328->X6 w->M D 92 #[v,r,u] w fun e w'=>∃x y,e=F (V #[x,y,I J (Ji l n k)])∧ZI 0 w' x (JH l n k)∧ZI 0 w' y (JK l n k)∧A w w' G
def vG:Prop:=∀(w:C)(v:E)(l:FL),ZG w v l->VH l->X6 w->M D 8 #[v] w fun e w'=>∃x,e=F (V #[x,I J (Q5 l)])∧Qe w' x (US l)∧A w w' G
def Rt:Prop:=∀(w:C)(v:E)(l:FL),ZG w v l->VH l->X6 w->M D 8 #[v] w fun e w'=>∃x,e=F (V #[x,I J (Q5 l)])∧Yb w' x (US l)∧A w w' G
theorem Rt.ok(h:Rt):vG:=fun w v l h1 h2 h3=>(h w v l h1 h2 h3).mono (by
 rintro e w'⟨x,rfl,hx,hg⟩;exact⟨x,rfl,hx.1,hg⟩)
theorem IT:cM:=by
 intro w n t hn0 hn1 ht0 ht1;by_cases h0:t>=0;·by_cases h1:t<=n;(·(have i0:J.wrap (n-t)=n-t:=by rw[tP];omega);by_cases h2:n-t<6;(·(have hk:Z9 n t=tG:=by rw[Z9,decide_eq_true_iff];omega);rw[hk];go_enter tB,z;go_wp2;go_ret;exact⟨rfl,Qb _ _⟩);·(have hk:Z9 n t=N:=by rw[Z9,decide_eq_false_iff_not];omega);rw[hk];go_enter tB,z;go_wp2;go_ret;exact⟨rfl,Qb _ _⟩);·(have hk:Z9 n t=N:=by rw[Z9,decide_eq_false_iff_not];omega);rw[hk];go_enter tB,z;go_wp2;go_ret;exact⟨rfl,Qb _ _⟩
 ·(have hk:Z9 n t=N:=by rw[Z9,decide_eq_false_iff_not];omega);rw[hk];go_enter tB,z;go_wp2;go_ret;exact⟨rfl,Qb _ _⟩
def jT:Prop:=∀(w:C)(r m u o i:E)(root n k:List UInt8)(p q:GI),Qe w r root->Qe w m n->Qe w u k->Xy w o p->Xy w i q->jL p->jL q->X6 w->M D 9 #[r,m,u,o,i] w fun e w'=>∃x,e=F (V #[tC #[T (vW root n k p q),x],I J (PJ root n k p q)])∧Qe w' x (Ph root n k p q)∧A w w' G
def Oj:Prop:=∀(w:C)(r u v:E)(root k:List UInt8)(p:GI),Qe w r root->Qe w u k->Xy w v p->jL p->X6 w->M D 20 #[r,u,v] w fun e w'=>∃x,e=F (V #[tC #[T (Vr root k p),x],I J (UE root k p)])∧Qe w' x (qI root k p)∧A w w' G
theorem dA{root k:List UInt8}{p:GI}(h:root.length≠32):UE root k p=1∧Vr root k p=N∧qI root k p=[]:=by
 have h1:UE root k p=1:=by rw[UE,if_neg h]
 have h2:Vr root k p=N:=by rw[Vr,h1];rfl
 exact⟨h1,h2,by rw[qI,h2,if_neg (by simp)]⟩
theorem eK{root k:List UInt8}{p:GI}(h:root.length=32)(hp:Yh k p≠0):UE root k p=Yh k p∧Vr root k p=N∧qI root k p=[]:=by
 have h1:UE root k p=Yh k p:=by rw[UE,if_pos h,if_neg hp]
 have h2:Vr root k p=N:=by rw[Vr,h1];simp[hp]
 exact⟨h1,h2,by rw[qI,h2,if_neg (by simp)]⟩
theorem If{root k:List UInt8}{p:GI}(h:root.length=32)(hp:Yh k p=0)(hr:GD p≠root):UE root k p=8∧Vr root k p=N∧qI root k p=[]:=by
 have h1:UE root k p=8:=by rw[UE,if_pos h,if_pos hp,if_neg hr]
 have h2:Vr root k p=N:=by rw[Vr,h1];rfl
 exact⟨h1,h2,by rw[qI,h2,if_neg (by simp)]⟩
theorem mC{root k:List UInt8}{p:GI}(h:root.length=32)(hp:Yh k p=0)(hr:GD p=root):UE root k p=0∧Vr root k p=Vt k p∧qI root k p=if Vt k p=tG then p.pair.2 else[]:=by
 have h1:UE root k p=0:=by rw[UE,if_pos h,if_pos hp,if_pos hr]
 have h2:Vr root k p=Vt k p:=by rw[Vr,h1];rfl
 exact⟨h1,h2,by rw[qI,h2]⟩
theorem Ai{x:Int}{k:Nat}(h:x=(k:Int)):F (I J x)=F (I J (k:Int)):=by
 rw[h]
theorem Wt(n:Int)(many:Nat)(w:C)(hn0:-9223372036854775808<=n)(hn1:n<=9223372036854775807)(h0:0<many)(h1:many<=2000000):M D 27 #[I J n,I J (many:Int)] w fun e w'=>e=F (I J (Jf n many:Int))∧w'=w:=by
 by_cases hs:n<0;·go_enter tL,tJ;go_wp2;go_ret;(have e:-(n+1).tmod many=(-(n+1))%many:=by rw[<-Int.neg_tmod,Int.tmod_eq_emod_of_nonneg (by omega)]);have b0:=Int.emod_nonneg (-(n+1)) (show(many:Int)≠0 by omega);have b1:=Int.emod_lt_of_pos (-(n+1)) (show(0:Int)<many by omega);exact⟨Ai (by rw[e,Jf,if_pos hs];omega),rfl⟩
 ·go_enter tL,tJ;go_wp2;go_ret;have b0:=Int.emod_nonneg n (show(many:Int)≠0 by omega);have b1:=Int.emod_lt_of_pos n (show(0:Int)<many by omega);exact⟨Ai (by rw[Jf,if_neg (by omega)];omega),rfl⟩
theorem Kh(n:Int)(many:Nat)(w:C)(hn0:-9223372036854775808<=n)(hn1:n<=9223372036854775807)(h0:0<many)(h1:many<=2000000):M D 13 #[I J n,I J (many:Int)] w fun e w'=>e=F (I J (Jf n many:Int))∧w'=w:=by
 have PK:X (M D 27 #[I J n,I J (many:Int)] w fun e w'=>e=F (I J (Jf n many:Int))∧w'=w):=Wt n many w hn0 hn1 h0 h1;go_enter Tryz.func13,Tryz.ntmps13;go_wp2_with(go_at_call 27;refine PK.out.mono ?_;rintro e w2⟨rfl,rfl⟩);go_ret;exact⟨rfl,rfl⟩
theorem T7{l:PL}(hT:Zd l)(k:List UInt8):jL (ZL l k):=by
 unfold ZL;by_cases h:l.length=0;·rw[if_pos h];exact⟨by simp,fun i hi=>by simp at hi,by simp,by simp⟩
 ·rw[if_neg h];have h60:=hT.room;have hl:=WM k hT (by omega);have hp:=hT.pairs _ (TL k hT (by omega));refine⟨by simp;omega,fun i hi=>?_,by simp;omega,by simp;omega⟩;obtain⟨g1,g2,_⟩:=Mu k hT (by omega) i hi;show(-9223372036854775808<=((Xr l k).getD i QW).bit∧((Xr l k).getD i QW).bit<=9223372036854775807)∧((Xr l k).getD i QW).other.length<=140737488355328;omega
theorem vG.at(hR:vG)(w:C)(v:E)(f:FL)(hv:ZG w v f)(hF:ZN f)(ht:X6 w):M D 8 #[v] w fun e w'=>∃xa xc,e=F (V #[L xa 32 xc,I J 0])∧Qe w' (L xa 32 xc) (Zj (QU f))∧A w w' G:=by
 refine(hR w v f hv hF.fits ht).mono ?_;rintro e w'⟨x,rfl,hx,hg⟩;rw[US,if_pos ((Xd f).2 hF)]at hx;obtain⟨xa,xc,rfl⟩:=hx.shape;rw[Jn]at hx⊢;rw[(Xd f).2 hF];exact⟨xa,xc,rfl,hx,hg⟩
theorem jT.at(hV:jT)(w:C)(r m u o i:E)(f:FL)(n k:List UInt8)(hF:ZN f)(hn:1<=n.length∧n.length<=8)(hk:1<=k.length∧k.length<=16)(hr:Qe w r (Zj (QU f)))(hm:Qe w m n)(hu:Qe w u k)(ho:Xy w o (ZL (QU f) n))(hi:Xy w i (ZL (XT f n) k))(ht:X6 w):M D 9 #[r,m,u,o,i] w fun e w'=>∃xa xc,e=F (V #[tC #[T (YW (XT f n) k).isSome,L xa ((YW (XT f n) k).getD []).length xc],I J 0])∧Qe w' (L xa ((YW (XT f n) k).getD []).length xc) ((YW (XT f n) k).getD [])∧A w w' G:=by
 obtain⟨e1,e2,e3⟩:=Dw hF n k hn hk _ rfl;refine(hV w r m u o i _ n k _ _ hr hm hu ho hi (T7 (zY hF) n) (T7 (J6 hF n) k) ht).mono ?_;rintro e w'⟨x,rfl,hx,hg⟩;rw[e3]at hx;obtain⟨xa,xc,rfl⟩:=hx.shape;rw[e1,e2];exact⟨xa,xc,rfl,hx,hg⟩
theorem De.at(hG:De)(w:C)(v r u:E)(f:FL)(n k:List UInt8)(hv:ZG w v f)(hr:Qe w r n)(hu:Qe w u k)(hF:ZN f)(hn:1<=n.length∧n.length<=8)(hk:1<=k.length∧k.length<=16):M D 12 #[v,r,u] w fun e w'=>∃xa xc,e=F (V #[tC #[T (YW (XT f n) k).isSome,L xa ((YW (XT f n) k).getD []).length xc],I J 0])∧Qe w' (L xa ((YW (XT f n) k).getD []).length xc) ((YW (XT f n) k).getD [])∧A w w' G:=by
 obtain⟨e1,e2,e3⟩:=Hg hF n k hn hk;refine(hG w v r u f n k hv hr hu hF.fits (by omega) (by omega)).mono ?_;rintro e w'⟨x,rfl,hx,hg⟩;rw[e3]at hx;obtain⟨xa,xc,rfl⟩:=hx.shape;rw[e1,e2];exact⟨xa,xc,rfl,hx,hg⟩
def eA:Prop:=∀(w:C)(v:E)(t:Gz),Ug w v t->yV t->X6 w->M D 79 #[v] w fun e w'=>∃vs x,e=F (V #[vs,x,I J (Na t)])∧Jh w.heap.size w' vs (jE Qo t)∧YI w' x (yA Qo t)∧A w w' G
end Go.Proofs.YtahggnmfofgddaaGreatDoor
