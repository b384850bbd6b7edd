/-
  Texts of this proof, joined, with few blanks: SvM, TxIdR, TxIdW, TpApp, TpMayP, RootMem, PCPr, FCProve, FCRoot, HsKeptP, KPick, TpRec.
-/
import Derived.Test.YtpimcmbjdcjmlaaGreatDoorQ3
set_option maxRecDepth 100000
set_option maxHeartbeats 8000000
open Array renaming getElem?_eq_some_iff->P
open Bool renaming false->S,true->tD
open Go renaming World->C,Value->D,Calls->M,undef->V,TypeId->tN
open Go.Ending renaming returned->F
open Go.IntKind renaming i64->J,wrap_i64->tP
open Go.Obj renaming cells->O
open Go.Proofs.Tryz renaming prog->E,ntmps36->Y,ntmps41->d,func36->z,func41->tA,ntmps12->tJ,func12->tL
open Go.RowKit renaming Hid->T,intOf->tM
open Go.Value renaming int->I,slice->L,bool->j,ownBlock->tC,agg->tE,tuple->tG
open Go.World renaming grownBy->A,grownBy_alloc->N,cell?->tI
open List renaming eq_nil_of_length_eq_zero->tB,take_length->tH
open Nat renaming lt_of_lt_of_le->X,zero_add->tK
open Option renaming some->G,none->H
namespace Go.Proofs.YtpimcmbjdcjmlaaGreatDoor
open Go.RowKit
def XO(r:Rp):List UInt8:=match r.pf with|G (f,_,_)=>VI f|none=>[]
def Xk(r:Rp):Cj:=match r.pf with|G (f,n,k)=>Jq f n k|none=>Vd
def Xj(r:Rp):Cj:=match r.pf with|G (f,n,k)=>Jr f n k|none=>Vd
def zX(w:C)(v:D)(r:Rp):Prop:=∃vv vp vr oe os ok ov ie is ik iv,v=tE #[I J r.sess,I J r.code,I J r.turn,j r.found,vv,vp,vr,oe,os,ok,ov,ie,is,ik,iv]∧Qe w vv r.value∧Qp w vp r.pairs∧Qe w vr (XO r)∧KG w (tE #[oe,os,ok,ov]) (Xk r)∧KG w (tE #[ie,is,ik,iv]) (Xj r)
theorem zX.grown{w w':C}{v:D}{r:Rp}(h:zX w v r)(hg:A w w' H):zX w' v r:=by
 obtain⟨vv,vp,vr,oe,os,ok,ov,ie,is,ik,iv,rfl,h1,h2,h3,h4,h5⟩:=h;exact⟨vv,vp,vr,oe,os,ok,ov,ie,is,ik,iv,rfl,h1.grown hg,h2.grown hg,h3.grown hg,h4.grown hg,h5.grown hg⟩
def mX(w:C)(cs:List D)(r:Rp):Prop:=zX w (tE ⟨cs⟩) r
def nC(w:C)(cs:List D)(c:XE):Prop:=∃vw,cs=[I J c.turn,vw]∧Xr 0 w vw c.writes
def nA(w:C)(cs:List D)(f:FL):Prop:=∃v,cs=[v]∧ZA 0 w v f
def mZ(_:C)(cs:List D)(n:Nat):Prop:=cs=[I J (n:Int)]
abbrev Yv:=X6 39 15 mX
abbrev Kn:=X6 131 2 nC
abbrev JX:=X6 44 1 nA
abbrev Vb:=X6 3 1 mZ
def Zq(v:Sv):List FL:=(List.range (v.commits.length+1)).map (Qz v)
theorem UR(v:Sv):(Zq v).length=v.commits.length+1:=by
 simp[Zq]
theorem AR(v:Sv){n:Nat}(h:n<=v.commits.length):(Zq v).getD n []=Qz v n:=by
 simp[Zq,List.getD,List.getElem?_map,List.getElem?_range (show n<v.commits.length+1by omega)]
def Jj(v:Sv)(s:Nat):Int:=if v.waits s=tD then 2 else if v.begun s=tD then 1 else 0
def mQ(_B:Nat)(w:C)(v:Sv)(s:Nat)(cs:Array D):Prop:=∃t vr vw,cs[7+s*4]?=G (I J (Jj v s))∧cs[7+s*4+1]?=G (I J t.start)∧cs[7+s*4+2]?=G vr∧cs[7+s*4+3]?=G vw∧Za 0 w (fun w=>GU w (tE #[I J t.start,vr,vw]) t)∧(v.begun s=tD->t=v.txns s)
structure YV (R B : Nat) (w : C) (v : Sv) (cs : Array D) : Prop where
  size : cs.size = 40
  up : cs[0]? = G (j v.up)
  tape : ∃ vd, cs[1]? = G vd ∧ Za 0 w (fun w => Qe w vd v.tape.data)
  mark : cs[2]? = G (I J v.tape.synced)
  commits : ∃ u, cs[3]? = G u ∧ Kn B w u v.commits
  forests : ∃ u, cs[4]? = G u ∧ JX B w u (Zq v)
  synced : cs[5]? = G (I J (v.synced : Int))
  queue : ∃ u, cs[6]? = G u ∧ Vb B w u v.queue
  sess : ∀ s, s < 8 -> mQ B w v s cs
  replies : ∃ u, cs[39]? = G u ∧ Yv B w u v.out ∧ ∀ g, u.ownBlock = G g -> g < R
def YD(R B:Nat)(w:C)(b:Nat)(v:Sv):Prop:=∃cs,B<=b∧w.heap[b]?=G (O cs 79 (0,0))∧YV R B w v cs
theorem PM:Ps 79:=.inl rfl
theorem uP:Ps 39:=.inr (.inl rfl)
theorem l9:Ps 131:=.inr (.inr (.inl rfl))
theorem mN:Ps 44:=.inr (.inr (.inr (.inl rfl)))
theorem l8:Ps 3:=.inr (.inr (.inr (.inr rfl)))
theorem mQ.later{B:Nat}{w w':C}{v:Sv}{s:Nat}{cs:Array D}(h:mQ B w v s cs)(k:Kp B w w'):mQ B w' v s cs:=by
 obtain⟨t,vr,vw,h1,h2,h3,h4,h5,h6⟩:=h;exact⟨t,vr,vw,h1,h2,h3,h4,h5.later k,h6⟩
theorem YV.grown{R B:Nat}{w w':C}{v:Sv}{cs:Array D}(h:YV R B w v cs)(hg:A w w' H):YV R B w' v cs:=by
 obtain⟨h0,h1,⟨x2,h2,k2⟩,h3,⟨x4,h4,k4⟩,⟨x5,h5,k5⟩,h6,⟨x7,h7,k7⟩,h8,⟨x9,h9,k9,r9⟩⟩:=h;exact⟨h0,h1,⟨x2,h2,k2.grown hg⟩,h3,⟨x4,h4,k4.grown hg⟩,⟨x5,h5,k5.grown hg⟩,h6,⟨x7,h7,k7.grown hg⟩,fun s hs=>(h8 s hs).later (Kp.grown hg),⟨x9,h9,k9.grown hg,r9⟩⟩
theorem YV.turned{R B:Nat}{w w':C}{v:Sv}{cs:Array D}(h:YV R B w v cs){g:Nat}{ds:Array D}{t:tN}{fz:Nat×Nat}(hk:Kp B w w')(hg:A w w' (G g))(hb:w.heap[g]?=G (O ds t fz))(h1':t≠39)(h2':t≠131)(h3':t≠44)(h4':t≠3):YV R B w' v cs:=by
 obtain⟨h0,h1,⟨x2,h2,k2⟩,h3,⟨x4,h4,k4⟩,⟨x5,h5,k5⟩,h6,⟨x7,h7,k7⟩,h8,⟨x9,h9,k9,r9⟩⟩:=h;exact⟨h0,h1,⟨x2,h2,k2.later hk⟩,h3,⟨x4,h4,k4.other (by decide) hk hg (.inr ⟨g,ds,t,fz,rfl,hb,h2'⟩)⟩,⟨x5,h5,k5.other (by decide) hk hg (.inr ⟨g,ds,t,fz,rfl,hb,h3'⟩)⟩,h6,⟨x7,h7,k7.other (by decide) hk hg (.inr ⟨g,ds,t,fz,rfl,hb,h4'⟩)⟩,fun s hs=>(h8 s hs).later hk,⟨x9,h9,k9.other (by decide) hk hg (.inr ⟨g,ds,t,fz,rfl,hb,h1'⟩),r9⟩⟩
theorem YV.box{R B:Nat}{w w':C}{v:Sv}{cs:Array D}(h:YV R B w v cs){nb:Nat}{ds:Array D}{fz:Nat×Nat}(hk:Kp B w w')(hg:A w w' (G nb))(hn:R<=nb)(hb:w.heap[nb]?=G (O ds 39 fz)):YV R B w' v cs:=by
 obtain⟨h0,h1,⟨x2,h2,k2⟩,h3,⟨x4,h4,k4⟩,⟨x5,h5,k5⟩,h6,⟨x7,h7,k7⟩,h8,⟨x9,h9,k9,r9⟩⟩:=h;refine⟨h0,h1,⟨x2,h2,k2.later hk⟩,h3,⟨x4,h4,k4.other (by decide) hk hg (.inr ⟨nb,ds,_,fz,rfl,hb,by decide⟩)⟩,⟨x5,h5,k5.other (by decide) hk hg (.inr ⟨nb,ds,_,fz,rfl,hb,by decide⟩)⟩,h6,⟨x7,h7,k7.other (by decide) hk hg (.inr ⟨nb,ds,_,fz,rfl,hb,by decide⟩)⟩,fun s hs=>(h8 s hs).later hk,⟨x9,h9,k9.kept hk (fun g e=>hg.block g (k9.lt g e).2 (fun q=>?_)),r9⟩⟩;have:=r9 g e;cases q;omega
theorem YV.more{R R' B:Nat}{w:C}{v:Sv}{cs:Array D}(h:YV R B w v cs)(hR:R<=R'):YV R' B w v cs:=by
 obtain⟨h0,h1,h2,h3,h4,h5,h6,h7,h8,⟨x9,h9,k9,r9⟩⟩:=h;exact⟨h0,h1,h2,h3,h4,h5,h6,h7,h8,⟨x9,h9,k9,fun g e=>X (r9 g e) hR⟩⟩
theorem GW{R B:Nat}{w:C}{v:Sv}{cs:Array D}(h:YV R B w v cs):∀q,cs[0]?≠G (I .u8 q):=fun q e=>by
 rw[h.up]at e;cases e
theorem Yy{R B:Nat}{w w':C}{v:Sv}{b:Nat}{cs:Array D}(h:YV R B w v cs)(hB:B<=b)(hb:w.heap[b]?=G (O cs 79 (0,0)))(hg:A w w' (G b)):Kp B w w'∧YV R B w' v cs:=have k:=Kp.turn hg hB hb PM (GW h);⟨k,h.turned k hg hb (by
 decide) (by
 decide) (by
 decide) (by
 decide)⟩
theorem Qm{w:C}{b i:Nat}{cs:Array D}{t:tN}{u:D}{fz:Nat×Nat}(hb:w.heap[b]?=G (O cs t fz))(h:cs[i]?=G u):w.cell? ⟨b,i,H⟩=G u:=by
 simp[tI,hb,h]
theorem Qk{w:C}{b:Nat}{cs:Array D}{t:tN}(hb:w.heap[b]?=G (O cs t (0,0)))(i:Nat):w.frozen? ⟨b,i,H⟩=S:=by
 simp[World.frozen?,hb]
theorem T7(w:C)(v:D)(l:List Rd)(p:Rd->Bool)(g:Nat)(lb:Array D)(eg:∀args w,(callFunc g args).run E w=.ok (.enter g args) w)(hv:Xa w v l)(hl:l.length<=140737488355328)(hp:∀W x r,A w W H->Yt W x r->M E g (#[x]++lb) W fun e w'=>e=F (j (p r))∧A W w' H):M E 107 #[v,.func (.func g) #[] lb] w fun e w'=>e=F (I J (ZP p l))∧A w w' H:=by
 obtain⟨a,cap,rfl⟩:=hv.shape;have HV:T (Xa w (L a l.length cap) l):=hv;have HP:T (∀W x r,A w W H->Yt W x r->M E g (#[x]++lb) W fun e w'=>e=F (j (p r))∧A W w' H):=hp;obtain⟨Z,hZ⟩:∃Z,Z=ZP p l:=⟨_,rfl⟩;have HZ1:T (∀m,m<l.length->(l.take m).any p=S->p (l.getD m Ze)=tD->Z=(m:Int)):=fun m h1 h2 h3=>by rw[hZ];exact qU p Ze l m h1 h2 h3
 have HZ2:T (l.any p=S->Z=-1):=fun h=>by rw[hZ];exact KW p l h
 rw[<-hZ];clear hv hp hZ;go_enter Tryz.func107,Tryz.ntmps107;go_wp2_with fail;go_loopw[5,8](fun _ i wr=>∃m:Nat,m<=l.length∧i=I J (m:Int)∧(l.take m).any p=S∧A w wr H)(fun _ i _=>l.length-(tM i).toNat);case atStart=>exact⟨0,by omega,rfl,by simp,Qb _ _⟩
 case round=>obtain⟨m,hm,rfl,han,hg⟩:=hrel;by_cases hlt:m<l.length;(·(have i1:(m:Int)<(l.length:Int):=by omega);obtain⟨b,o,rfl,u1,u2,u3,u4,u5,u6,⟨c1,c2,c3,c4⟩,hr⟩:=z9 HV.out m hlt;have z1:=hg.cell c1 (by simp);have z2:=hg.cell c2 (by simp);have z3:=hg.cell c3 (by simp);have z4:=hg.cell c4 (by simp);have hcall:=HP.out wr _ _ hg (hr.grown hg);have HA:T ((l.take (m+1)).any p=((l.take m).any p||p (l.getD m Ze))):=P7 Ze p l m hlt;have HZ3:T (p (l.getD m Ze)=tD->Z=(m:Int)):=fun h=>HZ1.out m hlt han h;have HAN:T ((l.take m).any p=S):=han;clear han hr c1 c2 c3 c4;have HC:T (M E g (#[tE #[L u1 (l.getD m Ze).name.length u2,L u3 (l.getD m Ze).key.length u4,j (l.getD m Ze).wide,L u5 (l.getD m Ze).last.length u6]]++lb) wr fun e w'=>e=F (j (p (l.getD m Ze)))∧A wr w' H):=hcall;clear hcall;generalize p (l.getD m Ze)=B at*;generalize(l.getD m Ze).name.length=n1 at*;generalize(l.getD m Ze).key.length=n2 at*;generalize(l.getD m Ze).last.length=n3 at*;generalize(l.getD m Ze).wide=g1 at*;cases B with|true=>have HZ:T (Z=(m:Int)):=HZ3.out rfl;clear HZ3 HA;go_wp2_with fail;refine HC.out.mono ?_;rintro e w2⟨rfl,hg2⟩;go_wp2;go_ret;exact⟨Z6 HZ.out,Qa hg hg2⟩|false=>(have HN:T ((l.take (m+1)).any p=S):=by show _=_;rw[HA.out,HAN.out];rfl);clear HZ3 HA;go_wp2_with fail;refine HC.out.mono ?_;rintro e w2⟨rfl,hg2⟩;go_wp2_with fail;go_roundw;(case rel=>exact⟨m+1,by omega,by go_num,HN.out,Qa hg hg2⟩);case measure=>simp[tM];omega);·(obtain rfl:m=l.length:=by omega);(have i1:¬(l.length:Int)<(l.length:Int):=by omega);rw[tH]at han;have HZ:T (Z=-1):=HZ2.out han;clear han;go_wp2;go_ret;exact⟨Z6 HZ.out,hg⟩
theorem Rc(w:C)(v:D)(l:List Q9)(p:Q9->Bool)(g:Nat)(lb:Array D)(eg:∀args w,(callFunc g args).run E w=.ok (.enter g args) w)(hv:QN w v l)(hl:l.length<=140737488355328)(hp:∀W x r,A w W H->Xb W x r->M E g (#[x]++lb) W fun e w'=>e=F (j (p r))∧A W w' H):M E 76 #[v,.func (.func g) #[] lb] w fun e w'=>e=F (I J (ZP p l))∧A w w' H:=by
 obtain⟨a,cap,rfl⟩:=hv.shape;have HV:T (QN w (L a l.length cap) l):=hv;have HP:T (∀W x r,A w W H->Xb W x r->M E g (#[x]++lb) W fun e w'=>e=F (j (p r))∧A W w' H):=hp;obtain⟨Z,hZ⟩:∃Z,Z=ZP p l:=⟨_,rfl⟩;have HZ1:T (∀m,m<l.length->(l.take m).any p=S->p (l.getD m Qo)=tD->Z=(m:Int)):=fun m h1 h2 h3=>by rw[hZ];exact qU p Qo l m h1 h2 h3
 have HZ2:T (l.any p=S->Z=-1):=fun h=>by rw[hZ];exact KW p l h
 rw[<-hZ];clear hv hp hZ;go_enter Tryz.func76,Tryz.ntmps76;go_wp2_with fail;go_loopw[5,8](fun _ i wr=>∃m:Nat,m<=l.length∧i=I J (m:Int)∧(l.take m).any p=S∧A w wr H)(fun _ i _=>l.length-(tM i).toNat);case atStart=>exact⟨0,by omega,rfl,by simp,Qb _ _⟩
 case round=>obtain⟨m,hm,rfl,han,hg⟩:=hrel;by_cases hlt:m<l.length;(·(have i1:(m:Int)<(l.length:Int):=by omega);obtain⟨b,o,rfl,u1,u2,u3,u4,u5,u6,⟨c1,c2,c3,c4⟩,hr⟩:=Yd HV.out m hlt;have z1:=hg.cell c1 (by simp);have z2:=hg.cell c2 (by simp);have z3:=hg.cell c3 (by simp);have z4:=hg.cell c4 (by simp);have hcall:=HP.out wr _ _ hg (hr.grown hg);have HA:T ((l.take (m+1)).any p=((l.take m).any p||p (l.getD m Qo))):=P7 Qo p l m hlt;have HZ3:T (p (l.getD m Qo)=tD->Z=(m:Int)):=fun h=>HZ1.out m hlt han h;have HAN:T ((l.take m).any p=S):=han;clear han hr c1 c2 c3 c4;have HC:T (M E g (#[tE #[L u1 (l.getD m Qo).name.length u2,L u3 (l.getD m Qo).key.length u4,j (l.getD m Qo).gone,L u5 (l.getD m Qo).value.length u6]]++lb) wr fun e w'=>e=F (j (p (l.getD m Qo)))∧A wr w' H):=hcall;clear hcall;generalize p (l.getD m Qo)=B at*;generalize(l.getD m Qo).name.length=n1 at*;generalize(l.getD m Qo).key.length=n2 at*;generalize(l.getD m Qo).value.length=n3 at*;generalize(l.getD m Qo).gone=g1 at*;cases B with|true=>have HZ:T (Z=(m:Int)):=HZ3.out rfl;clear HZ3 HA;go_wp2_with fail;refine HC.out.mono ?_;rintro e w2⟨rfl,hg2⟩;go_wp2;go_ret;exact⟨Z6 HZ.out,Qa hg hg2⟩|false=>(have HN:T ((l.take (m+1)).any p=S):=by show _=_;rw[HA.out,HAN.out];rfl);clear HZ3 HA;go_wp2_with fail;refine HC.out.mono ?_;rintro e w2⟨rfl,hg2⟩;go_wp2_with fail;go_roundw;(case rel=>exact⟨m+1,by omega,by go_num,HN.out,Qa hg hg2⟩);case measure=>simp[tM];omega);·(obtain rfl:m=l.length:=by omega);(have i1:¬(l.length:Int)<(l.length:Int):=by omega);rw[tH]at han;have HZ:T (Z=-1):=HZ2.out han;clear han;go_wp2;go_ret;exact⟨Z6 HZ.out,hg⟩
def Od:Prop:=∀(w:C)(v u:D)(t:V9)(c:XE),KT w v t->J0 w u c->yI t->NW c->Yu w->M E 66 #[v,u] w fun e w'=>∃x,e=F (tG #[x,I J (Ve Qs t c)])∧Yw w' x (zV Qs t c)∧A w w' H
theorem UX(w:C)(v:D)(t:V9)(hv:KT w v t):M E 36 #[v] w fun e w'=>e=F (I J (if Gx t=tD then 0 else 6))∧A w w' H:=by
 obtain⟨a,cap,rfl⟩:=hv.agg;have hm:=Ky t;clear hv;by_cases c1:(t.data.length:Int)>200000;·rw[if_neg (by rw[hm];omega)];clear hm;go_enter z,Y;go_wp2;go_ret;exact⟨rfl,N _ _ _⟩
 ·by_cases c2:t.synced<0;(·rw[if_neg (by rw[hm];omega)];clear hm;go_enter z,Y;go_wp2;go_ret;exact⟨rfl,N _ _ _⟩);·by_cases c3:t.synced>(t.data.length:Int);(·rw[if_neg (by rw[hm];omega)];clear hm;go_enter z,Y;go_wp2;go_ret;exact⟨rfl,N _ _ _⟩);·rw[if_pos (by rw[hm];omega)];clear hm;go_enter z,Y;go_wp2;go_ret;exact⟨rfl,N _ _ _⟩
def cY(w:C)(b:Nat):Prop:=∃cur t fz,w.heap[b]?=G (O cur t fz)∧(t=5∨∃q,cur[0]?=G (I .u8 q))
def Bb(w:C)(b:Nat):Prop:=∃cur t fz,w.heap[b]?=G (O cur t fz)∧t≠5∧∀q,cur[0]?≠G (I .u8 q)
theorem cY.ne{w:C}{a b:Nat}(h:cY w a)(h':Bb w b):a≠b:=by
 rintro rfl;obtain⟨cur,t,fz,h1,h2⟩:=h;obtain⟨cur',t',fz',h3,h4,h5⟩:=h';rw[h1]at h3;simp only[Option.some.injEq,Obj.cells.injEq]at h3;obtain⟨rfl,rfl,_⟩:=h3;rcases h2 with h2|⟨q,h2⟩;·exact h4 h2
 ·exact h5 q h2
theorem Bb.grown{w w':C}{b:Nat}(h:Bb w b)(hg:A w w' H):Bb w' b:=by
 obtain⟨cur,t,fz,h1,h2⟩:=h;exact⟨cur,t,fz,by rw[hg.block b (P.1 h1).1 (by simp)];exact h1,h2⟩
def Us(w:C)(v:D)(bs:List UInt8):Prop:=Qe w v bs∧(bs=[]∨∃b,v.ownBlock=G b∧b<w.heap.size∧cY w b)
theorem Q7.partSR{base':Nat}{w:C}{v:D}{bs:List UInt8}(h:Q7 base' w v bs):Us w v bs:=by
 refine⟨h.slice,?_⟩;rcases h.2with⟨rfl,h0⟩|⟨g,cap,cur,rfl,hb,hg,_⟩;·exact .inl (tB h0)
 ·exact .inr ⟨g,rfl,(P.1 hg).1,cur,_,_,hg,.inl rfl⟩
theorem ZJ.partSR{w:C}{nb:Nat}{bs:List UInt8}(h:ZJ w nb bs)(hl:bs.length=32):Us w (L (G ⟨nb,0,H⟩) 32 32) bs:=by
 refine⟨h.slice32 hl,.inr ⟨nb,rfl,VB (h.cell 0 (by omega)),?_⟩⟩;have hc:=h.cell 0 (by omega);obtain⟨t,hb⟩:=h;refine⟨_,t,_,hb,.inr ⟨((bs.getD 0 0).toNat:Int),?_⟩⟩;·simpa[tI,hb]using hc
theorem Ei{w:C}{v:D}{bs:List UInt8}(h:Us w v bs):v.oneCell'=tD:=by
 obtain⟨⟨a,cap,rfl,_⟩,_⟩:=h;rfl
def C9(w:C)(row:Option Nat):Prop:=row=H∨∃g,row=G g∧Bb w g
theorem Us.kept{w w':C}{v:D}{bs:List UInt8}(h:Us w v bs){row:Option Nat}(hg:A w w' row)(hrow:C9 w row):Us w' v bs:=by
 obtain⟨hs,ho⟩:=h;rcases ho with rfl|⟨b,hb,hlt,hc⟩;·obtain⟨a,cap,rfl,hc,h⟩:=hs;refine⟨⟨a,cap,rfl,hc,?_⟩,.inl rfl⟩;rcases h with h|⟨b,o,rfl,h⟩;(·exact .inl h);·exact .inr ⟨b,o,rfl,fun i hi=>by simp at hi⟩
 ·(have hne:G b≠row:=by intro e;rcases hrow with rfl|⟨g,rfl,hg'⟩;(·cases e);·cases e;exact hc.ne hg' rfl);have hblk:=hg.block b hlt hne;refine⟨?_,.inr ⟨b,hb,X hlt hg.size,?_⟩⟩;(·obtain⟨a,cap,rfl,hcp,h⟩:=hs;refine⟨a,cap,rfl,hcp,?_⟩;rcases h with h|⟨b',o,rfl,h⟩;(·exact .inl h);·refine .inr ⟨b',o,rfl,fun i hi=>?_⟩;simp[tC]at hb;subst hb;exact hg.cell (h i hi) (by simpa using hne));·obtain⟨cur,t,fz,hc,hc2⟩:=hc;exact⟨cur,t,fz,by rw[hblk];exact hc,hc2⟩
theorem Us.grown{w w':C}{v:D}{bs:List UInt8}(h:Us w v bs)(hg:A w w' H):Us w' v bs:=h.kept hg (.inl rfl)
theorem lH:(35:Nat)≠5:=by
 decide
def Vq(base:Nat)(w:C)(v:D)(l:PL):Prop:=∃vs:List (D×D),vs.length=l.length∧w.ownsRow base 35 2 v l.length (flat vs)∧C9 w v.ownBlock∧(∀k,v.ownBlock=G k->∃cur fz,w.heap[k]?=G (O cur 35 fz))∧∀i,i<l.length->Qf base w (vs.getD i (V,V)).1 (l.getD i ([],[])).1∧Us w (vs.getD i (V,V)).2 (l.getD i ([],[])).2
theorem Ii(base:Nat)(w:C):Vq base w (L H 0 0) []:=⟨[],rfl,World.ownsRow_nil _ _ _ _,.inl rfl,fun k hk=>by
 simp[tC]at hk,fun i hi=>by
 simp at hi⟩
theorem Vq.lt{base:Nat}{w:C}{v:D}{l:PL}(h:Vq base w v l):∀k,v.ownBlock=G k->base<=k∧k<w.heap.size:=by
 obtain⟨vs,_,h,_⟩:=h;exact World.ownsRow.lt h
theorem Vq.shape{base:Nat}{w:C}{v:D}{l:PL}(h:Vq base w v l):∃a cap,v=L a l.length cap:=by
 obtain⟨vs,_,h,_⟩:=h;rcases h.2with⟨rfl,h0⟩|⟨g,cap,cur,rfl,_⟩;·exact⟨H,0,by rw[h0]⟩
 ·exact⟨_,cap,rfl⟩
theorem C9.grownN{w w':C}{r:Option Nat}(h:C9 w r)(hg:A w w' H):C9 w' r:=by
 rcases h with h|⟨g,h,h2⟩;·exact .inl h
 ·exact .inr ⟨g,h,h2.grown hg⟩
theorem Vq.grownNone{base:Nat}{w w':C}{v:D}{l:PL}(h:Vq base w v l)(hg:A w w' H):Vq base w' v l:=by
 obtain⟨vs,h1,h2,h3,h4,h5⟩:=h;refine⟨vs,h1,World.ownsRow.kept h2 hg ?_,h3.grownN hg,fun k hk=>?_,fun i hi=>⟨(h5 i hi).1.kept hg (.inl rfl),(h5 i hi).2.grown hg⟩⟩;·cases hv:v.ownBlock with|none=>exact .inl rfl|some k=>exact .inr (by simp)
 ·obtain⟨cur,fz,hb⟩:=h4 k hk;exact⟨cur,fz,by rw[hg.block k (P.1 hb).1 (by simp)];exact hb⟩
theorem Vq.list{base:Nat}{w:C}{v:D}{l:PL}(h:Vq base w v l):Qp w v l:=by
 obtain⟨vs,hl,hr,_,_,h3⟩:=h;have hr':=hr;rcases hr.2with⟨rfl,h0⟩|⟨g,cap,cur,rfl,hb,hg,hn,hm,hs,ht⟩;·have:l=[]:=tB h0;subst this;exact Yj w
 ·refine⟨_,cap,rfl,hn,.inr ⟨g,0,rfl,fun i hi=>?_⟩⟩;have hf:=xU vs i (by omega);refine⟨(vs.getD i (V,V)).1,(vs.getD i (V,V)).2,?_,?_,(h3 i hi).1.1,(h3 i hi).2.1⟩;(·have:=Gy.cells hr' _ _ hf.1;rw[tK];exact this);·have:=Gy.cells hr' _ _ hf.2;rw[tK];exact this
theorem DY{base:Nat}{w W w1:C}{v:D}{l:PL}(h:A w W H)(ho:Vq base W v l)(hb:w.heap.size<=base)(hg:A W w1 v.ownBlock):A w w1 H:=⟨hg.os.trans h.os,hg.tape.trans h.tape,hg.output.trans h.output,Nat.le_trans h.size hg.size,fun i hi hn=>(hg.block i (X hi h.size) (fun e=>by
 have:=(ho.lt i e.symm).1;omega)).trans (h.block i hi hn)⟩
theorem kX{w:C}{ops:Array Oper}{rest:List Oper}{o:Oper}{a:Act}{Q:Exit->Act->C->Prop}(hgd:o.guard=H)(s x:Operand)(ho:o.op=.call {callee:=.builtin .append,args:=#[s,x],argTypes:=#[32,32]})(base:Nat)(v:D)(l:PL)(hs:a.eval s=v)(hown:Vq base w v l)(vk vv:D)(p:Pr)(hk:Qf base w vk p.1)(hv:Us w vv p.2)(nb:Nat)(hb:w.heap[nb]?=G (O #[vk,vv] 35))(hx:a.eval x=L (G ⟨nb,0,H⟩) 1 1)(hl:(l.length+1)*48<=140737488355328)(hbase:base<=w.heap.size)(h:∀v' w',Vq base w' v' (l++[p])->A w w' v.ownBlock->wpList E ops Q rest (a.put o.dst v') w'):wpList E ops Q (o::rest) a w:=by
 obtain⟨i0,hi,hz0,hz1,hz2⟩:=info_parts CD;obtain⟨vs,hvl,hr,hrow,hty,hp⟩:=hown;have hrow5:v.ownBlock=H∨∃g cur fz,v.ownBlock=G g∧base<=g∧w.heap[g]?=G (O cur 35 fz):=by cases hv':v.ownBlock with|none=>exact .inl rfl|some k=>obtain⟨cur,fz,hb'⟩:=hty k hv';exact .inr ⟨k,cur,fz,rfl,(World.ownsRow.lt hr k hv').1,hb'⟩
 refine wpList_plain hgd fun K hK=>?_;refine wp_append_lies w s x 32 ho base 35 i0 (tE #[L H 0 0,L H 0 0]) 2 48 Tryz.underlying32 hi hz0 hz1 hz2 rfl (by decide) v l.length (flat vs) hs hr ⟨nb,0,H⟩ 1 1 (flat [(vk,vv)]) hx rfl (World.news_of_block (cs:=#[vk,vv]) hb) ?_ (by omega) (by unfold maxLen;omega) hl hbase _ rfl ?_;·intro u hu;simp only[flat,List.flatMap_cons,List.flatMap_nil,List.append_nil,List.mem_cons,List.not_mem_nil,or_false]at hu;rcases hu with rfl|rfl;(·exact Zc hk);·exact Ei hv
 ·intro g cap w' h1 h2 _ _;(have hparts:∀i,i<(l++[p]).length->Qf base w' ((vs++[(vk,vv)]).getD i (V,V)).1 ((l++[p]).getD i ([],[])).1∧Us w' ((vs++[(vk,vv)]).getD i (V,V)).2 ((l++[p]).getD i ([],[])).2:=by intro i hi;rw[Jh,Jh,hvl];by_cases hil:i<l.length;(·rw[if_pos hil,if_pos hil];exact⟨(hp i hil).1.kept h2 hrow5,(hp i hil).2.kept h2 hrow⟩);·rw[if_neg hil,if_neg hil];(obtain rfl:i=l.length:=by simp at hi;omega);rw[Nat.sub_self];exact⟨hk.kept h2 hrow5,hv.kept h2 hrow⟩);(have hblk:∃cur,w'.heap[g]?=G (O cur 35 (0,0))∧cur.toList.take ((l.length+1)*2)=flat vs++flat [(vk,vv)]:=by rcases h1.2with⟨e,_⟩|⟨g',cap',cur,e,_,hg',_,_,_,ht⟩;(·cases e);·simp only[Value.slice.injEq,Option.some.injEq,Addr.mk.injEq]at e;obtain⟨⟨rfl,_⟩,_,_⟩:=e;exact⟨cur,hg',ht⟩);obtain⟨cur,hcur,htk⟩:=hblk;(have hfirst:∀q,cur[0]?≠G (I .u8 q):=by intro q hq;have e0:=(xU (vs++[(vk,vv)]) 0 (by simp)).1;rw[JU,<-htk,List.getElem?_take,if_pos (by omega)]at e0;have hp0:=(hparts 0 (by simp)).1;obtain⟨a0,c0,e1⟩:=hp0.1.shape;rw[e1]at e0;(have:cur.toList[0]?=cur[0]?:=by simp);rw[Nat.zero_mul,this,hq]at e0;cases e0);refine hK _ _ (h _ w' ⟨vs++[(vk,vv)],by simp[hvl],?_,.inr ⟨g,rfl,cur,_,_,hcur,lH,hfirst⟩,fun k hk'=>?_,hparts⟩ h2);(·rw[JU,List.length_append];exact h1);·simp[tC]at hk';subst hk';exact⟨cur,_,hcur⟩
def bG:Prop:=∀(w:C)(v u:D)(l:PL)(k:List UInt8),Qp w v l->Qe w u k->uI l->Yu w->M E 72 #[v,u] w fun e w'=>∃x,e=F (tG #[x,I J (Xd l k)])∧Zz w.heap.size w' x (yR l k)∧A w w' H
def IY:Prop:=∀(w:C)(v r u:D)(l:FL)(n k:List UInt8),ZS w v l->Qe w r n->Qe w u k->Gj l->n.length<=140737488355328->k.length<=140737488355328->Yu w->M E 50 #[v,r,u] w fun e w'=>∃x y,e=F (tG #[x,y,I J (Y5 l n k)])∧Zz 0 w' x (Jq l n k)∧Zz 0 w' y (Jr l n k)∧A w w' H
def OF:Prop:=∀(w:C)(v:D)(l:FL),ZS w v l->Gj l->Yu w->M E 49 #[v] w fun e w'=>∃x,e=F (tG #[x,I J (Q6 l)])∧XX w' x (VI l)∧A w w' H
theorem In:aS:=by
 intro w n t hn0 hn1 ht0 ht1;by_cases h0:t>=0;·by_cases h1:t<=n;(·(have i0:J.wrap (n-t)=n-t:=by rw[tP];omega);by_cases h2:n-t<6;(·(have hk:Ya n t=tD:=by rw[Ya,decide_eq_true_iff];omega);rw[hk];go_enter tA,d;go_wp2;go_ret;exact⟨rfl,Qb _ _⟩);·(have hk:Ya n t=S:=by rw[Ya,decide_eq_false_iff_not];omega);rw[hk];go_enter tA,d;go_wp2;go_ret;exact⟨rfl,Qb _ _⟩);·(have hk:Ya n t=S:=by rw[Ya,decide_eq_false_iff_not];omega);rw[hk];go_enter tA,d;go_wp2;go_ret;exact⟨rfl,Qb _ _⟩
 ·(have hk:Ya n t=S:=by rw[Ya,decide_eq_false_iff_not];omega);rw[hk];go_enter tA,d;go_wp2;go_ret;exact⟨rfl,Qb _ _⟩
theorem Bs{x:Int}{k:Nat}(h:x=(k:Int)):F (I J x)=F (I J (k:Int)):=by
 rw[h]
theorem Hr(n:Int)(many:Nat)(w:C)(hn0:-9223372036854775808<=n)(hn1:n<=9223372036854775807)(h0:0<many)(h1:many<=2000000):M E 12 #[I J n,I J (many:Int)] w fun e w'=>e=F (I J (Ju n many:Int))∧w'=w:=by
 by_cases hs:n<0;·go_enter tL,tJ;go_wp2;go_ret;(have e:-(n+1).tmod many=(-(n+1))%many:=by rw[<-Int.neg_tmod,Int.tmod_eq_emod_of_nonneg (by omega)]);have b0:=Int.emod_nonneg (-(n+1)) (show(many:Int)≠0 by omega);have b1:=Int.emod_lt_of_pos (-(n+1)) (show(0:Int)<many by omega);exact⟨Bs (by rw[e,Ju,if_pos hs];omega),rfl⟩
 ·go_enter tL,tJ;go_wp2;go_ret;have b0:=Int.emod_nonneg n (show(many:Int)≠0 by omega);have b1:=Int.emod_lt_of_pos n (show(0:Int)<many by omega);exact⟨Bs (by rw[Ju,if_neg (by omega)];omega),rfl⟩
theorem UE(n:Int)(many:Nat)(w:C)(hn0:-9223372036854775808<=n)(hn1:n<=9223372036854775807)(h0:0<many)(h1:many<=2000000):M E 9 #[I J n,I J (many:Int)] w fun e w'=>e=F (I J (Ju n many:Int))∧w'=w:=by
 have PK:T (M E 12 #[I J n,I J (many:Int)] w fun e w'=>e=F (I J (Ju n many:Int))∧w'=w):=Hr n many w hn0 hn1 h0 h1;go_enter Tryz.func9,Tryz.ntmps9;go_wp2_with(go_at_call 12;refine PK.out.mono ?_;rintro e w2⟨rfl,rfl⟩);go_ret;exact⟨rfl,rfl⟩
def cR:Prop:=∀(w:C)(v:D)(t:V9),KT w v t->yI t->Yu w->M E 39 #[v] w fun e w'=>∃vs x,e=F (tG #[vs,x,I J (EF t)])∧Y1 w.heap.size w' vs (yS Qs t)∧Yw w' x (xH Qs t)∧A w w' H
end Go.Proofs.YtpimcmbjdcjmlaaGreatDoor
