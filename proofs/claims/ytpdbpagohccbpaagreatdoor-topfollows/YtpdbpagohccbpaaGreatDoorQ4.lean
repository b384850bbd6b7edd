/-
  Texts of this proof, joined, with few blanks: SvM, TxIdR, TxIdW, TpApp, TpMayP, RootMem, PCPr, FCProve, FCRoot, HsKeptP, TpRec, KPick.
-/
import Derived.Test.YtpdbpagohccbpaaGreatDoorQ3
set_option maxRecDepth 100000
set_option maxHeartbeats 8000000
open Array renaming getElem?_eq_some_iff->tN
open Bool renaming false->tP,true->tZ
open Go renaming World->tB,Value->tC,Calls->tK,undef->tQ,TypeId->sH
open Go.Ending renaming returned->tE
open Go.IntKind renaming i64->tI,wrap_i64->sI
open Go.Obj renaming cells->tM
open Go.Proofs.Tryz renaming prog->tD,ntmps40->tS,ntmps44->tT,func40->tV,func44->tW,ntmps20->sE,func20->sG
open Go.Value renaming int->tH,slice->tJ,bool->tU,ownBlock->tY,agg->sA,tuple->sB
open Go.World renaming grownBy->tA,grownBy_alloc->tL,cell?->sD
open List renaming eq_nil_of_length_eq_zero->tX,take_length->sC
open Nat renaming lt_of_lt_of_le->tR,zero_add->sF
open Option renaming some->tF,none->tG
namespace Go.Proofs.YtpdbpagohccbpaaGreatDoor
open Go.RowKit
def vR(r:Rp):List UInt8:=match r.pf with|tF (f,_,_)=>GY f|none=>[]
def Ko(r:Rp):Dl:=match r.pf with|tF (f,n,k)=>JX f n k|none=>UT
def Kn(r:Rp):Dl:=match r.pf with|tF (f,n,k)=>J0 f n k|none=>UT
def zB(w:tB)(v:tC)(r:Rp):Prop:=∃vv vp vr oe os ok ov ie is ik iv,v=sA #[tH tI r.sess,tH tI r.code,tH tI r.turn,tU r.found,vv,vp,vr,oe,os,ok,ov,ie,is,ik,iv]∧Qe w vv r.value∧Qq w vp r.pairs∧Qe w vr (vR r)∧Kl w (sA #[oe,os,ok,ov]) (Ko r)∧Kl w (sA #[ie,is,ik,iv]) (Kn r)
theorem zB.grown{w w':tB}{v:tC}{r:Rp}(h:zB w v r)(hg:tA w w' tG):zB w' v r:=by
 obtain⟨o,m,n,j,k,ok,l,f,is,g,i,rfl,a,b,c,d,e⟩:=h;exact⟨o,m,n,j,k,ok,l,f,is,g,i,rfl,a.grown hg,b.grown hg,c.grown hg,d.grown hg,e.grown hg⟩
def gX(w:tB)(cs:List tC)(r:Rp):Prop:=zB w (sA ⟨cs⟩) r
def iC(w:tB)(cs:List tC)(c:Xy):Prop:=∃vw,cs=[tH tI c.turn,vw]∧Xg 0 w vw c.writes
def iA(w:tB)(cs:List tC)(f:FL):Prop:=∃v,cs=[v]∧Zu 0 w v f
def gZ(_:tB)(cs:List tC)(n:Nat):Prop:=cs=[tH tI (n:Int)]
abbrev Ym:=Jp 54 15 gX
abbrev Kb:=Jp 134 2 iC
abbrev JH:=Jp 25 1 iA
abbrev UQ:=Jp 3 1 gZ
def Zl(v:Sv):List FL:=(List.range (v.commits.length+1)).map (QD v)
theorem UA(v:Sv):(Zl v).length=v.commits.length+1:=by
 simp[Zl]
theorem Bx(v:Sv){n:Nat}(h:n<=v.commits.length):(Zl v).getD n []=QD v n:=by
 simp[Zl,List.getD,List.getElem?_map,List.getElem?_range (show n<v.commits.length+1by omega)]
def Y9(v:Sv)(s:Nat):Int:=if v.waits s=tZ then 2 else if v.begun s=tZ then 1 else 0
def gQ(_B:Nat)(w:tB)(v:Sv)(s:Nat)(cs:Array tC):Prop:=∃t vr vw,cs[7+s*4]?=tF (tH tI (Y9 v s))∧cs[7+s*4+1]?=tF (tH tI t.start)∧cs[7+s*4+2]?=tF vr∧cs[7+s*4+3]?=tF vw∧Q9 0 w (fun w=>Gy w (sA #[tH tI t.start,vr,vw]) t)∧(v.begun s=tZ->t=v.txns s)
structure YL (R B : Nat) (w : tB) (v : Sv) (cs : Array tC) : Prop where
  size : cs.size = 40
  up : cs[0]? = tF (tU v.up)
  tape : ∃ vd, cs[1]? = tF vd ∧ Q9 0 w (fun w => Qe w vd v.tape.data)
  mark : cs[2]? = tF (tH tI v.tape.synced)
  commits : ∃ u, cs[3]? = tF u ∧ Kb B w u v.commits
  forests : ∃ u, cs[4]? = tF u ∧ JH B w u (Zl v)
  synced : cs[5]? = tF (tH tI (v.synced : Int))
  queue : ∃ u, cs[6]? = tF u ∧ UQ B w u v.queue
  sess : ∀ s, s < 8 -> gQ B w v s cs
  replies : ∃ u, cs[39]? = tF u ∧ Ym B w u v.out ∧ ∀ g, u.ownBlock = tF g -> g < R
def Yw(R B:Nat)(w:tB)(b:Nat)(v:Sv):Prop:=∃cs,B<=b∧w.heap[b]?=tF (tM cs 77 (0,0))∧YL R B w v cs
theorem Pe:vS 77:=.inl rfl
theorem kT:vS 54:=.inr (.inl rfl)
theorem fY:vS 134:=.inr (.inr (.inl rfl))
theorem gN:vS 25:=.inr (.inr (.inr (.inl rfl)))
theorem fX:vS 3:=.inr (.inr (.inr (.inr rfl)))
theorem gQ.later{B:Nat}{w w':tB}{v:Sv}{s:Nat}{cs:Array tC}(h:gQ B w v s cs)(k:Kp B w w'):gQ B w' v s cs:=by
 obtain⟨t,g,i,a,b,c,d,e,f⟩:=h;exact⟨t,g,i,a,b,c,d,e.later k,f⟩
theorem YL.grown{R B:Nat}{w w':tB}{v:Sv}{cs:Array tC}(h:YL R B w v cs)(hg:tA w w' tG):YL R B w' v cs:=by
 obtain⟨a,b,⟨t,c,m⟩,d,⟨u,e,n⟩,⟨x,f,o⟩,g,⟨y,i,p⟩,j,⟨z,k,q,r⟩⟩:=h;exact⟨a,b,⟨t,c,m.grown hg⟩,d,⟨u,e,n.grown hg⟩,⟨x,f,o.grown hg⟩,g,⟨y,i,p.grown hg⟩,fun s l=>(j s l).later (Kp.grown hg),⟨z,k,q.grown hg,r⟩⟩
theorem YL.turned{R B:Nat}{w w':tB}{v:Sv}{cs:Array tC}(h:YL R B w v cs){g:Nat}{ds:Array tC}{t:sH}{fz:Nat×Nat}(hk:Kp B w w')(hg:tA w w' (tF g))(hb:w.heap[g]?=tF (tM ds t fz))(h1':t≠54)(h2':t≠134)(h3':t≠25)(h4':t≠3):YL R B w' v cs:=by
 obtain⟨a,b,⟨x,c,n⟩,d,⟨y,e,o⟩,⟨z,f,p⟩,i,⟨A,j,q⟩,k,⟨C,l,r,u⟩⟩:=h;exact⟨a,b,⟨x,c,n.later hk⟩,d,⟨y,e,o.other (by decide) hk hg (.inr ⟨g,ds,t,fz,rfl,hb,h2'⟩)⟩,⟨z,f,p.other (by decide) hk hg (.inr ⟨g,ds,t,fz,rfl,hb,h3'⟩)⟩,i,⟨A,j,q.other (by decide) hk hg (.inr ⟨g,ds,t,fz,rfl,hb,h4'⟩)⟩,fun s m=>(k s m).later hk,⟨C,l,r.other (by decide) hk hg (.inr ⟨g,ds,t,fz,rfl,hb,h1'⟩),u⟩⟩
theorem YL.box{R B:Nat}{w w':tB}{v:Sv}{cs:Array tC}(h:YL R B w v cs){nb:Nat}{ds:Array tC}{fz:Nat×Nat}(hk:Kp B w w')(hg:tA w w' (tF nb))(hn:R<=nb)(hb:w.heap[nb]?=tF (tM ds 54 fz)):YL R B w' v cs:=by
 obtain⟨c,d,⟨y,f,r⟩,i,⟨z,j,t⟩,⟨A,k,u⟩,l,⟨C,m,x⟩,n,⟨D,o,a,b⟩⟩:=h;refine⟨c,d,⟨y,f,r.later hk⟩,i,⟨z,j,t.other (by decide) hk hg (.inr ⟨nb,ds,_,fz,rfl,hb,by decide⟩)⟩,⟨A,k,u.other (by decide) hk hg (.inr ⟨nb,ds,_,fz,rfl,hb,by decide⟩)⟩,l,⟨C,m,x.other (by decide) hk hg (.inr ⟨nb,ds,_,fz,rfl,hb,by decide⟩)⟩,fun s p=>(n s p).later hk,⟨D,o,a.kept hk (fun g e=>hg.block g (a.lt g e).2 (fun q=>?_)),b⟩⟩;have:=b g e;cases q;omega
theorem YL.more{R R' B:Nat}{w:tB}{v:Sv}{cs:Array tC}(h:YL R B w v cs)(hR:R<=R'):YL R' B w v cs:=by
 obtain⟨a,b,c,d,f,i,j,k,l,⟨p,m,n,o⟩⟩:=h;exact⟨a,b,c,d,f,i,j,k,l,⟨p,m,n,fun g e=>tR (o g e) hR⟩⟩
theorem Gz{R B:Nat}{w:tB}{v:Sv}{cs:Array tC}(h:YL R B w v cs):∀q,cs[0]?≠tF (tH .u8 q):=fun q e=>by
 rw[h.up]at e;cases e
theorem Yq{R B:Nat}{w w':tB}{v:Sv}{b:Nat}{cs:Array tC}(h:YL R B w v cs)(hB:B<=b)(hb:w.heap[b]?=tF (tM cs 77 (0,0)))(hg:tA w w' (tF b)):Kp B w w'∧YL R B w' v cs:=have k:=Kp.turn hg hB hb Pe (Gz h);⟨k,h.turned k hg hb (by
 decide) (by
 decide) (by
 decide) (by
 decide)⟩
theorem Qm{w:tB}{b i:Nat}{cs:Array tC}{t:sH}{u:tC}{fz:Nat×Nat}(hb:w.heap[b]?=tF (tM cs t fz))(h:cs[i]?=tF u):w.cell? ⟨b,i,tG⟩=tF u:=by
 simp[sD,hb,h]
theorem Qf{w:tB}{b:Nat}{cs:Array tC}{t:sH}(hb:w.heap[b]?=tF (tM cs t (0,0)))(i:Nat):w.frozen? ⟨b,i,tG⟩=tP:=by
 simp[World.frozen?,hb]
theorem Tl(w:tB)(v:tC)(l:List Rd)(p:Rd->Bool)(g:Nat)(lb:Array tC)(eg:∀args w,(callFunc g args).run tD w=.ok (.enter g args) w)(hv:ZY w v l)(hl:l.length<=140737488355328)(hp:∀W x r,tA w W tG->Yl W x r->tK tD g (#[x]++lb) W fun e w'=>e=tE (tU (p r))∧tA W w' tG):tK tD 109 #[v,.func (.func g) #[] lb] w fun e w'=>e=tE (tH tI (ZG p l))∧tA w w' tG:=by
 obtain⟨a,cap,rfl⟩:=hv.shape;have J:Hid (ZY w (tJ a l.length cap) l):=hv;have I:Hid (∀W x r,tA w W tG->Yl W x r->tK tD g (#[x]++lb) W fun e w'=>e=tE (tU (p r))∧tA W w' tG):=hp;obtain⟨Z,q⟩:∃Z,Z=ZG p l:=⟨_,rfl⟩;have y:Hid (∀m,m<l.length->(l.take m).any p=tP->p (l.getD m Zb)=tZ->Z=(m:Int)):=fun m K L M=>by rw[q];exact G9 p Zb l m K L M
 have z:Hid (l.any p=tP->Z=-1):=fun h=>by rw[q];exact KH p l h
 rw[<-q];clear hv hp q;go_enter Tryz.func109,Tryz.ntmps109;go_wp2_with fail;go_loopw[5,8](fun _ i wr=>∃m:Nat,m<=l.length∧i=tH tI (m:Int)∧(l.take m).any p=tP∧tA w wr tG)(fun _ i _=>l.length-(intOf i).toNat);case atStart=>exact⟨0,by omega,rfl,by simp,Qb _ _⟩
 case round=>obtain⟨m,V,rfl,c,f⟩:=hrel;by_cases n:m<l.length;(·(have N:(m:Int)<(l.length:Int):=by omega);obtain⟨b,o,rfl,O,P,Q,R,S,T,⟨C,D,E,F⟩,G⟩:=zG J.out m n;have X:=f.cell C (by simp);have Y:=f.cell D (by simp);have z3:=f.cell E (by simp);have z4:=f.cell F (by simp);have d:=I.out wr _ _ f (G.grown f);have s:Hid ((l.take (m+1)).any p=((l.take m).any p||p (l.getD m Zb))):=Pp Zb p l m n;have j:Hid (p (l.getD m Zb)=tZ->Z=(m:Int)):=fun h=>y.out m n c h;have t:Hid ((l.take m).any p=tP):=c;clear c G C D E F;have A:Hid (tK tD g (#[sA #[tJ O (l.getD m Zb).name.length P,tJ Q (l.getD m Zb).key.length R,tU (l.getD m Zb).wide,tJ S (l.getD m Zb).last.length T]]++lb) wr fun e w'=>e=tE (tU (p (l.getD m Zb)))∧tA wr w' tG):=d;clear d;generalize p (l.getD m Zb)=B at*;generalize(l.getD m Zb).name.length=n1 at*;generalize(l.getD m Zb).key.length=n2 at*;generalize(l.getD m Zb).last.length=n3 at*;generalize(l.getD m Zb).wide=g1 at*;cases B with|true=>have u:Hid (Z=(m:Int)):=j.out rfl;clear j s;go_wp2_with fail;refine A.out.mono ?_;rintro e U⟨rfl,k⟩;go_wp2;go_ret;exact⟨ZQ u.out,Qa f k⟩|false=>(have H:Hid ((l.take (m+1)).any p=tP):=by show _=_;rw[s.out,t.out];rfl);clear j s;go_wp2_with fail;refine A.out.mono ?_;rintro e U⟨rfl,k⟩;go_wp2_with fail;go_roundw;(case rel=>exact⟨m+1,by omega,by go_num,H.out,Qa f k⟩);case measure=>simp[intOf];omega);·(obtain rfl:m=l.length:=by omega);(have N:¬(l.length:Int)<(l.length:Int):=by omega);rw[sC]at c;have u:Hid (Z=-1):=z.out c;clear c;go_wp2;go_ret;exact⟨ZQ u.out,f⟩
theorem Tq(w:tB)(v:tC)(l:List Zc)(p:Zc->Bool)(g:Nat)(lb:Array tC)(eg:∀args w,(callFunc g args).run tD w=.ok (.enter g args) w)(hv:QN w v l)(hl:l.length<=140737488355328)(hp:∀W x r,tA w W tG->ZZ W x r->tK tD g (#[x]++lb) W fun e w'=>e=tE (tU (p r))∧tA W w' tG):tK tD 78 #[v,.func (.func g) #[] lb] w fun e w'=>e=tE (tH tI (ZG p l))∧tA w w' tG:=by
 obtain⟨a,cap,rfl⟩:=hv.shape;have J:Hid (QN w (tJ a l.length cap) l):=hv;have I:Hid (∀W x r,tA w W tG->ZZ W x r->tK tD g (#[x]++lb) W fun e w'=>e=tE (tU (p r))∧tA W w' tG):=hp;obtain⟨Z,q⟩:∃Z,Z=ZG p l:=⟨_,rfl⟩;have y:Hid (∀m,m<l.length->(l.take m).any p=tP->p (l.getD m Qo)=tZ->Z=(m:Int)):=fun m K L M=>by rw[q];exact G9 p Qo l m K L M
 have z:Hid (l.any p=tP->Z=-1):=fun h=>by rw[q];exact KH p l h
 rw[<-q];clear hv hp q;go_enter Tryz.func78,Tryz.ntmps78;go_wp2_with fail;go_loopw[5,8](fun _ i wr=>∃m:Nat,m<=l.length∧i=tH tI (m:Int)∧(l.take m).any p=tP∧tA w wr tG)(fun _ i _=>l.length-(intOf i).toNat);case atStart=>exact⟨0,by omega,rfl,by simp,Qb _ _⟩
 case round=>obtain⟨m,V,rfl,c,f⟩:=hrel;by_cases n:m<l.length;(·(have N:(m:Int)<(l.length:Int):=by omega);obtain⟨b,o,rfl,O,P,Q,R,S,T,⟨C,D,E,F⟩,G⟩:=X6 J.out m n;have X:=f.cell C (by simp);have Y:=f.cell D (by simp);have z3:=f.cell E (by simp);have z4:=f.cell F (by simp);have d:=I.out wr _ _ f (G.grown f);have s:Hid ((l.take (m+1)).any p=((l.take m).any p||p (l.getD m Qo))):=Pp Qo p l m n;have j:Hid (p (l.getD m Qo)=tZ->Z=(m:Int)):=fun h=>y.out m n c h;have t:Hid ((l.take m).any p=tP):=c;clear c G C D E F;have A:Hid (tK tD g (#[sA #[tJ O (l.getD m Qo).name.length P,tJ Q (l.getD m Qo).key.length R,tU (l.getD m Qo).gone,tJ S (l.getD m Qo).value.length T]]++lb) wr fun e w'=>e=tE (tU (p (l.getD m Qo)))∧tA wr w' tG):=d;clear d;generalize p (l.getD m Qo)=B at*;generalize(l.getD m Qo).name.length=n1 at*;generalize(l.getD m Qo).key.length=n2 at*;generalize(l.getD m Qo).value.length=n3 at*;generalize(l.getD m Qo).gone=g1 at*;cases B with|true=>have u:Hid (Z=(m:Int)):=j.out rfl;clear j s;go_wp2_with fail;refine A.out.mono ?_;rintro e U⟨rfl,k⟩;go_wp2;go_ret;exact⟨ZQ u.out,Qa f k⟩|false=>(have H:Hid ((l.take (m+1)).any p=tP):=by show _=_;rw[s.out,t.out];rfl);clear j s;go_wp2_with fail;refine A.out.mono ?_;rintro e U⟨rfl,k⟩;go_wp2_with fail;go_roundw;(case rel=>exact⟨m+1,by omega,by go_num,H.out,Qa f k⟩);case measure=>simp[intOf];omega);·(obtain rfl:m=l.length:=by omega);(have N:¬(l.length:Int)<(l.length:Int):=by omega);rw[sC]at c;have u:Hid (Z=-1):=z.out c;clear c;go_wp2;go_ret;exact⟨ZQ u.out,f⟩
def WO:Prop:=∀(w:tB)(v u:tC)(t:VQ)(c:Xy),KD w v t->JL w u c->xI t->ER c->X8 w->tK tD 68 #[v,u] w fun e w'=>∃x,e=tE (sB #[x,tH tI (Vg Qr t c)])∧Yo w' x (zA Qr t c)∧tA w w' tG
theorem UF(w:tB)(v:tC)(t:VQ)(hv:KD w v t):tK tD 40 #[v] w fun e w'=>e=tE (tH tI (if Gi t=tZ then 0 else 6))∧tA w w' tG:=by
 obtain⟨a,cap,rfl⟩:=hv.agg;have b:=Ki t;clear hv;by_cases c:(t.data.length:Int)>200000;·rw[if_neg (by rw[b];omega)];clear b;go_enter tV,tS;go_wp2;go_ret;exact⟨rfl,tL _ _ _⟩
 ·by_cases d:t.synced<0;(·rw[if_neg (by rw[b];omega)];clear b;go_enter tV,tS;go_wp2;go_ret;exact⟨rfl,tL _ _ _⟩);·by_cases f:t.synced>(t.data.length:Int);(·rw[if_neg (by rw[b];omega)];clear b;go_enter tV,tS;go_wp2;go_ret;exact⟨rfl,tL _ _ _⟩);·rw[if_pos (by rw[b];omega)];clear b;go_enter tV,tS;go_wp2;go_ret;exact⟨rfl,tL _ _ _⟩
def O6(w:tB)(b:Nat):Prop:=∃cur t fz,w.heap[b]?=tF (tM cur t fz)∧(t=5∨∃q,cur[0]?=tF (tH .u8 q))
def D5(w:tB)(b:Nat):Prop:=∃cur t fz,w.heap[b]?=tF (tM cur t fz)∧t≠5∧∀q,cur[0]?≠tF (tH .u8 q)
theorem O6.ne{w:tB}{a b:Nat}(h:O6 w a)(h':D5 w b):a≠b:=by
 rintro rfl;obtain⟨f,t,l,i,c⟩:=h;obtain⟨e,m,g,d,j,k⟩:=h';rw[i]at d;simp only[Option.some.injEq,Obj.cells.injEq]at d;obtain⟨rfl,rfl,_⟩:=d;rcases c with c|⟨q,c⟩;·exact j c
 ·exact k q c
theorem D5.grown{w w':tB}{b:Nat}(h:D5 w b)(hg:tA w w' tG):D5 w' b:=by
 obtain⟨a,t,d,c,e⟩:=h;exact⟨a,t,d,by rw[hg.block b (tN.1 c).1 (by simp)];exact c,e⟩
def Uj(w:tB)(v:tC)(bs:List UInt8):Prop:=Qe w v bs∧(bs=[]∨∃b,v.ownBlock=tF b∧b<w.heap.size∧O6 w b)
theorem Q6.partSR{base':Nat}{w:tB}{v:tC}{bs:List UInt8}(h:Q6 base' w v bs):Uj w v bs:=by
 refine⟨h.slice,?_⟩;rcases h.2with⟨rfl,c⟩|⟨g,cap,a,rfl,d,b,_⟩;·exact .inl (tX c)
 ·exact .inr ⟨g,rfl,(tN.1 b).1,a,_,_,b,.inl rfl⟩
theorem ZA.partSR{w:tB}{nb:Nat}{bs:List UInt8}(h:ZA w nb bs)(hl:bs.length=32):Uj w (tJ (tF ⟨nb,0,tG⟩) 32 32) bs:=by
 refine⟨h.slice32 hl,.inr ⟨nb,rfl,Vj (h.cell 0 (by omega)),?_⟩⟩;have b:=h.cell 0 (by omega);obtain⟨t,a⟩:=h;refine⟨_,t,_,a,.inr ⟨((bs.getD 0 0).toNat:Int),?_⟩⟩;·simpa[sD,a]using b
theorem Rh{w:tB}{v:tC}{bs:List UInt8}(h:Uj w v bs):v.oneCell'=tZ:=by
 obtain⟨⟨a,cap,rfl,_⟩,_⟩:=h;rfl
def D0(w:tB)(row:Option Nat):Prop:=row=tG∨∃g,row=tF g∧D5 w g
theorem Uj.kept{w w':tB}{v:tC}{bs:List UInt8}(h:Uj w v bs){row:Option Nat}(hg:tA w w' row)(hrow:D0 w row):Uj w' v bs:=by
 obtain⟨r,x⟩:=h;rcases x with rfl|⟨b,l,f,c⟩;·obtain⟨a,cap,rfl,c,h⟩:=r;refine⟨⟨a,cap,rfl,c,?_⟩,.inl rfl⟩;rcases h with h|⟨b,o,rfl,h⟩;(·exact .inl h);·exact .inr ⟨b,o,rfl,fun i q=>by simp at q⟩
 ·(have j:tF b≠row:=by intro e;rcases hrow with rfl|⟨g,rfl,p⟩;(·cases e);·cases e;exact c.ne p rfl);have d:=hg.block b f j;refine⟨?_,.inr ⟨b,l,tR f hg.size,?_⟩⟩;(·obtain⟨a,cap,rfl,n,h⟩:=r;refine⟨a,cap,rfl,n,?_⟩;rcases h with h|⟨s,o,rfl,h⟩;(·exact .inl h);·refine .inr ⟨s,o,rfl,fun i q=>?_⟩;simp[tY]at l;subst l;exact hg.cell (h i q) (by simpa using j));·obtain⟨k,t,u,c,m⟩:=c;exact⟨k,t,u,by rw[d];exact c,m⟩
theorem Uj.grown{w w':tB}{v:tC}{bs:List UInt8}(h:Uj w v bs)(hg:tA w w' tG):Uj w' v bs:=h.kept hg (.inl rfl)
theorem eZ:(50:Nat)≠5:=by
 decide
def U7(base:Nat)(w:tB)(v:tC)(l:PL):Prop:=∃vs:List (tC×tC),vs.length=l.length∧w.ownsRow base 50 2 v l.length (flat vs)∧D0 w v.ownBlock∧(∀k,v.ownBlock=tF k->∃cur fz,w.heap[k]?=tF (tM cur 50 fz))∧∀i,i<l.length->Qh base w (vs.getD i (tQ,tQ)).1 (l.getD i ([],[])).1∧Uj w (vs.getD i (tQ,tQ)).2 (l.getD i ([],[])).2
theorem Hp(base:Nat)(w:tB):U7 base w (tJ tG 0 0) []:=⟨[],rfl,World.ownsRow_nil _ _ _ _,.inl rfl,fun k hk=>by
 simp[tY]at hk,fun i hi=>by
 simp at hi⟩
theorem U7.lt{base:Nat}{w:tB}{v:tC}{l:PL}(h:U7 base w v l):∀k,v.ownBlock=tF k->base<=k∧k<w.heap.size:=by
 obtain⟨a,_,h,_⟩:=h;exact World.ownsRow.lt h
theorem U7.shape{base:Nat}{w:tB}{v:tC}{l:PL}(h:U7 base w v l):∃a cap,v=tJ a l.length cap:=by
 obtain⟨d,_,h,_⟩:=h;rcases h.2with⟨rfl,c⟩|⟨g,cap,b,rfl,_⟩;·exact⟨tG,0,by rw[c]⟩
 ·exact⟨_,cap,rfl⟩
theorem D0.grownN{w w':tB}{r:Option Nat}(h:D0 w r)(hg:tA w w' tG):D0 w' r:=by
 rcases h with h|⟨g,h,a⟩;·exact .inl h
 ·exact .inr ⟨g,h,a.grown hg⟩
theorem U7.grownNone{base:Nat}{w w':tB}{v:tC}{l:PL}(h:U7 base w v l)(hg:tA w w' tG):U7 base w' v l:=by
 obtain⟨o,f,g,j,m,b⟩:=h;refine⟨o,f,World.ownsRow.kept g hg ?_,j.grownN hg,fun k n=>?_,fun i d=>⟨(b i d).1.kept hg (.inl rfl),(b i d).2.grown hg⟩⟩;·cases hv:v.ownBlock with|none=>exact .inl rfl|some k=>exact .inr (by simp)
 ·obtain⟨a,e,c⟩:=m k n;exact⟨a,e,by rw[hg.block k (tN.1 c).1 (by simp)];exact c⟩
theorem U7.list{base:Nat}{w:tB}{v:tC}{l:PL}(h:U7 base w v l):Qq w v l:=by
 obtain⟨b,p,f,_,_,c⟩:=h;have a:=f;rcases f.2with⟨rfl,k⟩|⟨g,cap,j,rfl,n,o,m,q,r,s⟩;·have:l=[]:=tX k;subst this;exact Yd w
 ·refine⟨_,cap,rfl,m,.inr ⟨g,0,rfl,fun i e=>?_⟩⟩;have d:=zZ b i (by omega);refine⟨(b.getD i (tQ,tQ)).1,(b.getD i (tQ,tQ)).2,?_,?_,(c i e).1.1,(c i e).2.1⟩;(·have:=Gk.cells a _ _ d.1;rw[sF];exact this);·have:=Gk.cells a _ _ d.2;rw[sF];exact this
theorem M2{base:Nat}{w W w1:tB}{v:tC}{l:PL}(h:tA w W tG)(ho:U7 base W v l)(hb:w.heap.size<=base)(hg:tA W w1 v.ownBlock):tA w w1 tG:=⟨hg.os.trans h.os,hg.tape.trans h.tape,hg.output.trans h.output,Nat.le_trans h.size hg.size,fun i a b=>(hg.block i (tR a h.size) (fun e=>by
 have:=(ho.lt i e.symm).1;omega)).trans (h.block i a b)⟩
theorem j8{w:tB}{ops:Array Oper}{rest:List Oper}{o:Oper}{a:Act}{Q:Exit->Act->tB->Prop}(hgd:o.guard=tG)(s x:Operand)(ho:o.op=.call {callee:=.builtin .append,args:=#[s,x],argTypes:=#[47,47]})(base:Nat)(v:tC)(l:PL)(hs:a.eval s=v)(hown:U7 base w v l)(vk vv:tC)(p:Pr)(hk:Qh base w vk p.1)(hv:Uj w vv p.2)(nb:Nat)(hb:w.heap[nb]?=tF (tM #[vk,vv] 50))(hx:a.eval x=tJ (tF ⟨nb,0,tG⟩) 1 1)(hl:(l.length+1)*48<=140737488355328)(hbase:base<=w.heap.size)(h:∀v' w',U7 base w' v' (l++[p])->tA w w' v.ownBlock->wpList tD ops Q rest (a.put o.dst v') w'):wpList tD ops Q (o::rest) a w:=by
 obtain⟨X,F,J,L,M⟩:=info_parts DI;obtain⟨r,A,R,n,I,P⟩:=hown;have f:v.ownBlock=tG∨∃g b C,v.ownBlock=tF g∧base<=g∧w.heap[g]?=tF (tM b 50 C):=by cases hv':v.ownBlock with|none=>exact .inl rfl|some k=>obtain⟨b,C,D⟩:=I k hv';exact .inr ⟨k,b,C,rfl,(World.ownsRow.lt R k hv').1,D⟩
 refine wpList_plain hgd fun K U=>?_;refine wp_append_lies w s x 47 ho base 50 X (sA #[tJ tG 0 0,tJ tG 0 0]) 2 48 Tryz.underlying47 F J L M rfl (by decide) v l.length (flat r) hs R ⟨nb,0,tG⟩ 1 1 (flat [(vk,vv)]) hx rfl (World.news_of_block (cs:=#[vk,vv]) hb) ?_ (by omega) (by unfold maxLen;omega) hl hbase _ rfl ?_;·intro u S;simp only[flat,List.flatMap_cons,List.flatMap_nil,List.append_nil,List.mem_cons,List.not_mem_nil,or_false]at S;rcases S with rfl|rfl;(·exact Zz hk);·exact Rh hv
 ·intro g cap w' O t _ _;(have c:∀i,i<(l++[p]).length->Qh base w' ((r++[(vk,vv)]).getD i (tQ,tQ)).1 ((l++[p]).getD i ([],[])).1∧Uj w' ((r++[(vk,vv)]).getD i (tQ,tQ)).2 ((l++[p]).getD i ([],[])).2:=by intro i F;rw[Y6,Y6,A];by_cases d:i<l.length;(·rw[if_pos d,if_pos d];exact⟨(P i d).1.kept t f,(P i d).2.kept t n⟩);·rw[if_neg d,if_neg d];(obtain rfl:i=l.length:=by simp at F;omega);rw[Nat.sub_self];exact⟨hk.kept t f,hv.kept t n⟩);(have y:∃b,w'.heap[g]?=tF (tM b 50 (0,0))∧b.toList.take ((l.length+1)*2)=flat r++flat [(vk,vv)]:=by rcases O.2with⟨e,_⟩|⟨g',N,b,e,_,E,_,_,_,W⟩;(·cases e);·simp only[Value.slice.injEq,Option.some.injEq,Addr.mk.injEq]at e;obtain⟨⟨rfl,_⟩,_,_⟩:=e;exact⟨b,E,W⟩);obtain⟨b,m,H⟩:=y;(have j:∀q,b[0]?≠tF (tH .u8 q):=by intro q V;have B:=(zZ (r++[(vk,vv)]) 0 (by simp)).1;rw[JE,<-H,List.getElem?_take,if_pos (by omega)]at B;have G:=(c 0 (by simp)).1;obtain⟨Y,Z,T⟩:=G.1.shape;rw[T]at B;(have:b.toList[0]?=b[0]?:=by simp);rw[Nat.zero_mul,this,V]at B;cases B);refine U _ _ (h _ w' ⟨r++[(vk,vv)],by simp[A],?_,.inr ⟨g,rfl,b,_,_,m,eZ,j⟩,fun k z=>?_,c⟩ t);(·rw[JE,List.length_append];exact O);·simp[tY]at z;subst z;exact⟨b,_,m⟩
def Ou:Prop:=∀(w:tB)(v u:tC)(l:PL)(k:List UInt8),Qq w v l->Qe w u k->kM l->X8 w->tK tD 74 #[v,u] w fun e w'=>∃x,e=tE (sB #[x,tH tI (Z4 l k)])∧Zs w.heap.size w' x (xQ l k)∧tA w w' tG
def Ww:Prop:=∀(w:tB)(v r u:tC)(l:FL)(n k:List UInt8),ZI w v l->Qe w r n->Qe w u k->V2 l->n.length<=140737488355328->k.length<=140737488355328->X8 w->tK tD 53 #[v,r,u] w fun e w'=>∃x y,e=tE (sB #[x,y,tH tI (JR l n k)])∧Zs 0 w' x (JX l n k)∧Zs 0 w' y (J0 l n k)∧tA w w' tG
def Iu:Prop:=∀(w:tB)(v:tC)(l:FL),ZI w v l->V2 l->X8 w->tK tD 52 #[v] w fun e w'=>∃x,e=tE (sB #[x,tH tI (QZ l)])∧XQ w' x (GY l)∧tA w w' tG
theorem Ht:Og:=by
 intro w n t b c d e;by_cases f:t>=0;·by_cases g:t<=n;(·(have i:tI.wrap (n-t)=n-t:=by rw[sI];omega);by_cases h:n-t<6;(·(have a:JI n t=tZ:=by rw[JI,decide_eq_true_iff];omega);rw[a];go_enter tW,tT;go_wp2;go_ret;exact⟨rfl,Qb _ _⟩);·(have a:JI n t=tP:=by rw[JI,decide_eq_false_iff_not];omega);rw[a];go_enter tW,tT;go_wp2;go_ret;exact⟨rfl,Qb _ _⟩);·(have a:JI n t=tP:=by rw[JI,decide_eq_false_iff_not];omega);rw[a];go_enter tW,tT;go_wp2;go_ret;exact⟨rfl,Qb _ _⟩
 ·(have a:JI n t=tP:=by rw[JI,decide_eq_false_iff_not];omega);rw[a];go_enter tW,tT;go_wp2;go_ret;exact⟨rfl,Qb _ _⟩
def OZ:Prop:=∀(w:tB)(v:tC)(t:VQ),KD w v t->xI t->X8 w->tK tD 43 #[v] w fun e w'=>∃vs x,e=tE (sB #[vs,x,tH tI (RI t)])∧YU w.heap.size w' vs (xR Qr t)∧Yo w' x (zK Qr t)∧tA w w' tG
theorem Co{x:Int}{k:Nat}(h:x=(k:Int)):tE (tH tI x)=tE (tH tI (k:Int)):=by
 rw[h]
theorem Lj(n:Int)(many:Nat)(w:tB)(hn0:-9223372036854775808<=n)(hn1:n<=9223372036854775807)(h0:0<many)(h1:many<=2000000):tK tD 20 #[tH tI n,tH tI (many:Int)] w fun e w'=>e=tE (tH tI (YQ n many:Int))∧w'=w:=by
 by_cases c:n<0;·go_enter sG,sE;go_wp2;go_ret;(have e:-(n+1).tmod many=(-(n+1))%many:=by rw[<-Int.neg_tmod,Int.tmod_eq_emod_of_nonneg (by omega)]);have a:=Int.emod_nonneg (-(n+1)) (show(many:Int)≠0 by omega);have b:=Int.emod_lt_of_pos (-(n+1)) (show(0:Int)<many by omega);exact⟨Co (by rw[e,YQ,if_pos c];omega),rfl⟩
 ·go_enter sG,sE;go_wp2;go_ret;have a:=Int.emod_nonneg n (show(many:Int)≠0 by omega);have b:=Int.emod_lt_of_pos n (show(0:Int)<many by omega);exact⟨Co (by rw[YQ,if_neg (by omega)];omega),rfl⟩
theorem JD(n:Int)(many:Nat)(w:tB)(hn0:-9223372036854775808<=n)(hn1:n<=9223372036854775807)(h0:0<many)(h1:many<=2000000):tK tD 11 #[tH tI n,tH tI (many:Int)] w fun e w'=>e=tE (tH tI (YQ n many:Int))∧w'=w:=by
 have a:Hid (tK tD 20 #[tH tI n,tH tI (many:Int)] w fun e w'=>e=tE (tH tI (YQ n many:Int))∧w'=w):=Lj n many w hn0 hn1 h0 h1;go_enter Tryz.func11,Tryz.ntmps11;go_wp2_with(go_at_call 20;refine a.out.mono ?_;rintro e b⟨rfl,rfl⟩);go_ret;exact⟨rfl,rfl⟩
end Go.Proofs.YtpdbpagohccbpaaGreatDoor
