/-
  canopytop.TopBad returns true at every argument and leaves its arguments as they were: the tied card. Conditions: those of the card alone (the listed variables start as the program's text lays them).
  Texts of this proof, joined, with few blanks: BadF, LTpBad, TopBad.
-/
import Derived.Test.YtflkfielgfkchaaGreatDoorQ52
import Derived.Test.YtflkfielgfkchaaGreatDoorQ50
import Derived.Test.YtflkfielgfkchaaGreatDoorQ10
set_option maxRecDepth 100000
set_option maxHeartbeats 8000000
open Bool renaming false->J,true->r
open Go renaming Calls->Y,Value->tD,TypeId->tK
open Go.Ending renaming returned->X
open Go.IntKind renaming i64->N,wrap_i64->tM
open Go.OpenSpec renaming ofChange->V,preRow_of_cond->tL
open Go.Proofs.Tryz renaming prog->G,f9->T,underlying25->n,func9->o,checked->z,underlying22->tC,underlying3->tG,params9->tJ
open Go.RowKit renaming Hid->Q
open Go.Value renaming slice->I,int->P,cells->tA,bool->tI
open Go.World renaming grownBy->M,grownBy_alloc->g,holding->y
open List renaming mem_cons->i,length_take->tE,nil_append->tH
open Option renaming none->K,some->tB
namespace Go.Proofs.YtflkfielgfkchaaGreatDoor
open Go.RowKit
section
variable{D:List UInt8->List UInt8}
def acBytes(s:Nat)(d:List UInt8):Ac:=⟨1,(s:Int),0,d⟩
theorem acBytes_ok{s:Nat}(hs:s<=7){d:List UInt8}(hd:d.length<=4000):Xn (acBytes s d):=⟨⟨(by
 decide:(1:Int)<=1),(by
 decide:(1:Int)<=4)⟩,fun _=>⟨(by
 show(0:Int)<=(s:Int);omega),(by
 show(s:Int)<=7;omega)⟩,fun h=>absurd h (by
 decide:¬((1:Int)=3)),hd,fun h=>absurd rfl h,fun _=>rfl,fun h=>absurd rfl h⟩
theorem bad_run{S:List Ac}(s:Nat){d:List UInt8}(hd:QJ d≠0){A B:Oc}(hA:A=K2 (Z7 D S))(hB:B=K2 (Z7 D (S++[acBytes s d]))):B.turn=A.turn∧B.pending=A.pending∧B.forest=A.forest∧B.replies=A.replies++[Ga s (if A.up=J then 13 else QJ d)]:=by
 have e:Z7 D (S++[acBytes s d])=ZN (Z7 D S) (Ga s (if(Z7 D S).up=J then 13 else QJ d)):=by rw[Pm];exact mM _ _ hd
 rw[hA,hB,e];exact⟨rfl,rfl,rfl,rfl⟩
end
theorem topBad_walk(w:World)(hP:UD w)(hT:Yz w)(v u:tD)(l:List Gr)(data:List UInt8)(who:Int)(hk0:-9223372036854775808<=who)(hk1:who<=9223372036854775807)(hv:JV w v l)(hf:Fy l)(hu:Qe w u data)(hdl:data.length<=140737488355328):Y G 9 #[v,u,P N who] w fun e w'=>e=X (tI r)∧M w w' K:=by
 obtain⟨la,lc,rfl⟩:=hv.shape;obtain⟨ua,uc,rfl⟩:=hu.shape;have SC:Q (Y G 12 #[I la l.length lc,P N 40] w fun e w'=>∃x,e=X x∧Vu w.heap.size w' x (XP l 40)∧M w w' K):=Nd w _ l 40 hv hf hP (by decide);obtain⟨S,hS⟩:∃S,S=XP l 40:=⟨_,rfl⟩;have hok:∀a∈S,Xn a:=by rw[hS];exact Rl l 40
 have hlen:S.length<=40:=by rw[hS];exact Rt l 40
 rw[<-hS]at SC;obtain⟨c,hc⟩:∃c,c=min data.length 60:=⟨_,rfl⟩;have hcl:c<=data.length:=by omega
 obtain⟨d,hd⟩:∃d,d=data.take c:=⟨_,rfl⟩;have hdc:d.length=c:=by rw[hd,tE];omega
 obtain⟨k,hk⟩:∃k,k=YY who 8:=⟨_,rfl⟩;have hk8:k<8:=by rw[hk];exact Vh who (by decide)
 have PK:Q (∀w',Y G 18 #[P N who,P N 8] w' fun e w''=>e=X (P N (k:Int))∧w''=w'):=fun w'=>by rw[hk];exact Jv who 8 w' hk0 hk1 (by decide) (by decide)
 obtain⟨OA,hOA⟩:∃O,O=K2 (Z7 Qn S):=⟨_,rfl⟩;obtain⟨L,hL⟩:∃L,L=S++[acBytes k d]:=⟨_,rfl⟩;obtain⟨OB,hOB⟩:∃O,O=K2 (Z7 Qn L):=⟨_,rfl⟩;have HL:Q (S++[acBytes k d]=L):=hL.symm;have BR:Q (QJ d≠0->OB.turn=OA.turn∧OB.pending=OA.pending∧OB.forest=OA.forest∧OB.replies=OA.replies++[Ga k (if OA.up=J then 13 else QJ d)]):=fun h=>by rw[hL]at hOB;exact bad_run k h hOA hOB
 have RA:Q (∀w' v,M w w' K->XH w' v S->Y G 14 #[v] w' (Ee w' OA)):=fun w' v h hv=>Lm w' v S OA hOA hv hok (by omega) (hP.grown h) (hT.grownNone h);have RB:Q (∀w' v,M w w' K->XH w' v L->Y G 14 #[v] w' (Ee w' OB)):=fun w' v h hv=>Lm w' v L OB hOB hv (fun a ha=>by rw[hL]at ha;rcases List.mem_append.1 ha with h|h;(·exact hok a h);·simp only[i,List.not_mem_nil,or_false]at h;subst h;exact acBytes_ok (by omega) (by omega)) (by rw[hL];simp;omega) (hP.grown h) (hT.grownNone h);have DE:Q (∀w' v,M w w' K->Qe w' v d->Y G 13 #[v] w' fun e w''=>∃x,e=X (.tuple #[x,P N (QJ d)])∧XI w'' x (Qu d)∧M w' w'' K):=fun w' v h hv=>Kf w' v d (hP.grown h) hv (by omega);have HFT:Q (UG OA.forest):=by rw[hOA];exact(qT _ _ VQ).fits
 have HRL:Q (OA.replies.length<=1000):=by have h:=OD Qn S;rw[hOA];show(Z7 Qn S).out.length<=1000;omega
 obtain⟨a1,c1,r1,r2⟩:=xA ua uc data c hcl hu.cap.1;have HU:Q (∀w',M w w' K->Qe w' (I a1 c c1) d):=fun w' h=>by rw[hd];exact r2 w' (hu.grown h)
 have hmin:min (data.length:Int) 60=(c:Int):=by omega
 obtain⟨E,hE⟩:∃E,E=QJ d:=⟨_,rfl⟩;obtain⟨R,hR⟩:∃R,R=Qu d:=⟨_,rfl⟩;rw[<-hE]at BR DE;rw[<-hR]at DE;have HDC:Q (d.length=c):=hdc;have hc60:c<=60:=by omega
 clear hv hf hP hT hok hS hk hOA hOB hL hd r2 hE hR hu hc hdc;go_enter o,Tryz.ntmps9;go_upto_region 2with(go_at_call 12;refine SC.out.mono ?_;rintro e w1⟨x1,rfl,hx1,hg1⟩;obtain⟨sa,sc,rfl⟩:=hx1.shape);have RA1:Q (Y G 14 #[I sa S.length sc] w1 (Ee w1 OA)):=RA.out w1 _ hg1 hx1.list;clear RA SC;go_upto_region 3with(go_at_call 14;refine RA1.out.mono ?_;rintro e w2⟨fa,fc,ra,rc,rfl,hx2,hg2⟩);obtain⟨W3,AB,HW3,HAB,hg3,HB3⟩:=RZ w2 OA fa fc ra rc;rw[<-HW3.out,<-HAB.out];have HN3:Q (Vu w.heap.size W3 (I sa S.length sc) S):=hx1.grown (Qa hg2 hg3);have HG3:Q (M w W3 K):=Qa hg1 (Qa hg2 hg3);have HXA:Q (Y6 W3 (fun w=>jG w (.agg #[tI OA.up,P N OA.turn,P N OA.pending,I fa OA.forest.length fc,I ra OA.replies.length rc]) OA)):=hx2.grown hg3;have hs3:=HG3.out.size;have HU3:Q (Qe W3 (I a1 c c1) d):=HU.out W3 HG3.out;clear RA1 hx1 hg1 hx2 hg2 hg3 HW3 HAB HU;go_upto_region 4with(at_builtin;refine QL rfl _ _ rfl W3.heap.size (I K 0 0) [] rfl (QT _ _) a1 c c1 d rfl HU3.out (by simp;omega) (Nat.le_refl _) ?_;intro v4 w4 ho4 hg4);rw[tH]at ho4;obtain⟨da,dc,rfl⟩:=ho4.shape;have hg4':M W3 w4 K:=hg4;have DE4:Q (Y G 13 #[I da d.length dc] w4 fun e w''=>∃x,e=X (.tuple #[x,P N E])∧XI w'' x R∧M w4 w'' K):=DE.out w4 _ (Qa HG3.out hg4') (Q9.part (base:=0) ho4).1;have HD4:Q (Qi 0 w4 (I da d.length dc) d):=ho4.part;clear DE HU3 ho4 hg4 r1 hmin;go_upto_region 5with(go_at_call 13;refine DE4.out.mono ?_;rintro e w5⟨x5,rfl,hq5,hg5⟩;obtain⟨n1,n2,k1,k2,l1,l2,v1,v2,rfl⟩:=hq5.agg);obtain⟨W6,HW6,hg6,B6⟩:=Qg w5 (.cells #[P N R.kind,I n1 R.name.length n2,I k1 R.key.length k2,I l1 R.last.length l2,I v1 R.value.length v2] 29);rw[<-HW6.out];have hg36:=Qa hg4' (Qa hg5 hg6);have HN6:Q (Vu w.heap.size W6 (I sa S.length sc) S):=HN3.out.grown hg36;have HG6:Q (M w W6 K):=Qa HG3.out hg36;have HX6:Q (Y6 W6 (fun w=>jG w (.agg #[tI OA.up,P N OA.turn,P N OA.pending,I fa OA.forest.length fc,I ra OA.replies.length rc]) OA)):=HXA.out.grown hg36;have HA6:Q (_):=Qc hg36 HB3.out;have HD6:Q (Qi 0 W6 (I da d.length dc) d):=HD4.out.keptT (Qa hg5 hg6) (.inl rfl);have hs6:=HG6.out.size;clear DE4 HD4 hg4' hg5 hg6 hg36 HW6 B6 HN3 HG3 HXA HB3 hq5 hs3;obtain⟨b6,hb6⟩:∃b,b=w5.heap.size:=⟨_,rfl⟩;rw[<-hb6];clear hb6;by_cases hE:E=0;·have j1:(E==0)=r:=beq_iff_eq.2 hE;clear hE;go_wp2_with fail;go_ret;exact⟨rfl,HG6.out⟩
 ·have j1:(E==0)=J:=beq_eq_false_iff_ne.2 hE;obtain⟨t1,t2,t3,t4⟩:=BR.out hE;have HBR:Q (OB.turn=OA.turn∧OB.pending=OA.pending∧OB.forest=OA.forest∧OB.replies.length=OA.replies.length+1∧(OB.replies.getD OA.replies.length iX).code=(if OA.up=J then 13 else E)):=⟨t1,t2,t3,by rw[t4];simp,by rw[t4];simp[Ga]⟩;clear t1 t2 t3 t4 hE BR;go_upto_region 8with(first|(at_builtin;refine YZ rfl _ _ rfl W6.heap.size (I K 0 0) [] rfl (T6 _ _) w.heap.size (I sa S.length sc) S rfl HN6.out.1 (by simp;omega) (Nat.le_refl _) ?_;intro v7 w7 ha7;rw[tH]at ha7;obtain⟨pa,pc,rfl⟩:=ha7.own.shape;(have HN7:Q (Vu W6.heap.size w7 (I pa S.length pc) S):=ha7.own);(have hg7:M W6 w7 K:=ha7.grown);(have hs7:=hg7.size);(have HD7:Q (Qi 0 w7 (I da d.length dc) d):=HD6.out.keptT hg7 (.inl rfl));clear ha7)|(go_at_call 18;refine(PK.out _).mono ?_;rintro e w0⟨rfl,h0⟩;rw[h0];clear h0)|(at_builtin;refine YZ rfl _ _ rfl W6.heap.size (I pa S.length pc) S rfl (HN7.out.grown (g _ _ K)) 0 (I (tB ⟨w7.heap.size,0,K⟩) 1 1) [acBytes k d] rfl (Rb w7 (acBytes k d) _ HD7.out) (by simp;omega) (by simp;omega) ?_;intro v8 w8 ha8;rw[HL.out]at ha8;obtain⟨xa,xc,rfl⟩:=ha8.own.shape;(have hg8:M W6 w8 K:=kA (Qa hg7 (g _ _ K)) (HN7.out.grown (g _ _ K)) (Nat.le_refl _) ha8.grown);(have RB8:Q (Y G 14 #[I xa L.length xc] w8 (Ee w8 OB)):=RB.out w8 _ (Qa HG6.out hg8) ha8.own.list);clear ha8 HN7 hg7 hs7 HD7)|(go_at_call 14;refine RB8.out.mono ?_;rintro e w9⟨ga,gc,qa,qc,rfl,hx9,hg9⟩));obtain⟨W10,BB,HW10,HBB,hg10,HB10⟩:=RZ w9 OB ga gc qa qc;rw[<-HW10.out,<-HBB.out];have hg610:=Qa hg8 (Qa hg9 hg10);have HG10:Q (M w W10 K):=Qa HG6.out hg610;have HA10:Q (_):=Qc hg610 HA6.out;have HXB:Q (Y6 W10 (fun w=>jG w (.agg #[tI OB.up,P N OB.turn,P N OB.pending,I ga OB.forest.length gc,I qa OB.replies.length qc]) OB)):=hx9.grown hg10;(have SF:Q (Y G 19 #[I fa OA.forest.length fc,I ga OB.forest.length gc] W10 fun e w''=>e=X (tI r)∧M W10 w'' K):=by obtain⟨vf,vr,e,hA,_⟩:=(HX6.out.grown hg610).now;obtain⟨vf',vr',e',hB,_⟩:=HXB.out.now;simp only[Value.agg.injEq,Array.mk.injEq,List.cons.injEq,and_true,true_and]at e e';obtain⟨rfl,rfl⟩:=e;obtain⟨rfl,rfl⟩:=e';show Y _ _ _ _ _;rw[HBR.out.2.2.1]at hB⊢;exact Ad W10 _ _ OA.forest hA hB HFT.out);obtain⟨⟨y0,y1,y2,y3,y4⟩,_⟩:=Qp (Qb W10 K) HA10.out;obtain⟨⟨z0,z1,z2,z3,z4⟩,_⟩:=Qp (Qb W10 K) HB10.out;obtain⟨t1,t2,t3,t4,t5⟩:=HBR.out;have hrl:=HRL.out;(have e1:N.wrap ((OA.replies.length:Int)+1)=(OA.replies.length:Int)+1:=by rw[tM];omega);(have e2:((OB.replies.length:Int)!=(OA.replies.length:Int)+1)=J:=by simp[t4]);(have e3:(OA.turn !=OB.turn)=J:=by simp[t1]);(have e4:(OA.pending !=OB.pending)=J:=by simp[t2]);(have i1:(OA.replies.length:Int)<(OB.replies.length:Int):=by omega);(have hlt:OA.replies.length<OB.replies.length:=by omega);clear t1 t2 t3 t4 hg8 hg9 hg10 hg610 hx9 HW10 HBB RB8 RB PK;go_upto_region 10with(go_at_call 19;refine SF.out.mono ?_;rintro e w11⟨rfl,hg11⟩;obtain⟨⟨q0,q1,q2,q3,q4⟩,_⟩:=Qp hg11 HA10.out;obtain⟨⟨r0,r1,r2,r3,r4⟩,_⟩:=Qp hg11 HB10.out);obtain⟨vf,vr,e,_,hrs⟩:=(HXB.out.grown hg11).now;simp only[Value.agg.injEq,Array.mk.injEq,List.cons.injEq,and_true,true_and]at e;obtain⟨rfl,rfl⟩:=e;obtain⟨rb,ro,rfl,_,cc,_,_⟩:=hrs.at OA.replies.length hlt;rw[t5]at cc;clear t5 hrs y0 y1 y2 y3 y4 z0 z1 z2 z3 z4 SF;cases hup:OA.up with|false=>rw[hup]at q0;rw[if_pos hup]at cc;have m1:((13:Int)==13)=r:=rfl;by_cases h13:E=13;(·have j2:((13:Int)==E)=r:=beq_iff_eq.2 h13.symm;clear hup h13;go_wp2_with fail;go_ret;exact⟨rfl,Qa HG10.out hg11⟩);·have j2:((13:Int)==E)=J:=beq_eq_false_iff_ne.2 fun h=>h13 h.symm;clear hup h13;go_wp2_with fail;go_ret;exact⟨rfl,Qa HG10.out hg11⟩|true=>rw[if_neg (by rw[hup];decide)]at cc;have j2:(E==E)=r:=beq_iff_eq.2 rfl;clear hup;go_wp2_with fail;go_ret;exact⟨rfl,Qa HG10.out hg11⟩
section
open Go.ChangeShapes Go.WideShapes Go.ChangeAt Go.RowKit
namespace topBad
theorem contract(H:Type)(enc:tK×tD->H)(W:World)(base:Nat)(args:Array tD)(ds gs:List (DataW H))(before:List MemPlace)(hval:∀(j:Nat)t v,T.params[j]?=tB t->args[j]?=tB v->Value.okWide G W .any base t v)(hW:DataW.Whole enc G T.params.toList Rows.topBadSpec.vars J W args.toList ds gs before)(_hL:laidMetH G Rows.topBadRow.laid W)(hsz0:(DataW.weightsEach G (T.params.toList++(V Rows.topBadSpec).bare.plain.varTypes G) (ds++gs)).all (·<=reachBytes)=r):Y G 9 args W fun e W'=>∃v,e=X v∧Rows.topBadSpec.post enc G T J r J J W args v W':=by
 have hW':=hW;obtain⟨p,q,hA0,hV,rfl,hfz,hnd⟩:=hW;have hA:DataW.TrodAll enc G W 0 (fun _=>r) r T.params.toList args.toList ds p:=hA0;have hsz:=hsz0;rw[tJ]at hA hval hsz;obtain⟨v0,vs0,d0,ds0,p0,q0,hargs,rfl,rfl,h0,r0⟩:=trodAll_cons hA;obtain⟨v1,vs1,d1,ds1,p1,q1,rfl,rfl,rfl,h1,r1⟩:=trodAll_cons r0;obtain⟨v2,vs2,d2,ds2,p2,q2,rfl,rfl,rfl,h2,r2⟩:=trodAll_cons r1;obtain⟨rfl,rfl,rfl⟩:=trodAll_nil r2;obtain rfl:args=#[v0,v1,v2]:=by cases args;simp_all
 obtain⟨rfl,rfl⟩:=trodVars_none hV;obtain⟨a0,CX,cap0,rfl⟩:=okWide_slice tC (hval 0 22 v0 rfl rfl);have k0:=h0;have lt0:∀x∈p0,x.block<W.heap.size:=by obtain⟨m,hm⟩:=k0;exact DataW.trod_lt m _ _ _ hm
 obtain⟨l0,hsl0,hfit0⟩:∃l,JV W (I a0 CX cap0) l∧Fy l:=by obtain⟨fuel,hf⟩:=h0;exact Ef tC Tryz.underlying61 (by kernel_rfl) rfl rfl rfl rfl rfl rfl rfl rfl rfl rfl (x:=(d0,p0)) (by simpa[tA]using hf)
 obtain⟨a1,len1,cap1,rfl⟩:=okWide_slice n (hval 1 25 v1 rfl rfl);have k1:=h1;have lt1:∀x∈p1,x.block<W.heap.size:=by obtain⟨m,hm⟩:=k1;exact DataW.trod_lt m _ _ _ hm
 obtain⟨z1,w1,hr1⟩:∃zs,IsRow .u8 W a1 len1 cap1 zs∧len1<=140737488351232:=by obtain⟨fuel,hf⟩:=h1;rcases open_ints n Tryz.underlying5 (by kernel_rfl) hf with⟨hcs,_⟩|⟨x,l,c,zs,hcs,_,hl,hm,hz,hx,hcell,hwz⟩;(·simp[tA]at hcs;obtain⟨rfl,rfl,rfl⟩:=hcs;exact⟨[],.inl ⟨rfl,rfl,rfl,rfl⟩,by omega⟩);·simp[tA]at hcs;obtain⟨rfl,rfl,rfl⟩:=hcs;obtain⟨hd,_⟩:=Prod.mk.inj hx;subst hd;(have hz':zs.length=cap1:=by simpa using hz);have hs:=sized_slice hsz (j:=1) (t:=25) (e:=5) rfl rfl n;rw[bytes5]at hs;simp only[lits,List.length_map,tE,List.length_drop,reachBytes]at hs;exact⟨zs,.inr ⟨_,rfl,hl,hm,hz',hcell,hwz⟩,by omega⟩
 obtain⟨bs1,hbl1,hm1,hsl1⟩:=isRow_slice w1;obtain⟨a2,rfl,rfl,rfl,w2⟩:=open_int tG (hval 2 3 v2 rfl rfl) h2;clear hA0;refine(topBad_walk W (Te _hL).1 (Te _hL).2 _ _ l0 bs1 a2 (KZ w2).1 (KZ w2).2 hsl0 hfit0 hsl1 (by omega)).mono fun e W'⟨he,hg⟩=>?_;subst he;have bel:=CJ hg;exact⟨_,rfl,_,_,_,[],_,[],hW',trodAll_mk1 (shut_bool Tryz.underlying4 _),(trodAll_cons_mk (Below.trod Lw (by kernel_rfl) (of_decide_eq_true (by kernel_rfl)) k0 bel lt0) (trodAll_cons_mk (Below.trod Lw (by kernel_rfl) (of_decide_eq_true (by kernel_rfl)) k1 bel lt1) (trodAll_cons_mk (shut_int tG w2) trodAll_mk0))),rfl,bel.frame _,fun h=>by cases h⟩
theorem Rk(os:Os):laidMet G Rows.topBadRow.laid ((VH (y G os ⟨#[],#[],[]⟩)).forCall (fun _ _=>0) ⟨#[],#[I K 0 0,I K 0 0,P N 0],[]⟩).memory:=laidMet_of_run' 30 (by
 kernel_rfl) (by
 kernel_rfl)
theorem reads(os:Os){H:Type}(enc:tK×tD->H):∃places,DataW.whole enc G ((VH (y G os ⟨#[],#[],[]⟩)).forCall (fun _ _=>0) ⟨#[],#[I K 0 0,I K 0 0,P N 0],[]⟩).memory T.params.toList Rows.topBadSpec.vars J (#[I K 0 0,I K 0 0,P N 0]:Array tD).toList 8=tB ([.nil,.nil,.lit (P N 0)],[],places):=⟨[],by
 kernel_rfl⟩
theorem AI(os:Os)(started:os.Started)(H:Type)(enc:tK×tD->H)(F:Stop.Interp):ReturnsInHanded {} z os 9 .any ((V Rows.topBadSpec).preRow enc G T Rows.topBadRow.domain J Rows.topBadRow.laid) (((V Rows.topBadSpec).at F).post enc G T J r J J):=by
 obtain⟨places,hx⟩:=reads os enc;refine returnsInHanded_of_row (C:=z) (s:=V Rows.topBadSpec) own started (by kernel_rfl) o (witness_row_at (enc:=enc) (C:=z) J (VH (y G os ⟨#[],#[],[]⟩)) #[I K 0 0,I K 0 0,P N 0] rfl (by kernel_rfl) (by kernel_rfl) (by kernel_rfl) (tL 8 hx (by kernel_rfl) (fun k hk=>by cases hk) (by kernel_rfl) (Rk os))) ?_;intro W base args ds gs before hval hW _ _ hsz hL _ _;exact contract H enc W base args ds gs before hval hW hL hsz
theorem said:Rows.TopBadSaid:=OpenClaim.holds_of_cond 9 T rfl rfl rfl rfl rfl rfl rfl ⟨rfl,rfl,rfl,rfl,rfl⟩ rfl rfl rfl rfl rfl (by
 kernel_rfl) o (by
 kernel_rfl) (of_decide_eq_true (by
 kernel_rfl)) (by
 unfold Func.isWrapper;first|(rw[if_pos (by decide+kernel)];kernel_rfl)|(rw[if_neg (by decide+kernel)];exact⟨rfl,rfl⟩)) (fun os started H enc _ F=>by
 rw[OpenClaim.pre_eq_preRow];exact AI os started H enc F)
theorem plain(f:FuncId)(fn:Func)(hf:Tryz.pinned.checked.prog.funcNamed "canopy/canopytop.TopBad"=tB f)(hfn:Tryz.pinned.checked.prog.funcs[f]?=tB fn):J=Tryz.pinned.checked.prog.looks []∧∀(j:Nat)t,fn.params[j]?=tB t->Tryz.pinned.checked.prog.wantsStandIn t=J:=by
 obtain rfl:f=9:=Option.some.inj ((show G.funcNamed "canopy/canopytop.TopBad"=tB 9by kernel_rfl).symm.trans hf)|>.symm;obtain rfl:fn=T:=(Option.some.inj (o.symm.trans hfn)).symm;refine⟨by kernel_rfl,fun j t ht=>?_⟩;rw[tJ]at ht;have hall:∀t∈[22,25,3],G.wantsStandIn t=J:=by intro t ht;rcases i.1 ht with rfl|ht;(·exact(show G.wantsStandIn 22=J by kernel_rfl));rcases i.1 ht with rfl|ht;(·exact(show G.wantsStandIn 25=J by kernel_rfl));rcases i.1 ht with rfl|ht;(·exact(show G.wantsStandIn 3=J by kernel_rfl));cases ht
 exact hall t (by have:=Array.mem_of_getElem? ht;simpa using this)
end topBad
theorem topBad_card:Rows.TopBadCardSaid:=Claim7.holds_tied_plain_at .later [] _ _ _ _ topBad.said (fun _ h=>by
 cases h) (by
 kernel_rfl) (fun _ h=>by
 cases h) topBad_row_tie rfl ⟨rfl,rfl⟩ (by
 kernel_rfl) rfl topBad.plain (by
 kernel_rfl)
end
end Go.Proofs.YtflkfielgfkchaaGreatDoor
