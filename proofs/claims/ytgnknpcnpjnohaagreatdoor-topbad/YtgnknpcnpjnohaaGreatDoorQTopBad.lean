/-
  canopytop.TopBad returns true at every argument and leaves its arguments as they were: the tied card. Conditions: those of the card alone (the listed variables start as the program's text lays them).
  Texts of this proof, joined, with few blanks: BadF, LTpBad, TopBad.
-/
import Derived.Test.YtgnknpcnpjnohaaGreatDoorQ52
import Derived.Test.YtgnknpcnpjnohaaGreatDoorQ10
import Derived.Test.YtgnknpcnpjnohaaGreatDoorQ53
set_option maxRecDepth 100000
set_option maxHeartbeats 8000000
open Bool renaming false->I,true->g
open Go renaming Calls->Q,Value->z,TypeId->tE
open Go.OpenSpec renaming ofChange->P,preRow_of_cond->tG
open Go.Proofs.Tryz renaming prog->G,f3->N,underlying23->X,func3->Y,checked->n,underlying22->y,underlying3->tB,params3->tD
open Go.RowKit renaming Hid->M
open Go.World renaming grownBy->K,grownBy_alloc->T,holding->i
open List renaming mem_cons->V,length_take->tA,nil_append->tC
open Option renaming none->J,some->r
namespace Go.Proofs.YtgnknpcnpjnohaaGreatDoor
open Go.RowKit
section
variable{D:List UInt8->List UInt8}
def acBytes(s:Nat)(d:List UInt8):Ac:=⟨1,(s:Int),0,d⟩
theorem acBytes_ok{s:Nat}(hs:s<=7){d:List UInt8}(hd:d.length<=4000):XH (acBytes s d):=⟨⟨(by
 decide:(1:Int)<=1),(by
 decide:(1:Int)<=4)⟩,fun _=>⟨(by
 show(0:Int)<=(s:Int);omega),(by
 show(s:Int)<=7;omega)⟩,fun h=>absurd h (by
 decide:¬((1:Int)=3)),hd,fun h=>absurd rfl h,fun _=>rfl,fun h=>absurd rfl h⟩
theorem bad_run{S:List Ac}(s:Nat){d:List UInt8}(hd:QJ d≠0){A B:Oc}(hA:A=GI (Xm D S))(hB:B=GI (Xm D (S++[acBytes s d]))):B.turn=A.turn∧B.pending=A.pending∧B.forest=A.forest∧B.replies=A.replies++[Ga s (if A.up=I then 13 else QJ d)]:=by
 have e:Xm D (S++[acBytes s d])=ZD (Xm D S) (Ga s (if(Xm D S).up=I then 13 else QJ d)):=by rw[Nd];exact nA _ _ hd
 rw[hA,hB,e];exact⟨rfl,rfl,rfl,rfl⟩
end
theorem topBad_walk(w:World)(hP:UJ w)(hT:YK w)(v u:z)(l:List Gr)(data:List UInt8)(who:Int)(hk0:-9223372036854775808<=who)(hk1:who<=9223372036854775807)(hv:KV w v l)(hf:Mf l)(hu:Qe w u data)(hdl:data.length<=140737488355328):Q G 3 #[v,u,.int .i64 who] w fun e w'=>e=.returned (.bool g)∧K w w' J:=by
 obtain⟨la,lc,rfl⟩:=hv.shape;obtain⟨ua,uc,rfl⟩:=hu.shape;have SC:M (Q G 15 #[.slice la l.length lc,.int .i64 40] w fun e w'=>∃x,e=.returned x∧UI w.heap.size w' x (X9 l 40)∧K w w' J):=Nf w _ l 40 hv hf hP (by decide);obtain⟨S,hS⟩:∃S,S=X9 l 40:=⟨_,rfl⟩;have hok:∀a∈S,XH a:=by rw[hS];exact Sa l 40
 have hlen:S.length<=40:=by rw[hS];exact Sg l 40
 rw[<-hS]at SC;obtain⟨c,hc⟩:∃c,c=min data.length 60:=⟨_,rfl⟩;have hcl:c<=data.length:=by omega
 obtain⟨d,hd⟩:∃d,d=data.take c:=⟨_,rfl⟩;have hdc:d.length=c:=by rw[hd,tA];omega
 obtain⟨k,hk⟩:∃k,k=YM who 8:=⟨_,rfl⟩;have hk8:k<8:=by rw[hk];exact Uz who (by decide)
 have PK:M (∀w',Q G 18 #[.int .i64 who,.int .i64 8] w' fun e w''=>e=.returned (.int .i64 (k:Int))∧w''=w'):=fun w'=>by rw[hk];exact Ja who 8 w' hk0 hk1 (by decide) (by decide)
 obtain⟨OA,hOA⟩:∃O,O=GI (Xm Qo S):=⟨_,rfl⟩;obtain⟨L,hL⟩:∃L,L=S++[acBytes k d]:=⟨_,rfl⟩;obtain⟨OB,hOB⟩:∃O,O=GI (Xm Qo L):=⟨_,rfl⟩;have HL:M (S++[acBytes k d]=L):=hL.symm;have BR:M (QJ d≠0->OB.turn=OA.turn∧OB.pending=OA.pending∧OB.forest=OA.forest∧OB.replies=OA.replies++[Ga k (if OA.up=I then 13 else QJ d)]):=fun h=>by rw[hL]at hOB;exact bad_run k h hOA hOB
 have RA:M (∀w' v,K w w' J->Yg w' v S->Q G 16 #[v] w' (cR w' OA)):=fun w' v h hv=>Lk w' v S OA hOA hv hok (by omega) (hP.grown h) (hT.grownNone h);have RB:M (∀w' v,K w w' J->Yg w' v L->Q G 16 #[v] w' (cR w' OB)):=fun w' v h hv=>Lk w' v L OB hOB hv (fun a ha=>by rw[hL]at ha;rcases List.mem_append.1 ha with h|h;(·exact hok a h);·simp only[V,List.not_mem_nil,or_false]at h;subst h;exact acBytes_ok (by omega) (by omega)) (by rw[hL];simp;omega) (hP.grown h) (hT.grownNone h);have DE:M (∀w' v,K w w' J->Qe w' v d->Q G 17 #[v] w' fun e w''=>∃x,e=.returned (.tuple #[x,.int .i64 (QJ d)])∧Xt w'' x (Qu d)∧K w' w'' J):=fun w' v h hv=>Kf w' v d (hP.grown h) hv (by omega);have HFT:M (UM OA.forest):=by rw[hOA];exact(qW _ _ VR).fits
 have HRL:M (OA.replies.length<=1000):=by have h:=OD Qo S;rw[hOA];show(Xm Qo S).out.length<=1000;omega
 obtain⟨a1,c1,r1,r2⟩:=xI ua uc data c hcl hu.cap.1;have HU:M (∀w',K w w' J->Qe w' (.slice a1 c c1) d):=fun w' h=>by rw[hd];exact r2 w' (hu.grown h)
 have hmin:min (data.length:Int) 60=(c:Int):=by omega
 obtain⟨E,hE⟩:∃E,E=QJ d:=⟨_,rfl⟩;obtain⟨R,hR⟩:∃R,R=Qu d:=⟨_,rfl⟩;rw[<-hE]at BR DE;rw[<-hR]at DE;have HDC:M (d.length=c):=hdc;have hc60:c<=60:=by omega
 clear hv hf hP hT hok hS hk hOA hOB hL hd r2 hE hR hu hc hdc;go_enter Y,Tryz.ntmps3;go_upto_region 2with(go_at_call 15;refine SC.out.mono ?_;rintro e w1⟨x1,rfl,hx1,hg1⟩;obtain⟨sa,sc,rfl⟩:=hx1.shape);have RA1:M (Q G 16 #[.slice sa S.length sc] w1 (cR w1 OA)):=RA.out w1 _ hg1 hx1.list;clear RA SC;go_upto_region 3with(go_at_call 16;refine RA1.out.mono ?_;rintro e w2⟨fa,fc,ra,rc,rfl,hx2,hg2⟩);obtain⟨W3,AB,HW3,HAB,hg3,HB3⟩:=bT w2 OA fa fc ra rc;rw[<-HW3.out,<-HAB.out];have HN3:M (UI w.heap.size W3 (.slice sa S.length sc) S):=hx1.grown (Qa hg2 hg3);have HG3:M (K w W3 J):=Qa hg1 (Qa hg2 hg3);have HXA:M (Jy W3 (fun w=>Pa w (.agg #[.bool OA.up,.int .i64 OA.turn,.int .i64 OA.pending,.slice fa OA.forest.length fc,.slice ra OA.replies.length rc]) OA)):=hx2.grown hg3;have hs3:=HG3.out.size;have HU3:M (Qe W3 (.slice a1 c c1) d):=HU.out W3 HG3.out;clear RA1 hx1 hg1 hx2 hg2 hg3 HW3 HAB HU;go_upto_region 4with(at_builtin;refine QL rfl _ _ rfl W3.heap.size (.slice J 0 0) [] rfl (QT _ _) a1 c c1 d rfl HU3.out (by simp;omega) (Nat.le_refl _) ?_;intro v4 w4 ho4 hg4);rw[tC]at ho4;obtain⟨da,dc,rfl⟩:=ho4.shape;have hg4':K W3 w4 J:=hg4;have DE4:M (Q G 17 #[.slice da d.length dc] w4 fun e w''=>∃x,e=.returned (.tuple #[x,.int .i64 E])∧Xt w'' x R∧K w4 w'' J):=DE.out w4 _ (Qa HG3.out hg4') (Zb.part (base:=0) ho4).1;have HD4:M (Qi 0 w4 (.slice da d.length dc) d):=ho4.part;clear DE HU3 ho4 hg4 r1 hmin;go_upto_region 5with(go_at_call 17;refine DE4.out.mono ?_;rintro e w5⟨x5,rfl,hq5,hg5⟩;obtain⟨n1,n2,k1,k2,l1,l2,v1,v2,rfl⟩:=hq5.agg);obtain⟨W6,HW6,hg6,B6⟩:=Qg w5 (.cells #[.int .i64 R.kind,.slice n1 R.name.length n2,.slice k1 R.key.length k2,.slice l1 R.last.length l2,.slice v1 R.value.length v2] 33);rw[<-HW6.out];have hg36:=Qa hg4' (Qa hg5 hg6);have HN6:M (UI w.heap.size W6 (.slice sa S.length sc) S):=HN3.out.grown hg36;have HG6:M (K w W6 J):=Qa HG3.out hg36;have HX6:M (Jy W6 (fun w=>Pa w (.agg #[.bool OA.up,.int .i64 OA.turn,.int .i64 OA.pending,.slice fa OA.forest.length fc,.slice ra OA.replies.length rc]) OA)):=HXA.out.grown hg36;have HA6:M (_):=Qd hg36 HB3.out;have HD6:M (Qi 0 W6 (.slice da d.length dc) d):=HD4.out.keptT (Qa hg5 hg6) (.inl rfl);have hs6:=HG6.out.size;clear DE4 HD4 hg4' hg5 hg6 hg36 HW6 B6 HN3 HG3 HXA HB3 hq5 hs3;obtain⟨b6,hb6⟩:∃b,b=w5.heap.size:=⟨_,rfl⟩;rw[<-hb6];clear hb6;by_cases hE:E=0;·have j1:(E==0)=g:=beq_iff_eq.2 hE;clear hE;go_wp2_with fail;go_ret;exact⟨rfl,HG6.out⟩
 ·have j1:(E==0)=I:=beq_eq_false_iff_ne.2 hE;obtain⟨t1,t2,t3,t4⟩:=BR.out hE;have HBR:M (OB.turn=OA.turn∧OB.pending=OA.pending∧OB.forest=OA.forest∧OB.replies.length=OA.replies.length+1∧(OB.replies.getD OA.replies.length zX).code=(if OA.up=I then 13 else E)):=⟨t1,t2,t3,by rw[t4];simp,by rw[t4];simp[Ga]⟩;clear t1 t2 t3 t4 hE BR;go_upto_region 8with(first|(at_builtin;refine UF rfl _ _ rfl W6.heap.size (.slice J 0 0) [] rfl (Ce _ _) w.heap.size (.slice sa S.length sc) S rfl HN6.out.1 (by simp;omega) (Nat.le_refl _) ?_;intro v7 w7 ha7;rw[tC]at ha7;obtain⟨pa,pc,rfl⟩:=ha7.own.shape;(have HN7:M (UI W6.heap.size w7 (.slice pa S.length pc) S):=ha7.own);(have hg7:K W6 w7 J:=ha7.grown);(have hs7:=hg7.size);(have HD7:M (Qi 0 w7 (.slice da d.length dc) d):=HD6.out.keptT hg7 (.inl rfl));clear ha7)|(go_at_call 18;refine(PK.out _).mono ?_;rintro e w0⟨rfl,h0⟩;rw[h0];clear h0)|(at_builtin;refine UF rfl _ _ rfl W6.heap.size (.slice pa S.length pc) S rfl (HN7.out.grown (T _ _ J)) 0 (.slice (r ⟨w7.heap.size,0,J⟩) 1 1) [acBytes k d] rfl (Rf w7 (acBytes k d) _ HD7.out) (by simp;omega) (by simp;omega) ?_;intro v8 w8 ha8;rw[HL.out]at ha8;obtain⟨xa,xc,rfl⟩:=ha8.own.shape;(have hg8:K W6 w8 J:=TI (Qa hg7 (T _ _ J)) (HN7.out.grown (T _ _ J)) (Nat.le_refl _) ha8.grown);(have RB8:M (Q G 16 #[.slice xa L.length xc] w8 (cR w8 OB)):=RB.out w8 _ (Qa HG6.out hg8) ha8.own.list);clear ha8 HN7 hg7 hs7 HD7)|(go_at_call 16;refine RB8.out.mono ?_;rintro e w9⟨ga,gc,qa,qc,rfl,hx9,hg9⟩));obtain⟨W10,BB,HW10,HBB,hg10,HB10⟩:=bT w9 OB ga gc qa qc;rw[<-HW10.out,<-HBB.out];have hg610:=Qa hg8 (Qa hg9 hg10);have HG10:M (K w W10 J):=Qa HG6.out hg610;have HA10:M (_):=Qd hg610 HA6.out;have HXB:M (Jy W10 (fun w=>Pa w (.agg #[.bool OB.up,.int .i64 OB.turn,.int .i64 OB.pending,.slice ga OB.forest.length gc,.slice qa OB.replies.length qc]) OB)):=hx9.grown hg10;(have SF:M (Q G 19 #[.slice fa OA.forest.length fc,.slice ga OB.forest.length gc] W10 fun e w''=>e=.returned (.bool g)∧K W10 w'' J):=by obtain⟨vf,vr,e,hA,_⟩:=(HX6.out.grown hg610).now;obtain⟨vf',vr',e',hB,_⟩:=HXB.out.now;simp only[Value.agg.injEq,Array.mk.injEq,List.cons.injEq,and_true,true_and]at e e';obtain⟨rfl,rfl⟩:=e;obtain⟨rfl,rfl⟩:=e';show Q _ _ _ _ _;rw[HBR.out.2.2.1]at hB⊢;exact Ab W10 _ _ OA.forest hA hB HFT.out);obtain⟨⟨y0,y1,y2,y3,y4⟩,_⟩:=Qp (Qb W10 J) HA10.out;obtain⟨⟨z0,z1,z2,z3,z4⟩,_⟩:=Qp (Qb W10 J) HB10.out;obtain⟨t1,t2,t3,t4,t5⟩:=HBR.out;have hrl:=HRL.out;(have e1:IntKind.i64.wrap ((OA.replies.length:Int)+1)=(OA.replies.length:Int)+1:=by rw[IntKind.wrap_i64];omega);(have e2:((OB.replies.length:Int)!=(OA.replies.length:Int)+1)=I:=by simp[t4]);(have e3:(OA.turn !=OB.turn)=I:=by simp[t1]);(have e4:(OA.pending !=OB.pending)=I:=by simp[t2]);(have i1:(OA.replies.length:Int)<(OB.replies.length:Int):=by omega);(have hlt:OA.replies.length<OB.replies.length:=by omega);clear t1 t2 t3 t4 hg8 hg9 hg10 hg610 hx9 HW10 HBB RB8 RB PK;go_upto_region 10with(go_at_call 19;refine SF.out.mono ?_;rintro e w11⟨rfl,hg11⟩;obtain⟨⟨q0,q1,q2,q3,q4⟩,_⟩:=Qp hg11 HA10.out;obtain⟨⟨r0,r1,r2,r3,r4⟩,_⟩:=Qp hg11 HB10.out);obtain⟨vf,vr,e,_,hrs⟩:=(HXB.out.grown hg11).now;simp only[Value.agg.injEq,Array.mk.injEq,List.cons.injEq,and_true,true_and]at e;obtain⟨rfl,rfl⟩:=e;obtain⟨rb,ro,rfl,_,cc,_,_⟩:=hrs.at OA.replies.length hlt;rw[t5]at cc;clear t5 hrs y0 y1 y2 y3 y4 z0 z1 z2 z3 z4 SF;cases hup:OA.up with|false=>rw[hup]at q0;rw[if_pos hup]at cc;have m1:((13:Int)==13)=g:=rfl;by_cases h13:E=13;(·have j2:((13:Int)==E)=g:=beq_iff_eq.2 h13.symm;clear hup h13;go_wp2_with fail;go_ret;exact⟨rfl,Qa HG10.out hg11⟩);·have j2:((13:Int)==E)=I:=beq_eq_false_iff_ne.2 fun h=>h13 h.symm;clear hup h13;go_wp2_with fail;go_ret;exact⟨rfl,Qa HG10.out hg11⟩|true=>rw[if_neg (by rw[hup];decide)]at cc;have j2:(E==E)=g:=beq_iff_eq.2 rfl;clear hup;go_wp2_with fail;go_ret;exact⟨rfl,Qa HG10.out hg11⟩
section
open Go.ChangeShapes Go.WideShapes Go.ChangeAt Go.RowKit
namespace topBad
theorem contract(H:Type)(enc:tE×z->H)(W:World)(base:Nat)(args:Array z)(ds gs:List (DataW H))(before:List MemPlace)(hval:∀(j:Nat)t v,N.params[j]?=r t->args[j]?=r v->Value.okWide G W .any base t v)(hW:DataW.Whole enc G N.params.toList Rows.topBadSpec.vars I W args.toList ds gs before)(_hL:laidMetH G Rows.topBadRow.laid W)(hsz0:(DataW.weightsEach G (N.params.toList++(P Rows.topBadSpec).bare.plain.varTypes G) (ds++gs)).all (·<=reachBytes)=g):Q G 3 args W fun e W'=>∃v,e=.returned v∧Rows.topBadSpec.post enc G N I g I I W args v W':=by
 have hW':=hW;obtain⟨p,q,hA0,hV,rfl,hfz,hnd⟩:=hW;have hA:DataW.TrodAll enc G W 0 (fun _=>g) g N.params.toList args.toList ds p:=hA0;have hsz:=hsz0;rw[tD]at hA hval hsz;obtain⟨v0,vs0,d0,ds0,p0,q0,hargs,rfl,rfl,h0,r0⟩:=trodAll_cons hA;obtain⟨v1,vs1,d1,ds1,p1,q1,rfl,rfl,rfl,h1,r1⟩:=trodAll_cons r0;obtain⟨v2,vs2,d2,ds2,p2,q2,rfl,rfl,rfl,h2,r2⟩:=trodAll_cons r1;obtain⟨rfl,rfl,rfl⟩:=trodAll_nil r2;obtain rfl:args=#[v0,v1,v2]:=by cases args;simp_all
 obtain⟨rfl,rfl⟩:=trodVars_none hV;obtain⟨a0,Ib,cap0,rfl⟩:=okWide_slice y (hval 0 22 v0 rfl rfl);have k0:=h0;have lt0:∀x∈p0,x.block<W.heap.size:=by obtain⟨m,hm⟩:=k0;exact DataW.trod_lt m _ _ _ hm
 obtain⟨l0,hsl0,hfit0⟩:∃l,KV W (.slice a0 Ib cap0) l∧Mf l:=by obtain⟨fuel,hf⟩:=h0;exact Lb y Tryz.underlying53 (by kernel_rfl) rfl rfl rfl rfl rfl rfl rfl rfl rfl rfl (x:=(d0,p0)) (by simpa[Value.cells]using hf)
 obtain⟨a1,len1,cap1,rfl⟩:=okWide_slice X (hval 1 23 v1 rfl rfl);have k1:=h1;have lt1:∀x∈p1,x.block<W.heap.size:=by obtain⟨m,hm⟩:=k1;exact DataW.trod_lt m _ _ _ hm
 obtain⟨z1,w1,hr1⟩:∃zs,mU .u8 W a1 len1 cap1 zs∧len1<=140737488351232:=by obtain⟨fuel,hf⟩:=h1;rcases open_ints X Tryz.underlying5 (by kernel_rfl) hf with⟨hcs,_⟩|⟨x,l,c,zs,hcs,_,hl,hm,hz,hx,hcell,hwz⟩;(·simp[Value.cells]at hcs;obtain⟨rfl,rfl,rfl⟩:=hcs;exact⟨[],.inl ⟨rfl,rfl,rfl,rfl⟩,by omega⟩);·simp[Value.cells]at hcs;obtain⟨rfl,rfl,rfl⟩:=hcs;obtain⟨hd,_⟩:=Prod.mk.inj hx;subst hd;(have hz':zs.length=cap1:=by simpa using hz);have hs:=sized_slice hsz (j:=1) (t:=23) (e:=5) rfl rfl X;rw[nD]at hs;simp only[lits,List.length_map,tA,List.length_drop,reachBytes]at hs;exact⟨zs,.inr ⟨_,rfl,hl,hm,hz',hcell,hwz⟩,by omega⟩
 obtain⟨bs1,hbl1,hm1,hsl1⟩:=gU w1;obtain⟨a2,rfl,rfl,rfl,w2⟩:=open_int tB (hval 2 3 v2 rfl rfl) h2;clear hA0;refine(topBad_walk W (LX _hL).1 (LX _hL).2 _ _ l0 bs1 a2 (JB w2).1 (JB w2).2 hsl0 hfit0 hsl1 (by omega)).mono fun e W'⟨he,hg⟩=>?_;subst he;have bel:=aT hg;exact⟨_,rfl,_,_,_,[],_,[],hW',trodAll_mk1 (shut_bool Tryz.underlying4 _),(trodAll_cons_mk (Below.trod eD (by kernel_rfl) (of_decide_eq_true (by kernel_rfl)) k0 bel lt0) (trodAll_cons_mk (Below.trod eD (by kernel_rfl) (of_decide_eq_true (by kernel_rfl)) k1 bel lt1) (trodAll_cons_mk (shut_int tB w2) trodAll_mk0))),rfl,bel.frame _,fun h=>by cases h⟩
theorem aK(os:Os):laidMet G Rows.topBadRow.laid ((Pp (i G os ⟨#[],#[],[]⟩)).forCall (fun _ _=>0) ⟨#[],#[.slice J 0 0,.slice J 0 0,.int .i64 0],[]⟩).memory:=laidMet_of_run' 30 (by
 kernel_rfl) (by
 kernel_rfl)
theorem reads(os:Os){H:Type}(enc:tE×z->H):∃places,DataW.whole enc G ((Pp (i G os ⟨#[],#[],[]⟩)).forCall (fun _ _=>0) ⟨#[],#[.slice J 0 0,.slice J 0 0,.int .i64 0],[]⟩).memory N.params.toList Rows.topBadSpec.vars I (#[Value.slice J 0 0,Value.slice J 0 0,Value.int .i64 0]:Array z).toList 8=r ([.nil,.nil,.lit (.int .i64 0)],[],places):=⟨[],by
 kernel_rfl⟩
theorem iK(os:Os)(started:os.Started)(H:Type)(enc:tE×z->H)(F:Stop.Interp):ReturnsInHanded {} n os 3 .any ((P Rows.topBadSpec).preRow enc G N Rows.topBadRow.domain I Rows.topBadRow.laid) (((P Rows.topBadSpec).at F).post enc G N I g I I):=by
 obtain⟨places,hx⟩:=reads os enc;refine returnsInHanded_of_row (C:=n) (s:=P Rows.topBadSpec) own started (by kernel_rfl) Y (witness_row_at (enc:=enc) (C:=n) I (Pp (i G os ⟨#[],#[],[]⟩)) #[.slice J 0 0,.slice J 0 0,.int .i64 0] rfl (by kernel_rfl) (by kernel_rfl) (by kernel_rfl) (tG 8 hx (by kernel_rfl) (fun k hk=>by cases hk) (by kernel_rfl) (aK os))) ?_;intro W base args ds gs before hval hW _ _ hsz hL _ _;exact contract H enc W base args ds gs before hval hW hL hsz
theorem said:Rows.TopBadSaid:=OpenClaim.holds_of_cond 3 N rfl rfl rfl rfl rfl rfl rfl ⟨rfl,rfl,rfl,rfl,rfl⟩ rfl rfl rfl rfl rfl (by
 kernel_rfl) Y (by
 kernel_rfl) (of_decide_eq_true (by
 kernel_rfl)) (by
 unfold Func.isWrapper;first|(rw[if_pos (by decide+kernel)];kernel_rfl)|(rw[if_neg (by decide+kernel)];exact⟨rfl,rfl⟩)) (fun os started H enc _ F=>by
 rw[OpenClaim.pre_eq_preRow];exact iK os started H enc F)
theorem plain(f:FuncId)(fn:Func)(hf:Tryz.pinned.checked.prog.funcNamed "canopy/canopytop.TopBad"=r f)(hfn:Tryz.pinned.checked.prog.funcs[f]?=r fn):I=Tryz.pinned.checked.prog.looks []∧∀(j:Nat)t,fn.params[j]?=r t->Tryz.pinned.checked.prog.wantsStandIn t=I:=by
 obtain rfl:f=3:=Option.some.inj ((show G.funcNamed "canopy/canopytop.TopBad"=r 3by kernel_rfl).symm.trans hf)|>.symm;obtain rfl:fn=N:=(Option.some.inj (Y.symm.trans hfn)).symm;refine⟨by kernel_rfl,fun j t ht=>?_⟩;rw[tD]at ht;have hall:∀t∈[22,23,3],G.wantsStandIn t=I:=by intro t ht;rcases V.1 ht with rfl|ht;(·exact(show G.wantsStandIn 22=I by kernel_rfl));rcases V.1 ht with rfl|ht;(·exact(show G.wantsStandIn 23=I by kernel_rfl));rcases V.1 ht with rfl|ht;(·exact(show G.wantsStandIn 3=I by kernel_rfl));cases ht
 exact hall t (by have:=Array.mem_of_getElem? ht;simpa using this)
end topBad
theorem topBad_card:Rows.TopBadCardSaid:=Claim7.holds_tied_plain_at .later [] _ _ _ _ topBad.said (fun _ h=>by
 cases h) (by
 kernel_rfl) (fun _ h=>by
 cases h) topBad_row_tie rfl ⟨rfl,rfl⟩ (by
 kernel_rfl) rfl topBad.plain (by
 kernel_rfl)
end
end Go.Proofs.YtgnknpcnpjnohaaGreatDoor
