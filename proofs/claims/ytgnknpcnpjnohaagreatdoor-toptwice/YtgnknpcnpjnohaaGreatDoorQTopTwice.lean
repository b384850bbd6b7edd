/-
  canopytop.TopTwice returns true at every argument and leaves its arguments as they were: the tied card. Conditions: those of the card alone (the listed variables start as the program's text lays them).
  Texts of this proof, joined, with few blanks: TwiceF, LTpTwice, TopTwice.
-/
import Derived.Test.YtgnknpcnpjnohaaGreatDoorQ52
import Derived.Test.YtgnknpcnpjnohaaGreatDoorQ10
import Derived.Test.YtgnknpcnpjnohaaGreatDoorQ53
set_option maxRecDepth 100000
set_option maxHeartbeats 8000000
open Bool renaming false->K,true->X
open Go renaming Calls->Y,Value->z,TypeId->tC
open Go.OpenSpec renaming ofChange->N,preRow_of_cond->tD
open Go.Proofs.Tryz renaming prog->E,f6->M,underlying3->Q,func6->i,checked->o,underlying22->y,params6->tB
open Go.RowKit renaming Hid->c
open Go.World renaming grownBy_alloc->G,grownBy->P,holding->n
open List renaming mem_cons->J,foldl_cons->R,not_mem_nil->d,mem_append->g,foldl_nil->tA
open Option renaming none->I,some->r
namespace Go.Proofs.YtgnknpcnpjnohaaGreatDoor
open Go.RowKit
section
variable{D:List UInt8->List UInt8}
theorem Wc(hD:∀x,(D x).length=4){S:List Ac}(hok:∀a∈S,XH a){k m:Int}(hk:0<=k)(hk1:k<=200000)(hm:0<=m){A B:Oc}(hA:A=GI (Xm D (S++[Zj k,Zh])))(hB:B=GI (Xm D (S++[Zj k,Zh]++[Zj m,Zh]))):A.up=X∧B.up=X∧B.turn=A.turn∧B.forest=A.forest∧B.replies.length=A.replies.length:=by
 have hG0:=xE hD S hok;obtain⟨j,_,_,_,h4,_,_,h7,_,_⟩:=Fy hD hG0 hk;have hG:Za D (Xm D (S++[Zj k,Zh])):=xE hD _ fun a ha=>by simp only[g,J,d,or_false]at ha;rcases ha with h|rfl|rfl;(·exact hok a h);(·exact uA hk hk1);·exact qX
 have e1:Xm D (S++[Zj k,Zh])={(QU D (Xm D S) (Zj k))with up:=X}:=by rw[Gh,R,R,tA];exact h4
 have hu:(Xm D (S++[Zj k,Zh])).up=X:=by rw[e1]
 have hq:(Xm D (S++[Zj k,Zh])).queue=[]:=by rw[e1];exact h7
 have e2:Xm D (S++[Zj k,Zh]++[Zj m,Zh])=QU D (QU D (Xm D (S++[Zj k,Zh])) (Zj m)) Zh:=by rw[Gh,R,R,tA]
 generalize Xm D (S++[Zj k,Zh])=V at*;have hs:V.synced=V.commits.length:=by have:=hG.turn;rw[hq]at this;simpa using this
 rw[yQ,if_pos hu,Fq hD hG hs hm,jM]at e2;rw[hA,hB,e2];refine⟨hu,rfl,?_,?_,rfl⟩;·show((V.commits.length:Nat):Int)=((V.synced:Nat):Int);rw[hs]
 ·show V2 [] (V.commits.take V.commits.length)=V2 [] (V.commits.take V.synced);rw[hs]
end
theorem EA(w:World)(hP:UJ w)(hT:YK w)(v:z)(l:List Gr)(a b:Int)(ha0:-9223372036854775808<=a)(ha1:a<=9223372036854775807)(hb0:-9223372036854775808<=b)(hb1:b<=9223372036854775807)(hv:KV w v l)(hf:Mf l):Y E 6 #[v,.int .i64 a,.int .i64 b] w fun e w'=>e=.returned (.bool X)∧P w w' I:=by
 obtain⟨la,lc,rfl⟩:=hv.shape;have SC:c (Y E 15 #[.slice la l.length lc,.int .i64 50] w fun e w'=>∃x,e=.returned x∧UI w.heap.size w' x (X9 l 50)∧P w w' I):=Nf w _ l 50 hv hf hP (by decide);obtain⟨S,hS⟩:∃S,S=X9 l 50:=⟨_,rfl⟩;have hok:∀a∈S,XH a:=by rw[hS];exact Sa l 50
 have hlen:S.length<=50:=by rw[hS];exact Sg l 50
 rw[<-hS]at SC;obtain⟨k,hk⟩:∃k,k=YM a 300:=⟨_,rfl⟩;obtain⟨m,hm⟩:∃m,m=YM b 300:=⟨_,rfl⟩;have hk3:k<300:=by rw[hk];exact Uz a (by decide)
 have hm3:m<300:=by rw[hm];exact Uz b (by decide)
 have PKA:c (∀w',Y E 18 #[.int .i64 a,.int .i64 300] w' fun e w''=>e=.returned (.int .i64 (k:Int))∧w''=w'):=fun w'=>by rw[hk];exact Ja a 300 w' ha0 ha1 (by decide) (by decide)
 have PKB:c (∀w',Y E 18 #[.int .i64 b,.int .i64 300] w' fun e w''=>e=.returned (.int .i64 (m:Int))∧w''=w'):=fun w'=>by rw[hm];exact Ja b 300 w' hb0 hb1 (by decide) (by decide)
 obtain⟨T,hTe⟩:∃T,T=S++[Zj (k:Int),Zh]:=⟨_,rfl⟩;obtain⟨L,hL⟩:∃L,L=T++[Zj (m:Int),Zh]:=⟨_,rfl⟩;obtain⟨OA,hOA⟩:∃O,O=GI (Xm Qo T):=⟨_,rfl⟩;obtain⟨OB,hOB⟩:∃O,O=GI (Xm Qo L):=⟨_,rfl⟩;have HF:c (OA.up=X∧OB.up=X∧OB.turn=OA.turn∧OB.forest=OA.forest∧OB.replies.length=OA.replies.length):=Wc U2 hok (k:=(k:Int)) (m:=(m:Int)) (by omega) (by omega) (by omega) (by rw[hOA,hTe]) (by rw[hOB,hL,hTe]);have HFT:c (UM OA.forest):=by rw[hOA];exact(qW _ _ VR).fits
 have hokT:∀a∈T,XH a:=fun a ha=>by rw[hTe]at ha;simp only[g,J,d,or_false]at ha;rcases ha with h|rfl|rfl;(·exact hok a h);(·exact uA (by omega) (by omega));·exact qX
 have hokL:∀a∈L,XH a:=fun a ha=>by rw[hL]at ha;simp only[g,J,d,or_false]at ha;rcases ha with h|rfl|rfl;(·exact hokT a h);(·exact uA (by omega) (by omega));·exact qX
 have hTl:T.length<=52:=by rw[hTe];simp;omega
 have hLl:L.length<=54:=by rw[hL];simp;omega
 have RA:c (∀w' v,P w w' I->Yg w' v T->Y E 16 #[v] w' (cR w' OA)):=fun w' v h hv=>Lk w' v T OA hOA hv hokT (by omega) (hP.grown h) (hT.grownNone h);have RB:c (∀w' v,P w w' I->Yg w' v L->Y E 16 #[v] w' (cR w' OB)):=fun w' v h hv=>Lk w' v L OB hOB hv hokL (by omega) (hP.grown h) (hT.grownNone h);have HTE:c (S++[Zj (k:Int),Zh]=T):=hTe.symm;have HLE:c (T++[Zj (m:Int),Zh]=L):=hL.symm;clear hv hf hP hT hok hokT hokL hS hk hm hOA hOB hTe hL hLl;go_enter i,Tryz.ntmps6;go_upto_region 2with(first|(go_at_call 15;refine SC.out.mono ?_;clear SC;rintro e w1⟨x1,rfl,hx1,hg1⟩;obtain⟨sa,sc,rfl⟩:=hx1.shape;(have hs1:=hg1.size))|(go_at_call 18;refine(PKA.out _).mono ?_;rintro e w0⟨rfl,h0⟩;rw[h0];clear h0)|(at_builtin;refine UF rfl _ _ rfl w.heap.size (.slice sa S.length sc) S rfl (hx1.grown (G _ _ I)) 0 (.slice (r ⟨w1.heap.size,0,I⟩) 2 2) [Zj (k:Int),Zh] rfl (cT w1 (k:Int)) (by simp;omega) (by simp;omega) ?_;intro v2 w2 ha2;rw[HTE.out]at ha2;obtain⟨ta,tc,rfl⟩:=ha2.own.shape));have hgA:=G w1 (.cells #[.int .i64 3,.int .i64 0,.int .i64 (k:Int),.slice I 0 0,.int .i64 4,.int .i64 0,.int .i64 0,.slice I 0 0] 39) I;have HN2:c (UI w.heap.size w2 (.slice ta T.length tc) T):=ha2.own;have HG2:c (P w w2 I):=TI (Qa hg1 hgA) (hx1.grown hgA) (Nat.le_refl _) ha2.grown;have RA2:c (Y E 16 #[.slice ta T.length tc] w2 (cR w2 OA)):=RA.out w2 _ HG2.out ha2.own.list;clear hgA ha2 hx1 hg1 hs1 RA PKA HTE;go_upto_region 3with(go_at_call 16;refine RA2.out.mono ?_;rintro e w3⟨fa,fc,ra,rc,rfl,hx3,hg3⟩);obtain⟨W4,AB,HW4,HAB,hg4,HB4⟩:=bT w3 OA fa fc ra rc;rw[<-HW4.out,<-HAB.out];have hg24:=Qa hg3 hg4;have HN4:c (UI w.heap.size W4 (.slice ta T.length tc) T):=HN2.out.grown hg24;have HG4:c (P w W4 I):=Qa HG2.out hg24;have HXA:c (Jy W4 (fun w=>Pa w (.agg #[.bool OA.up,.int .i64 OA.turn,.int .i64 OA.pending,.slice fa OA.forest.length fc,.slice ra OA.replies.length rc]) OA)):=hx3.grown hg4;clear RA2 hx3 hg3 hg4 hg24 HW4 HAB HN2 HG2;go_upto_region 4with(first|(at_builtin;refine UF rfl _ _ rfl W4.heap.size (.slice I 0 0) [] rfl (Ce _ _) w.heap.size (.slice ta T.length tc) T rfl HN4.out.1 (by simp;omega) (Nat.le_refl _) ?_;intro z6 y6 ha6;rw[List.nil_append]at ha6;obtain⟨va,vc,rfl⟩:=ha6.own.shape;(have HN6:c (UI W4.heap.size y6 (.slice va T.length vc) T):=ha6.own);(have hg6:P W4 y6 I:=ha6.grown);(have hs6:=hg6.size);clear ha6)|(go_at_call 18;refine(PKB.out _).mono ?_;rintro e w0⟨rfl,h0⟩;rw[h0];clear h0)|(at_builtin;refine UF rfl _ _ rfl W4.heap.size (.slice va T.length vc) T rfl (HN6.out.grown (G _ _ I)) 0 (.slice (r ⟨y6.heap.size,0,I⟩) 2 2) [Zj (m:Int),Zh] rfl (cT y6 (m:Int)) (by simp;omega) (by simp;omega) ?_;intro v7 y7 ha7;rw[HLE.out]at ha7;obtain⟨xa2,xc2,rfl⟩:=ha7.own.shape;(have hg7:P W4 y7 I:=TI (Qa hg6 (G _ _ I)) (HN6.out.grown (G _ _ I)) (Nat.le_refl _) ha7.grown);(have RB7:c (Y E 16 #[.slice xa2 L.length xc2] y7 (cR y7 OB)):=RB.out y7 _ (Qa HG4.out hg7) ha7.own.list);clear ha7 HN6 hg6 hs6)|(go_at_call 16;refine RB7.out.mono ?_;rintro e y8⟨ga,gc,qa,qc,rfl,hx8,hg8⟩));obtain⟨Z9,BB,HZ9,HBB,hg9,HB9⟩:=bT y8 OB ga gc qa qc;rw[<-HZ9.out,<-HBB.out];have hg49:=Qa hg7 (Qa hg8 hg9);have HGZ:c (P w Z9 I):=Qa HG4.out hg49;have HAZ:c (_):=Qd hg49 HB4.out;obtain⟨⟨a0,a1,a2,a3,a4⟩,_⟩:=Qp (Qb Z9 I) HAZ.out;obtain⟨⟨b0,b1,b2,b3,b4⟩,_⟩:=Qp (Qb Z9 I) HB9.out;have HXB:c (Jy Z9 (fun w=>Pa w (.agg #[.bool OB.up,.int .i64 OB.turn,.int .i64 OB.pending,.slice ga OB.forest.length gc,.slice qa OB.replies.length qc]) OB)):=hx8.grown hg9;have SF:c (Y E 19 #[.slice fa OA.forest.length fc,.slice ga OB.forest.length gc] Z9 fun e w''=>e=.returned (.bool X)∧P Z9 w'' I):=by obtain⟨vf,vr,e,hA,_⟩:=(HXA.out.grown hg49).now;obtain⟨vf',vr',e',hB,_⟩:=HXB.out.now;simp only[Value.agg.injEq,Array.mk.injEq,List.cons.injEq,and_true,true_and]at e e';obtain⟨rfl,rfl⟩:=e;obtain⟨rfl,rfl⟩:=e';show Y _ _ _ _ _;rw[HF.out.2.2.2.1]at hB⊢;exact Ab Z9 _ _ OA.forest hA hB HFT.out
 obtain⟨f1,f2,f3,f4,f5⟩:=HF.out;have e1:(OA.turn==OB.turn)=X:=beq_iff_eq.2 f3.symm;have e4:((OA.replies.length:Int)==(OB.replies.length:Int))=X:=beq_iff_eq.2 (by omega);clear f3 f4 f5 HF hg49 hg7 hg8 hg9 HZ9 HBB HXA HXB hx8 HG4 HN4 RB RB7 PKB HLE;go_wp2_with(go_at_call 19;refine SF.out.mono ?_;rintro e wz⟨rfl,hgz⟩;obtain⟨⟨q0,q1,q2,q3,q4⟩,_⟩:=Qp hgz HAZ.out;obtain⟨⟨r0,r1,r2,r3,r4⟩,_⟩:=Qp hgz HB9.out);go_ret;exact⟨rfl,Qa HGZ.out hgz⟩
section
open Go.ChangeShapes Go.WideShapes Go.ChangeAt Go.RowKit
namespace topTwice
theorem contract(H:Type)(enc:tC×z->H)(W:World)(base:Nat)(args:Array z)(ds gs:List (DataW H))(before:List MemPlace)(hval:∀(j:Nat)t v,M.params[j]?=r t->args[j]?=r v->Value.okWide E W .any base t v)(hW:DataW.Whole enc E M.params.toList Rows.topTwiceSpec.vars K W args.toList ds gs before)(_hL:laidMetH E Rows.topTwiceRow.laid W)(hsz0:(DataW.weightsEach E (M.params.toList++(N Rows.topTwiceSpec).bare.plain.varTypes E) (ds++gs)).all (·<=reachBytes)=X):Y E 6 args W fun e W'=>∃v,e=.returned v∧Rows.topTwiceSpec.post enc E M K X K K W args v W':=by
 have hW':=hW;obtain⟨p,q,hA0,hV,rfl,hfz,hnd⟩:=hW;have hA:DataW.TrodAll enc E W 0 (fun _=>X) X M.params.toList args.toList ds p:=hA0;have hsz:=hsz0;rw[tB]at hA hval hsz;obtain⟨v0,vs0,d0,ds0,p0,q0,hargs,rfl,rfl,h0,r0⟩:=trodAll_cons hA;obtain⟨v1,vs1,d1,ds1,p1,q1,rfl,rfl,rfl,h1,r1⟩:=trodAll_cons r0;obtain⟨v2,vs2,d2,ds2,p2,q2,rfl,rfl,rfl,h2,r2⟩:=trodAll_cons r1;obtain⟨rfl,rfl,rfl⟩:=trodAll_nil r2;obtain rfl:args=#[v0,v1,v2]:=by cases args;simp_all
 obtain⟨rfl,rfl⟩:=trodVars_none hV;obtain⟨a0,Ib,cap0,rfl⟩:=okWide_slice y (hval 0 22 v0 rfl rfl);have k0:=h0;have lt0:∀x∈p0,x.block<W.heap.size:=by obtain⟨m,hm⟩:=k0;exact DataW.trod_lt m _ _ _ hm
 obtain⟨l0,hsl0,hfit0⟩:∃l,KV W (.slice a0 Ib cap0) l∧Mf l:=by obtain⟨fuel,hf⟩:=h0;exact Lb y Tryz.underlying53 (by kernel_rfl) rfl rfl rfl rfl rfl rfl rfl rfl rfl rfl (x:=(d0,p0)) (by simpa[Value.cells]using hf)
 obtain⟨a1,rfl,rfl,rfl,w1⟩:=open_int Q (hval 1 3 v1 rfl rfl) h1;obtain⟨a2,rfl,rfl,rfl,w2⟩:=open_int Q (hval 2 3 v2 rfl rfl) h2;clear hA0;refine(EA W (LX _hL).1 (LX _hL).2 _ l0 a1 a2 (JB w1).1 (JB w1).2 (JB w2).1 (JB w2).2 hsl0 hfit0).mono fun e W'⟨he,hg⟩=>?_;subst he;have bel:=aT hg;exact⟨_,rfl,_,_,_,[],_,[],hW',trodAll_mk1 (shut_bool Tryz.underlying4 _),(trodAll_cons_mk (Below.trod eD (by kernel_rfl) (of_decide_eq_true (by kernel_rfl)) k0 bel lt0) (trodAll_cons_mk (shut_int Q w1) (trodAll_cons_mk (shut_int Q w2) trodAll_mk0))),rfl,bel.frame _,fun h=>by cases h⟩
theorem aK(os:Os):laidMet E Rows.topTwiceRow.laid ((Pp (n E os ⟨#[],#[],[]⟩)).forCall (fun _ _=>0) ⟨#[],#[.slice I 0 0,.int .i64 0,.int .i64 0],[]⟩).memory:=laidMet_of_run' 30 (by
 kernel_rfl) (by
 kernel_rfl)
theorem reads(os:Os){H:Type}(enc:tC×z->H):∃places,DataW.whole enc E ((Pp (n E os ⟨#[],#[],[]⟩)).forCall (fun _ _=>0) ⟨#[],#[.slice I 0 0,.int .i64 0,.int .i64 0],[]⟩).memory M.params.toList Rows.topTwiceSpec.vars K (#[Value.slice I 0 0,Value.int .i64 0,Value.int .i64 0]:Array z).toList 8=r ([.nil,.lit (.int .i64 0),.lit (.int .i64 0)],[],places):=⟨[],by
 kernel_rfl⟩
theorem iK(os:Os)(started:os.Started)(H:Type)(enc:tC×z->H)(F:Stop.Interp):ReturnsInHanded {} o os 6 .any ((N Rows.topTwiceSpec).preRow enc E M Rows.topTwiceRow.domain K Rows.topTwiceRow.laid) (((N Rows.topTwiceSpec).at F).post enc E M K X K K):=by
 obtain⟨places,hx⟩:=reads os enc;refine returnsInHanded_of_row (C:=o) (s:=N Rows.topTwiceSpec) own started (by kernel_rfl) i (witness_row_at (enc:=enc) (C:=o) K (Pp (n E os ⟨#[],#[],[]⟩)) #[.slice I 0 0,.int .i64 0,.int .i64 0] rfl (by kernel_rfl) (by kernel_rfl) (by kernel_rfl) (tD 8 hx (by kernel_rfl) (fun k hk=>by cases hk) (by kernel_rfl) (aK os))) ?_;intro W base args ds gs before hval hW _ _ hsz hL _ _;exact contract H enc W base args ds gs before hval hW hL hsz
theorem said:Rows.TopTwiceSaid:=OpenClaim.holds_of_cond 6 M rfl rfl rfl rfl rfl rfl rfl ⟨rfl,rfl,rfl,rfl,rfl⟩ rfl rfl rfl rfl rfl (by
 kernel_rfl) i (by
 kernel_rfl) (of_decide_eq_true (by
 kernel_rfl)) (by
 unfold Func.isWrapper;first|(rw[if_pos (by decide+kernel)];kernel_rfl)|(rw[if_neg (by decide+kernel)];exact⟨rfl,rfl⟩)) (fun os started H enc _ F=>by
 rw[OpenClaim.pre_eq_preRow];exact iK os started H enc F)
theorem plain(f:FuncId)(fn:Func)(hf:Tryz.pinned.checked.prog.funcNamed "canopy/canopytop.TopTwice"=r f)(hfn:Tryz.pinned.checked.prog.funcs[f]?=r fn):K=Tryz.pinned.checked.prog.looks []∧∀(j:Nat)t,fn.params[j]?=r t->Tryz.pinned.checked.prog.wantsStandIn t=K:=by
 obtain rfl:f=6:=Option.some.inj ((show E.funcNamed "canopy/canopytop.TopTwice"=r 6by kernel_rfl).symm.trans hf)|>.symm;obtain rfl:fn=M:=(Option.some.inj (i.symm.trans hfn)).symm;refine⟨by kernel_rfl,fun j t ht=>?_⟩;rw[tB]at ht;have hall:∀t∈[22,3,3],E.wantsStandIn t=K:=by intro t ht;rcases J.1 ht with rfl|ht;(·exact(show E.wantsStandIn 22=K by kernel_rfl));rcases J.1 ht with rfl|ht;(·exact(show E.wantsStandIn 3=K by kernel_rfl));rcases J.1 ht with rfl|ht;(·exact(show E.wantsStandIn 3=K by kernel_rfl));cases ht
 exact hall t (by have:=Array.mem_of_getElem? ht;simpa using this)
end topTwice
theorem topTwice_card:Rows.TopTwiceCardSaid:=Claim7.holds_tied_plain_at .later [] _ _ _ _ topTwice.said (fun _ h=>by
 cases h) (by
 kernel_rfl) (fun _ h=>by
 cases h) topTwice_row_tie rfl ⟨rfl,rfl⟩ (by
 kernel_rfl) rfl topTwice.plain (by
 kernel_rfl)
end
end Go.Proofs.YtgnknpcnpjnohaaGreatDoor
