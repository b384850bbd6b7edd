/-
  canopytop.TopGrows returns true at every argument and leaves its arguments as they were: the tied card. Conditions: those of the card alone (the listed variables start as the program's text lays them).
  Texts of this proof, joined, with few blanks: LTpGrows, TopGrows.
-/
import Derived.Test.YtflkfielgfkchaaGreatDoorQ52
import Derived.Test.YtflkfielgfkchaaGreatDoorQ50
set_option maxRecDepth 100000
set_option maxHeartbeats 8000000
open Bool renaming false->G,true->X
open Go.IntKind renaming i64->L,wrap_i64->T
open Go.OpenSpec renaming ofChange->I,preRow_of_cond->g
open Go.Proofs.Tryz renaming prog->B,f10->D,func10->M,checked->R,underlying22->V,params10->Y
open Go.RowKit renaming Hid->N,intOf->c
open Go.Value renaming slice->E,int->b,bool->d,okWide->i,cells->n
open Go.World renaming grownBy->K,holding->P
open Option renaming none->J,some->Q
namespace Go.Proofs.YtflkfielgfkchaaGreatDoor
open Go.RowKit
theorem Wq{S:List Ac}(hok:∀a∈S,Xn a)(m:Nat)(hm:m<S.length){OA OB:Oc}(hA:OA=K2 (Z7 Qn (S.take m)))(hB:OB=K2 (Z7 Qn (S.take (m+1)))):OA.turn<=OB.turn∧OB.turn<=OA.turn+OA.pending∧(OA.turn<OB.turn->(S.getD m JC).kind=2∨(S.getD m JC).kind=3)∧OA.replies.length<=OB.replies.length∧0<=OA.turn∧OA.turn+OA.pending<=300∧0<=OA.pending:=by
 have hok':∀a∈S.take m,Xn a:=fun a ha=>hok a (List.mem_of_mem_take ha);have hG:=uW JK (S.take m) hok';have hA1:Xn (S.getD m JC):=hok _ (by rw[List.getD_eq_getElem?_getD,List.getElem?_eq_getElem hm];exact List.getElem_mem hm);obtain⟨t1,t2,t3⟩:=Eh JK hG hA1;obtain⟨rs,e⟩:=LN Qn (Z7 Qn (S.take m)) (S.getD m JC);have e1:Z7 Qn (S.take (m+1))=Q7 Qn (Z7 Qn (S.take m)) (S.getD m JC):=by rw[Mm hm,Pm]
 rw[<-e1]at t1 t2 t3 e;have h1:=hG.turn;have h2:=hG.many;rw[hA,hB];refine⟨?_,?_,?_,?_,?_,?_,?_⟩;·show((_:Nat):Int)<=((_:Nat):Int);omega
 ·show((_:Nat):Int)<=((_:Nat):Int)+((_:Nat):Int);omega
 ·intro h;exact t3 (by have h':((_:Nat):Int)<((_:Nat):Int):=h;omega)
 ·show(Z7 Qn (S.take m)).out.length<=(Z7 Qn (S.take (m+1))).out.length;rw[e,List.length_append];omega
 ·show(0:Int)<=((_:Nat):Int);omega
 ·show((_:Nat):Int)+((_:Nat):Int)<=300;omega
 ·show(0:Int)<=((_:Nat):Int);omega
theorem Eu(hSC:E0)(w:World)(hP:UD w)(hT:Yz w)(v:Value)(l:List Gr)(hv:JV w v l)(hf:Fy l):Calls B 10 #[v] w fun e w'=>e=.returned (d X)∧K w w' J:=by
 obtain⟨la,lc,rfl⟩:=hv.shape;have SC:N (Calls B 12 #[E la l.length lc,b L 40] w fun e w'=>∃x,e=.returned x∧Jk w.heap.size w' x (XP l 40)∧K w w' J):=hSC w _ l 40 hv hf hP (by decide);obtain⟨S,hS⟩:∃S,S=XP l 40:=⟨_,rfl⟩;have hok:∀a∈S,Xn a:=by rw[hS];exact Rl l 40
 have hlen:S.length<=40:=by rw[hS];exact Rt l 40
 rw[<-hS]at SC;have RN:N (∀w' v m O,O=K2 (Z7 Qn (S.take m))->K w w' J->XH w' v (S.take m)->Calls B 14 #[v] w' (Ee w' O)):=fun w' v m O hO h hv=>Lm w' v _ O hO hv (fun a ha=>hok a (List.mem_of_mem_take ha)) (by rw[List.length_take];omega) (hP.grown h) (hT.grownNone h);obtain⟨O0,hO0⟩:∃O,O=K2 (Z7 Qn (S.take 0)):=⟨_,rfl⟩;have GS:N (∀(m:Nat),m<S.length->∀{OA OB:Oc},OA=K2 (Z7 Qn (S.take m))->OB=K2 (Z7 Qn (S.take (m+1)))->OA.turn<=OB.turn∧OB.turn<=OA.turn+OA.pending∧(OA.turn<OB.turn->(S.getD m JC).kind=2∨(S.getD m JC).kind=3)∧OA.replies.length<=OB.replies.length∧0<=OA.turn∧OA.turn+OA.pending<=300∧0<=OA.pending):=fun m hm _ _ hA hB=>Wq hok m hm hA hB;clear hv hf hP hT hok hS hSC;go_enter M,Tryz.ntmps10;go_upto_region 2with(go_at_call 12;refine SC.out.mono ?_;rintro e w1⟨x1,rfl,hx1,hg1⟩;obtain⟨sa,sc,rfl⟩:=hx1.shape);have HL1:N (XH w1 (E sa S.length sc) S):=hx1.list;have hcap:S.length<=sc:=by obtain⟨a,cap,e,h,_⟩:=HL1.out;simp only[Value.slice.injEq]at e;omega
 have R0:N (Calls B 14 #[E J 0 0] w1 (Ee w1 O0)):=RN.out w1 _ 0 O0 hO0 hg1 (kT w1);have HG1:N (K w w1 J):=hg1;have HO0:N (O0=K2 (Z7 Qn (S.take 0))):=hO0;clear hx1 hg1 SC hO0;go_upto_region 3with(go_at_call 14;refine R0.out.mono ?_;rintro e w2⟨fa,fc,ra,rc,rfl,hx2,hg2⟩);obtain⟨W3,LB,HW3,HLB,hg3,HB3⟩:=RZ w2 O0 fa fc ra rc;rw[<-HW3.out,<-HLB.out];have hLB1:w1.heap.size<=LB:=by rw[HLB.out];exact hg2.size
 have HG3:N (K w1 W3 J):=Qa hg2 hg3;clear hg3 HW3 HLB hx2 hg2 R0;go_wp2_with fail;go_loopw[6](fun iv wr=>∃(m:Nat)(O:Oc)(fa:Option Addr)(fc:Nat)(ra:Option Addr)(rc:Nat),m<=S.length∧iv=b L (m:Int)∧O=K2 (Z7 Qn (S.take m))∧wr.heap[LB]?=Q (.cells #[d O.up,b L O.turn,b L O.pending,E fa O.forest.length fc,E ra O.replies.length rc] 36)∧K w1 wr J)(fun iv _=>S.length-(c iv).toNat);case atStart=>exact⟨0,O0,_,_,_,_,by omega,rfl,HO0.out,HB3.out,HG3.out⟩
 case round=>obtain⟨m,O,fa,fc,ra,rc,hm,rfl,hO,hb,hg⟩:=hrel;have HG:N (K w1 wr J):=hg;have HBB:N (wr.heap[LB]?=Q (.cells #[d O.up,b L O.turn,b L O.pending,E fa O.forest.length fc,E ra O.replies.length rc] 36)):=hb;by_cases hlt:m<S.length;(·(have i1:(m:Int)<(S.length:Int):=by omega);obtain⟨ab,ao,rfl,hat⟩:=HL1.out.at m hlt;obtain⟨OB,hOB⟩:∃O,O=K2 (Z7 Qn (S.take (m+1))):=⟨_,rfl⟩;obtain⟨g1,g2,g3,g4,g5,g6,g7⟩:=GS.out m hlt hO hOB;have RA:N (Calls B 14 #[E (Q ⟨ab,ao,J⟩) (m+1) (m+1)] wr (Ee wr OB)):=RN.out wr _ (m+1) OB hOB (Qa HG1.out hg) ((HL1.out.grown hg).take hlt);have HA:N (RW w1 ab (ao+m*4) (S.getD m JC)):=hat;have HOB:N (OB=K2 (Z7 Qn (S.take (m+1)))):=hOB;generalize S.getD m JC=A at*;(have w1':L.wrap ((m:Int)+1)=((m+1:Nat):Int):=by rw[T];omega);(have s3:((m+1:Nat):Int)<=(sc:Int):=by omega);clear hat hg hO hOB hb;go_upto_region 7with(go_at_call 14;refine RA.out.mono ?_;rintro e wa⟨pfa,pfc,pra,prc,rfl,hxa,hga⟩);obtain⟨W2,AB,HW2,HAB,hg2,HB2⟩:=RZ wa OB pfa pfc pra prc;rw[<-HW2.out,<-HAB.out];(have hAL:AB≠LB:=by have h1:=(Array.getElem?_eq_some_iff.1 (Qc hga HBB.out)).1;have h2:=HAB.out;omega);have HL2:N (_):=Qc (Qa hga hg2) HBB.out;have HG2:N (K w1 W2 J):=Qa HG.out (Qa hga hg2);obtain⟨⟨o0,o1,o2,o3,o4⟩,_⟩:=Qp (Qb W2 J) HB2.out;obtain⟨⟨p0,p1,p2,p3,p4⟩,_⟩:=Qp (Qb W2 J) HL2.out;(have t1:¬(OB.turn<O.turn):=by omega);(have t2:¬((OB.replies.length:Int)<(O.replies.length:Int)):=by omega);(have t3:L.wrap (O.turn+O.pending)=O.turn+O.pending:=by rw[T];omega);(have t4:¬(O.turn+O.pending<OB.turn):=by omega);clear HAB HW2 hg2 hga hxa RA g1 g2 g4 g5 g6 g7;obtain⟨z0,z1,z2,z3,z4⟩:=(Qp (Qb W2 J) HL2.out).2.1;(have HK:N ((OB.turn<=O.turn∨(O.turn<OB.turn∧A.kind=2)∨(O.turn<OB.turn∧A.kind=3∧¬A.kind=2))):=by by_cases ht:O.turn<OB.turn;(·rcases g3 ht with h|h;(·exact .inr (.inl ⟨ht,h⟩));·exact .inr (.inr ⟨ht,h,by omega⟩));·exact .inl (by omega));obtain⟨vd,c1,c2,c3,c4,s1⟩:=RW.grown HA.out HG2.out;clear c2 c3 c4 s1 g3;rcases HK.out with ht|⟨ht,hk⟩|⟨ht,hk,hk2⟩;(·(have t5:¬(O.turn<OB.turn):=by omega);clear HK;go_upto_region 11with fail;go_wp2_with fail;go_roundw;(case rel=>exact⟨m+1,OB,pfa,pfc,pra,prc,hlt,by go_num,HOB.out,VV HL2.out _ _ _ _ _,K5 HG2.out hLB1 _ _ _ _ _⟩);case measure=>simp[c];omega);(·(have t6:(A.kind !=2)=G:=by simp[hk]);clear HK hk;go_upto_region 11with fail;go_wp2_with fail;go_roundw;(case rel=>exact⟨m+1,OB,pfa,pfc,pra,prc,hlt,by go_num,HOB.out,VV HL2.out _ _ _ _ _,K5 HG2.out hLB1 _ _ _ _ _⟩);case measure=>simp[c];omega);·(have t6:(A.kind !=2)=X:=by simpa using hk2);(have t7:(A.kind !=3)=G:=by simp[hk]);clear HK hk hk2;go_upto_region 11with fail;go_wp2_with fail;go_roundw;(case rel=>exact⟨m+1,OB,pfa,pfc,pra,prc,hlt,by go_num,HOB.out,VV HL2.out _ _ _ _ _,K5 HG2.out hLB1 _ _ _ _ _⟩);case measure=>simp[c];omega);·(obtain rfl:m=S.length:=by omega);(have i1:¬((S.length:Int)<(S.length:Int)):=by omega);clear hO hb hg;go_wp2_with fail;go_ret;exact⟨rfl,Qa HG1.out HG.out⟩
section
open Go.ChangeShapes Go.WideShapes Go.ChangeAt Go.RowKit
namespace topGrows
theorem contract(H:Type)(enc:TypeId×Value->H)(W:World)(base:Nat)(args:Array Value)(ds gs:List (DataW H))(before:List MemPlace)(hval:∀(j:Nat)t v,D.params[j]?=Q t->args[j]?=Q v->i B W .any base t v)(hW:DataW.Whole enc B D.params.toList Rows.topGrowsSpec.vars G W args.toList ds gs before)(_hL:laidMetH B Rows.topGrowsRow.laid W)(hsz0:(DataW.weightsEach B (D.params.toList++(I Rows.topGrowsSpec).bare.plain.varTypes B) (ds++gs)).all (·<=reachBytes)=X):Calls B 10 args W fun e W'=>∃v,e=.returned v∧Rows.topGrowsSpec.post enc B D G X G G W args v W':=by
 have hW':=hW;obtain⟨p,q,hA0,hV,rfl,hfz,hnd⟩:=hW;have hA:DataW.TrodAll enc B W 0 (fun _=>X) X D.params.toList args.toList ds p:=hA0;have hsz:=hsz0;rw[Y]at hA hval hsz;obtain⟨v0,vs0,d0,ds0,p0,q0,hargs,rfl,rfl,h0,r0⟩:=trodAll_cons hA;obtain⟨rfl,rfl,rfl⟩:=trodAll_nil r0;obtain rfl:args=#[v0]:=by cases args;simp_all
 obtain⟨rfl,rfl⟩:=trodVars_none hV;obtain⟨a0,CX,cap0,rfl⟩:=okWide_slice V (hval 0 22 v0 rfl rfl);have k0:=h0;have lt0:∀x∈p0,x.block<W.heap.size:=by obtain⟨m,hm⟩:=k0;exact DataW.trod_lt m _ _ _ hm
 obtain⟨l0,hsl0,hfit0⟩:∃l,JV W (E a0 CX cap0) l∧Fy l:=by obtain⟨fuel,hf⟩:=h0;exact Ef V Tryz.underlying61 (by kernel_rfl) rfl rfl rfl rfl rfl rfl rfl rfl rfl rfl (x:=(d0,p0)) (by simpa[n]using hf)
 clear hA0;refine(Eu An W (Te _hL).1 (Te _hL).2 _ l0 hsl0 hfit0).mono fun e W'⟨he,hg⟩=>?_;subst he;have bel:=CJ hg;exact⟨_,rfl,_,_,_,[],_,[],hW',trodAll_mk1 (shut_bool Tryz.underlying4 _),(trodAll_cons_mk (Below.trod Lw (by kernel_rfl) (of_decide_eq_true (by kernel_rfl)) k0 bel lt0) trodAll_mk0),rfl,bel.frame _,fun h=>by cases h⟩
theorem Rk(os:Os):laidMet B Rows.topGrowsRow.laid ((VH (P B os ⟨#[],#[],[]⟩)).forCall (fun _ _=>0) ⟨#[],#[E J 0 0],[]⟩).memory:=laidMet_of_run' 30 (by
 kernel_rfl) (by
 kernel_rfl)
theorem reads(os:Os){H:Type}(enc:TypeId×Value->H):∃places,DataW.whole enc B ((VH (P B os ⟨#[],#[],[]⟩)).forCall (fun _ _=>0) ⟨#[],#[E J 0 0],[]⟩).memory D.params.toList Rows.topGrowsSpec.vars G (#[E J 0 0]:Array Value).toList 8=Q ([.nil],[],places):=⟨[],by
 kernel_rfl⟩
theorem AI(os:Os)(started:os.Started)(H:Type)(enc:TypeId×Value->H)(F:Stop.Interp):ReturnsInHanded {} R os 10 .any ((I Rows.topGrowsSpec).preRow enc B D Rows.topGrowsRow.domain G Rows.topGrowsRow.laid) (((I Rows.topGrowsSpec).at F).post enc B D G X G G):=by
 obtain⟨places,hx⟩:=reads os enc;refine returnsInHanded_of_row (C:=R) (s:=I Rows.topGrowsSpec) own started (by kernel_rfl) M (witness_row_at (enc:=enc) (C:=R) G (VH (P B os ⟨#[],#[],[]⟩)) #[E J 0 0] rfl (by kernel_rfl) (by kernel_rfl) (by kernel_rfl) (g 8 hx (by kernel_rfl) (fun k hk=>by cases hk) (by kernel_rfl) (Rk os))) ?_;intro W base args ds gs before hval hW _ _ hsz hL _ _;exact contract H enc W base args ds gs before hval hW hL hsz
theorem said:Rows.TopGrowsSaid:=OpenClaim.holds_of_cond 10 D rfl rfl rfl rfl rfl rfl rfl ⟨rfl,rfl,rfl,rfl,rfl⟩ rfl rfl rfl rfl rfl (by
 kernel_rfl) M (by
 kernel_rfl) (of_decide_eq_true (by
 kernel_rfl)) (by
 unfold Func.isWrapper;first|(rw[if_pos (by decide+kernel)];kernel_rfl)|(rw[if_neg (by decide+kernel)];exact⟨rfl,rfl⟩)) (fun os started H enc _ F=>by
 rw[OpenClaim.pre_eq_preRow];exact AI os started H enc F)
theorem plain(f:FuncId)(fn:Func)(hf:Tryz.pinned.checked.prog.funcNamed "canopy/canopytop.TopGrows"=Q f)(hfn:Tryz.pinned.checked.prog.funcs[f]?=Q fn):G=Tryz.pinned.checked.prog.looks []∧∀(j:Nat)t,fn.params[j]?=Q t->Tryz.pinned.checked.prog.wantsStandIn t=G:=by
 obtain rfl:f=10:=Option.some.inj ((show B.funcNamed "canopy/canopytop.TopGrows"=Q 10by kernel_rfl).symm.trans hf)|>.symm;obtain rfl:fn=D:=(Option.some.inj (M.symm.trans hfn)).symm;refine⟨by kernel_rfl,fun j t ht=>?_⟩;rw[Y]at ht;have hall:∀t∈[22],B.wantsStandIn t=G:=by intro t ht;rcases List.mem_cons.1 ht with rfl|ht;(·exact(show B.wantsStandIn 22=G by kernel_rfl));cases ht
 exact hall t (by have:=Array.mem_of_getElem? ht;simpa using this)
end topGrows
theorem topGrows_card:Rows.TopGrowsCardSaid:=Claim7.holds_tied_plain_at .later [] _ _ _ _ topGrows.said (fun _ h=>by
 cases h) (by
 kernel_rfl) (fun _ h=>by
 cases h) topGrows_row_tie rfl ⟨rfl,rfl⟩ (by
 kernel_rfl) rfl topGrows.plain (by
 kernel_rfl)
end
end Go.Proofs.YtflkfielgfkchaaGreatDoor
