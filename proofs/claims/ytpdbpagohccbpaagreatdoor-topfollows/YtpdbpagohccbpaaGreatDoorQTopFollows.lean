/-
  canopytop.TopFollows returns true at every argument and leaves its arguments as they were: the tied card. Conditions: those of the card alone (the listed variables start as the program's text lays them).
  Texts of this proof, joined, with few blanks: LTpFollow, TopFollows.
-/
import Derived.Test.YtpdbpagohccbpaaGreatDoorQ48
set_option maxRecDepth 100000
set_option maxHeartbeats 8000000
open Bool renaming false->tD,true->tI
open Go.OpenSpec renaming ofChange->tC,preRow_of_cond->tL
open Go.Proofs.Tryz renaming prog->tA,f3->tB,func3->tF,checked->tH,underlying22->tJ,params3->tK
open Go.World renaming grownBy->tE,holding->tG
namespace Go.Proofs.YtpdbpagohccbpaaGreatDoor
open Go.RowKit
theorem Fj(w:World)(hP:KV w)(hT:X8 w)(v:Value)(l:List Gr)(hv:Kr w v l)(hf:Nb l):Calls tA 3 #[v] w fun e w'=>e=.returned (.bool tI)∧tE w w' none:=by
 obtain⟨P,Q,rfl⟩:=hv.shape;have D:Hid (Calls tA 4 #[.slice P l.length Q,.int .i64 60] w fun e w'=>∃x,e=.returned x∧Nl w.heap.size w' x (Ya l 60)∧tE w w' none):=LA w _ l 60 hv hf hP (by decide);have b:=Ad l 60;obtain⟨S,F⟩:∃S,S=Ya l 60:=⟨_,rfl⟩;have o:∀a∈S,XT a:=by rw[F];exact BP l 60
 rw[<-F]at D b;obtain⟨O,E⟩:∃O,O=Mh (QY Qr S):=⟨_,rfl⟩;have L:Hid (∀w' v,tE w w' none->XG w' v S->Calls tA 5 #[v] w' (eX w' O)):=fun w' v h hv=>aE w' v S O E hv o (by omega) (hP.grown h) (hT.grownNone h);have K:Hid (∀w' a c j k g i,tE w w' none->XG w' (.slice a S.length c) S->VJ w' (.slice g O.replies.length i) O.replies->Calls tA 6 #[.slice a S.length c,.agg #[.bool O.up,.int .i64 O.turn,.int .i64 O.pending,.slice j O.forest.length k,.slice g O.replies.length i]] w' fun e p=>∃x,e=.returned (.tuple #[x,.bool tI])∧tE w' p none):=fun w' a c j k g i h M N=>AJ w' (hP.grown h) (hT.grownNone h) a c S M o b O E j k g i N;clear hv hf hP hT o E F b;go_enter tF,Tryz.ntmps3;go_upto_region 2with(go_at_call 4;refine D.out.mono ?_;rintro e J⟨x1,rfl,f,m⟩;obtain⟨H,I,rfl⟩:=f.shape);have y:Hid (Calls tA 5 #[.slice H S.length I] J (eX J O)):=L.out J _ m f.list;clear L D;go_upto_region 3with(go_at_call 5;refine y.out.mono ?_;rintro e R⟨j,k,g,i,rfl,B,n⟩);obtain⟨z,Z,u,r,d,s⟩:=eR R O j k g i;rw[<-u.out,<-r.out];have t:Hid (tE w z none):=Qa m (Qa n d);have q:Hid (Calls tA 6 #[.slice H S.length I,.agg #[.bool O.up,.int .i64 O.turn,.int .i64 O.pending,.slice j O.forest.length k,.slice g O.replies.length i]] z fun e p=>∃x,e=.returned (.tuple #[x,.bool tI])∧tE z p none):=by obtain⟨vf,vr,e,_,G⟩:=(B.grown d).now;simp only[Value.agg.injEq,Array.mk.injEq,List.cons.injEq,and_true,true_and]at e;obtain⟨rfl,rfl⟩:=e;exact K.out z H I j k g i t.out (f.list.grown (Qa n d)) G
 obtain⟨⟨U,V,W,X,Y⟩,_⟩:=Qp (Qb z none) s.out;clear y K f B m n d u r s;go_upto_region 4with(go_at_call 6;refine q.out.mono ?_;rintro e T⟨x4,rfl,A⟩);have C:Hid (tE w T none):=Qa t.out A;clear q A U V W X Y;go_wp2_with fail;go_ret;exact⟨rfl,C.out⟩
section
open Go.ChangeShapes Go.WideShapes Go.ChangeAt Go.RowKit
namespace topFollows
theorem contract(H:Type)(enc:TypeId×Value->H)(W:World)(base:Nat)(args:Array Value)(ds gs:List (DataW H))(before:List MemPlace)(hval:∀(j:Nat)t v,tB.params[j]?=some t->args[j]?=some v->Value.okWide tA W .any base t v)(hW:DataW.Whole enc tA tB.params.toList Rows.topFollowsSpec.vars tD W args.toList ds gs before)(_hL:laidMetH tA Rows.topFollowsRow.laid W)(hsz0:(DataW.weightsEach tA (tB.params.toList++(tC Rows.topFollowsSpec).bare.plain.varTypes tA) (ds++gs)).all (·<=reachBytes)=tI):Calls tA 3 args W fun e W'=>∃v,e=.returned v∧Rows.topFollowsSpec.post enc tA tB tD tI tD tD W args v W':=by
 have g:=hW;obtain⟨p,q,d,C,rfl,F,J⟩:=hW;have s:DataW.TrodAll enc tA W 0 (fun _=>tI) tI tB.params.toList args.toList ds p:=d;have k:=hsz0;rw[tK]at s hval k;obtain⟨y,M,A,B,w,N,i,rfl,rfl,r,L⟩:=trodAll_cons s;obtain⟨rfl,rfl,rfl⟩:=trodAll_nil L;obtain rfl:args=#[y]:=by cases args;simp_all
 obtain⟨rfl,rfl⟩:=trodVars_none C;obtain⟨z,Hj,c,rfl⟩:=okWide_slice tJ (hval 0 22 y rfl rfl);have u:=r;have n:∀x∈w,x.block<W.heap.size:=by obtain⟨m,I⟩:=u;exact DataW.trod_lt m _ _ _ I
 obtain⟨K,f,a⟩:∃l,Kr W (.slice z Hj c) l∧Nb l:=by obtain⟨o,E⟩:=r;exact AY tJ Tryz.underlying40 (by kernel_rfl) rfl rfl rfl rfl rfl rfl rfl rfl rfl rfl (x:=(A,w)) (by simpa[Value.cells]using E)
 clear d;refine(Fj W (SP _hL).1 (SP _hL).2 _ K f a).mono fun e W'⟨D,G⟩=>?_;subst D;have b:=Oe G;exact⟨_,rfl,_,_,_,[],_,[],g,trodAll_mk1 (shut_bool Tryz.underlying4 _),(trodAll_cons_mk (Below.trod aW (by kernel_rfl) (of_decide_eq_true (by kernel_rfl)) u b n) trodAll_mk0),rfl,b.frame _,fun h=>by cases h⟩
theorem I4(os:Os):laidMet tA Rows.topFollowsRow.laid ((vM (tG tA os ⟨#[],#[],[]⟩)).forCall (fun _ _=>0) ⟨#[],#[.slice none 0 0],[]⟩).memory:=laidMet_of_run' 30 (by
 kernel_rfl) (by
 kernel_rfl)
theorem reads(os:Os){H:Type}(enc:TypeId×Value->H):∃places,DataW.whole enc tA ((vM (tG tA os ⟨#[],#[],[]⟩)).forCall (fun _ _=>0) ⟨#[],#[.slice none 0 0],[]⟩).memory tB.params.toList Rows.topFollowsSpec.vars tD (#[Value.slice none 0 0]:Array Value).toList 8=some ([.nil],[],places):=⟨[],by
 kernel_rfl⟩
theorem eA(os:Os)(started:os.Started)(H:Type)(enc:TypeId×Value->H)(F:Stop.Interp):ReturnsInHanded {} tH os 3 .any ((tC Rows.topFollowsSpec).preRow enc tA tB Rows.topFollowsRow.domain tD Rows.topFollowsRow.laid) (((tC Rows.topFollowsSpec).at F).post enc tA tB tD tI tD tD):=by
 obtain⟨e,m⟩:=reads os enc;refine returnsInHanded_of_row (C:=tH) (s:=tC Rows.topFollowsSpec) g8 started (by kernel_rfl) tF (witness_row_at (enc:=enc) (C:=tH) tD (vM (tG tA os ⟨#[],#[],[]⟩)) #[.slice none 0 0] rfl (by kernel_rfl) (by kernel_rfl) (by kernel_rfl) (tL 8 m (by kernel_rfl) (fun k l=>by cases l) (by kernel_rfl) (I4 os))) ?_;intro W c b g h a d j _ _ f i _ _;exact contract H enc W c b g h a d j i f
theorem said:Rows.TopFollowsSaid:=OpenClaim.holds_of_cond 3 tB rfl rfl rfl rfl rfl rfl rfl ⟨rfl,rfl,rfl,rfl,rfl⟩ rfl rfl rfl rfl rfl (by
 kernel_rfl) tF (by
 kernel_rfl) (of_decide_eq_true (by
 kernel_rfl)) (by
 unfold Func.isWrapper;first|(rw[if_pos (by decide+kernel)];kernel_rfl)|(rw[if_neg (by decide+kernel)];exact⟨rfl,rfl⟩)) (fun c a H b _ F=>by
 rw[OpenClaim.pre_eq_preRow];exact eA c a H b F)
theorem plain(f:FuncId)(fn:Func)(hf:Tryz.pinned.checked.prog.funcNamed "canopy/canopytop.TopFollows"=some f)(hfn:Tryz.pinned.checked.prog.funcs[f]?=some fn):tD=Tryz.pinned.checked.prog.looks []∧∀(j:Nat)t,fn.params[j]?=some t->Tryz.pinned.checked.prog.wantsStandIn t=tD:=by
 obtain rfl:f=3:=Option.some.inj ((show tA.funcNamed "canopy/canopytop.TopFollows"=some 3by kernel_rfl).symm.trans hf)|>.symm;obtain rfl:fn=tB:=(Option.some.inj (tF.symm.trans hfn)).symm;refine⟨by kernel_rfl,fun j t a=>?_⟩;rw[tK]at a;have b:∀t∈[22],tA.wantsStandIn t=tD:=by intro t a;rcases List.mem_cons.1 a with rfl|a;(·exact(show tA.wantsStandIn 22=tD by kernel_rfl));cases a
 exact b t (by have:=Array.mem_of_getElem? a;simpa using this)
end topFollows
theorem topFollows_card:Rows.TopFollowsCardSaid:=Claim7.holds_tied_plain_at .later [] _ _ _ _ topFollows.said (fun _ h=>by
 cases h) (by
 kernel_rfl) (fun _ h=>by
 cases h) topFollows_row_tie rfl ⟨rfl,rfl⟩ (by
 kernel_rfl) rfl topFollows.plain (by
 kernel_rfl)
end
end Go.Proofs.YtpdbpagohccbpaaGreatDoor
