/-
  canopytop.TopTurns returns true at every argument and leaves its arguments as they were: the tied card. Conditions: those of the card alone (the listed variables start as the program's text lays them).
  Texts of this proof, joined, with few blanks: TopTurns.
-/
import Derived.Test.YtaljfgkjfogmeaaGreatDoorQ42
import Derived.Test.YtaljfgkjfogmeaaGreatDoorQ50
set_option maxRecDepth 100000
set_option maxHeartbeats 8000000
open Bool renaming false->E,true->M
open Go.OpenSpec renaming ofChange->D,preRow_of_cond->N
open Go.Proofs.Tryz renaming prog->A,f4->B,checked->I,func4->J,underlying22->K,params4->L
open Go.World renaming holding->G
namespace Go.Proofs.YtaljfgkjfogmeaaGreatDoor
section
open Go.ChangeShapes Go.WideShapes Go.ChangeAt Go.RowKit
namespace topTurns
theorem contract(H:Type)(enc:TypeId×Value->H)(W:World)(base:Nat)(args:Array Value)(ds gs:List (DataW H))(before:List MemPlace)(hval:∀(j:Nat)t v,B.params[j]?=some t->args[j]?=some v->Value.okWide A W .any base t v)(hW:DataW.Whole enc A B.params.toList Rows.topTurnsSpec.vars E W args.toList ds gs before)(_hL:laidMetH A Rows.topTurnsRow.laid W)(hsz0:(DataW.weightsEach A (B.params.toList++(D Rows.topTurnsSpec).bare.plain.varTypes A) (ds++gs)).all (·<=reachBytes)=M):Calls A 4 args W fun e W'=>∃v,e=.returned v∧Rows.topTurnsSpec.post enc A B E M E E W args v W':=by
 have hW':=hW;obtain⟨p,q,hA0,hV,rfl,hfz,hnd⟩:=hW;have hA:DataW.TrodAll enc A W 0 (fun _=>M) M B.params.toList args.toList ds p:=hA0;have hsz:=hsz0;rw[L]at hA hval hsz;obtain⟨v0,vs0,d0,ds0,p0,q0,hargs,rfl,rfl,h0,r0⟩:=trodAll_cons hA;obtain⟨rfl,rfl,rfl⟩:=trodAll_nil r0;obtain rfl:args=#[v0]:=by cases args;simp_all
 obtain⟨rfl,rfl⟩:=trodVars_none hV;obtain⟨a0,cI,cap0,rfl⟩:=okWide_slice K (hval 0 22 v0 rfl rfl);have k0:=h0;have lt0:∀x∈p0,x.block<W.heap.size:=by obtain⟨m,hm⟩:=k0;exact DataW.trod_lt m _ _ _ hm
 obtain⟨l0,hsl0,hfit0⟩:∃l,UL W (.slice a0 cI cap0) l∧S5 l:=by obtain⟨fuel,hf⟩:=h0;exact fI K Tryz.underlying71 (by kernel_rfl) rfl rfl rfl rfl rfl rfl rfl rfl rfl rfl (x:=(d0,p0)) (by simpa[Value.cells]using hf)
 clear hA0;refine(aJ eK W (gX _hL).1 (gX _hL).2 _ l0 hsl0 hfit0).mono fun e W'⟨he,hg⟩=>?_;subst he;have bel:=gE hg;exact⟨_,rfl,_,_,_,[],_,[],hW',trodAll_mk1 (shut_bool Tryz.underlying4 _),(trodAll_cons_mk (Below.trod gW (by kernel_rfl) (of_decide_eq_true (by kernel_rfl)) k0 bel lt0) trodAll_mk0),rfl,bel.frame _,fun h=>by cases h⟩
theorem laid_met(os:Os):laidMet A Rows.topTurnsRow.laid ((Lq (G A os ⟨#[],#[],[]⟩)).forCall (fun _ _=>0) ⟨#[],#[.slice none 0 0],[]⟩).memory:=laidMet_of_run' 30 (by
 kernel_rfl) (by
 kernel_rfl)
theorem reads(os:Os){H:Type}(enc:TypeId×Value->H):∃places,DataW.whole enc A ((Lq (G A os ⟨#[],#[],[]⟩)).forCall (fun _ _=>0) ⟨#[],#[.slice none 0 0],[]⟩).memory B.params.toList Rows.topTurnsSpec.vars E (#[Value.slice none 0 0]:Array Value).toList 8=some ([.nil],[],places):=⟨[],by
 kernel_rfl⟩
theorem lifted(os:Os)(started:os.Started)(H:Type)(enc:TypeId×Value->H)(F:Stop.Interp):ReturnsInHanded {} I os 4 .any ((D Rows.topTurnsSpec).preRow enc A B Rows.topTurnsRow.domain E Rows.topTurnsRow.laid) (((D Rows.topTurnsSpec).at F).post enc A B E M E E):=by
 obtain⟨places,hx⟩:=reads os enc;refine returnsInHanded_of_row (C:=I) (s:=D Rows.topTurnsSpec) iJ started (by kernel_rfl) J (witness_row_at (enc:=enc) (C:=I) E (Lq (G A os ⟨#[],#[],[]⟩)) #[.slice none 0 0] rfl (by kernel_rfl) (by kernel_rfl) (by kernel_rfl) (N 8 hx (by kernel_rfl) (fun k hk=>by cases hk) (by kernel_rfl) (laid_met os))) ?_;intro W base args ds gs before hval hW _ _ hsz hL _ _;exact contract H enc W base args ds gs before hval hW hL hsz
theorem said:Rows.TopTurnsSaid:=OpenClaim.holds_of_cond 4 B rfl rfl rfl rfl rfl rfl rfl ⟨rfl,rfl,rfl,rfl,rfl⟩ rfl rfl rfl rfl rfl (by
 kernel_rfl) J (by
 kernel_rfl) (of_decide_eq_true (by
 kernel_rfl)) (by
 unfold Func.isWrapper;first|(rw[if_pos (by decide+kernel)];kernel_rfl)|(rw[if_neg (by decide+kernel)];exact⟨rfl,rfl⟩)) (fun os started H enc _ F=>by
 rw[OpenClaim.pre_eq_preRow];exact lifted os started H enc F)
theorem plain(f:FuncId)(fn:Func)(hf:Tryz.pinned.checked.prog.funcNamed "canopy/canopytop.TopTurns"=some f)(hfn:Tryz.pinned.checked.prog.funcs[f]?=some fn):E=Tryz.pinned.checked.prog.looks []∧∀(j:Nat)t,fn.params[j]?=some t->Tryz.pinned.checked.prog.wantsStandIn t=E:=by
 obtain rfl:f=4:=Option.some.inj ((show A.funcNamed "canopy/canopytop.TopTurns"=some 4by kernel_rfl).symm.trans hf)|>.symm;obtain rfl:fn=B:=(Option.some.inj (J.symm.trans hfn)).symm;refine⟨by kernel_rfl,fun j t ht=>?_⟩;rw[L]at ht;have hall:∀t∈[22],A.wantsStandIn t=E:=by intro t ht;rcases List.mem_cons.1 ht with rfl|ht;(·exact(show A.wantsStandIn 22=E by kernel_rfl));cases ht
 exact hall t (by have:=Array.mem_of_getElem? ht;simpa using this)
end topTurns
theorem topTurns_card:Rows.TopTurnsCardSaid:=Claim7.holds_tied_plain_at .later [] _ _ _ _ topTurns.said (fun _ h=>by
 cases h) (by
 kernel_rfl) (fun _ h=>by
 cases h) topTurns_row_tie rfl ⟨rfl,rfl⟩ (by
 kernel_rfl) rfl topTurns.plain (by
 kernel_rfl)
end
end Go.Proofs.YtaljfgkjfogmeaaGreatDoor
