/-
  Texts of this proof, joined, with few blanks: WpT.
-/
import Derived.RegionTactic
set_option maxRecDepth 100000
set_option maxHeartbeats 8000000
namespace Go.Proofs.YtpdbpagohccbpaaGreatDoor
section
open Go
theorem QC{P:Program}{md:Region.Mode}{ops:Array Oper}{Q:Exit->Act->World->Prop}(i:Nat)(v:Value){oi:Oper}{fuel:Nat}{listed:Array Bool}{a:Act}{w:World}(hi:ops[i]?=some oi)(h:wpAny P md ops Q fuel (listed.setIfInBounds i true) (a.put oi.dst v) w)(hs:Region.noSelect ops=true:=by
 kernel_rfl)(hf:Region.free md ops listed i=true:=by
 kernel_rfl)(hr:(Region.ready md ops listed).contains i=true:=by
 kernel_rfl)(hQ:∀c a w,Q (.panic c) (a.put oi.dst v) w->Q (.panic c) a w:=by
 exact fun _ _ _ h=>h)(hw:Region.wanted oi (yielded ops a.tmps)=true:=by
 kernel_rfl)(hy:∀w,(execOp a.eval oi).run P w=.ok (.value v) w:=by
 intro w;go_simp;try with_reducible rfl):wpAny P md ops Q (fuel+1) listed a w:=wpAny_take hi hs hf hr hQ (.inl ⟨hw,hy⟩) h
theorem Sq{P:Program}{md:Region.Mode}{ops:Array Oper}{Q:Exit->Act->World->Prop}(i:Nat){oi:Oper}{fuel:Nat}{listed:Array Bool}{a:Act}{w:World}(hi:ops[i]?=some oi)(h:wpAny P md ops Q fuel (listed.setIfInBounds i true) (a.put oi.dst undef) w)(hs:Region.noSelect ops=true:=by
 kernel_rfl)(hf:Region.free md ops listed i=true:=by
 kernel_rfl)(hr:(Region.ready md ops listed).contains i=true:=by
 kernel_rfl)(hQ:∀c a w,Q (.panic c) (a.put oi.dst undef) w->Q (.panic c) a w:=by
 exact fun _ _ _ h=>h)(hw:Region.wanted oi (yielded ops a.tmps)=false:=by
 kernel_rfl):wpAny P md ops Q (fuel+1) listed a w:=wpAny_take hi hs hf hr hQ (.inr ⟨hw,rfl⟩) h
theorem QW{P:Program}{md:Region.Mode}{ops:Array Oper}{Q:Exit->Act->World->Prop}(rs:List Nat){fuel:Nat}{listed:Array Bool}{a:Act}{w:World}(h:AllReady P md ops Q fuel listed a w rs)(hr:Region.ready md ops listed=rs:=by
 kernel_rfl)(hne:rs≠[]:=by
 simp):wpAny P md ops Q (fuel+1) listed a w:=wpAny_ready hr hne h
end
end Go.Proofs.YtpdbpagohccbpaaGreatDoor
