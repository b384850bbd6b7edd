/-
  Texts of this proof, joined, with few blanks: CloneP.
-/
import Derived.Lib.SliceRun
import Derived.Test.YtpdbpagohccbpaaGreatDoorQ1
set_option maxRecDepth 100000
set_option maxHeartbeats 8000000
namespace Go.Proofs.YtpdbpagohccbpaaGreatDoor
open Go.RowKit
theorem QR(w:World)(v:Value)(bs:List UInt8)(hv:Qe w v bs)(hl:bs.length<=140737488355328):Calls Tryz.prog 26 #[v] w fun e w'=>∃v',e=.returned v'∧Q6 w.heap.size w' v' bs∧w.grownBy w' none:=by
 obtain⟨a,cap,rfl⟩:∃x c,v=.slice x bs.length c:=by obtain⟨x,c,e,_⟩:=hv;exact⟨x,c,e⟩
 cases a with|none=>(have j:bs=[]:=by obtain⟨l,m,e,n,h⟩:=hv;simp only[Value.slice.injEq,true_and]at e;obtain⟨rfl,rfl⟩:=e;rcases h with h|⟨b,o,e,_⟩;(·exact h.1);·cases e);subst j;have k:=fun(w:World)=>Lib.run_eql_slice_nil (P:=Tryz.prog) w 35 5 none 0 cap 0 0 Tryz.underlying35;go_enter Tryz.func26,Tryz.ntmps26;go_wp2;go_ret;exact⟨_,rfl,QK _ _,Qb _ _⟩|some ad=>have i:Hid (Qe w (.slice (some ad) bs.length cap) bs):=hv;clear hv;have k:=fun(w:World)=>Lib.run_eql_slice_nil (P:=Tryz.prog) w 35 5 (some ad) bs.length cap 0 0 Tryz.underlying35;go_enter Tryz.func26,Tryz.ntmps26;have d:Q6 w.heap.size (w.alloc (.cells #[] 5)) (.slice (some ⟨w.heap.size,0,none⟩) 0 0) []:=FA w.heap.size w [] (Nat.le_refl _) (by unfold maxLen;simp);go_wp2_with(at_builtin;refine QH rfl (.tmp 5) (.tmp 6) rfl w.heap.size (.slice (some ⟨w.heap.size,0,none⟩) 0 0) [] rfl d (some ad) bs.length cap bs rfl (i.out.alloc _) (by simp;omega) (by simp) ?_;intro p q f g);rw[List.nil_append]at f;go_ret;exact⟨_,rfl,f,Xd (World.grownBy_alloc _ _ _) d g⟩
end Go.Proofs.YtpdbpagohccbpaaGreatDoor
