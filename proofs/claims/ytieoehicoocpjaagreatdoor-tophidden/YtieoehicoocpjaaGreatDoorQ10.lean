/-
  Texts of this proof, joined, with few blanks: KSameF, TSameF.
-/
import Derived.Test.YtieoehicoocpjaaGreatDoorQ9
set_option maxRecDepth 100000
set_option maxHeartbeats 8000000
open Go.Ending renaming returned->C
open Go.Proofs.Tryz renaming prog->A
open Go.World renaming grownBy->B
open Option renaming none->D,some->E
namespace Go.Proofs.YtieoehicoocpjaaGreatDoor
open Go.RowKit
theorem FJ(w:World)(v u:Value)(l:FL)(hv:Zf w v l)(hu:Zf w u l)(hl:Uz l):Calls A 22 #[v,u] w fun e w'=>e=C (.bool true)∧B w w' D:=by
 obtain⟨a,cap,rfl⟩:=hv.shape;obtain⟨a2,cap2,rfl⟩:=hu.shape;have hmany:=hl.many;have HF:Hid (Uz l):=hl;clear hl;go_enter Tryz.func22,Tryz.ntmps22;go_wp2_with fail;go_loopw[5](fun i wr=>∃m:Nat,m<=l.length∧i=.int .i64 (m:Int)∧B w wr D)(fun i _=>l.length-(intOf i).toNat);case atStart=>exact⟨0,by omega,rfl,Qb _ _⟩
 case round=>obtain⟨m,hm,rfl,hg⟩:=hrel;by_cases hlt:m<l.length;(·obtain⟨b,o,rfl,hat⟩:=hv.at m hlt;obtain⟨b2,o2,rfl,hat2⟩:=hu.at m hlt;obtain⟨vn,vp,c1,c2,s1,s2⟩:=hat.grown hg;obtain⟨un,up,d1,d2,r1,r2⟩:=hat2.grown hg;obtain⟨hl1,hl2⟩:=HF.out.each m hlt;have hl2':=hl2.len;generalize l.getD m ([],[])=P at*;(have SB:Hid (∀w',B wr w' D->Calls A 39 #[vn,un] w' fun e w''=>e=C (.bool true)∧w''=w'):=fun w' hg'=>by have:=TN w' vn un P.1 P.1 (s1.grown hg') (r1.grown hg');rw[decide_eq_true rfl]at this;exact this);(have SP:Hid (∀w',B wr w' D->Calls A 40 #[vp,up] w' fun e w''=>e=C (.bool true)∧B w' w'' D):=fun w' hg'=>by have:=Ry w' vp up P.2 P.2 (s2.grown hg') (r2.grown hg') hl2';rw[decide_eq_true rfl]at this;exact this);obtain⟨ak,ck,rfl⟩:=s1.shape;obtain⟨av,cv,rfl⟩:=s2.shape;obtain⟨bk,ek,rfl⟩:=r1.shape;obtain⟨bv,ev,rfl⟩:=r2.shape;(have i1:(m:Int)<(l.length:Int):=by omega);have hgd:=Ql (Qb wr D);have e1:=hgd.cell c1 (by simp);have e2:=hgd.cell c2 (by simp);have e3:=hgd.cell d1 (by simp);have e4:=hgd.cell d2 (by simp);generalize P.1.length=n1 at*;generalize P.2.length=n2 at*;clear hat hat2 s1 s2 r1 r2 hl1 hl2 hl2';go_upto_region 6with fail;go_region_held3(fun w'=>w'.cell? ⟨b,o+m*2,D⟩=E (.slice ak n1 ck)∧w'.cell? ⟨b,o+m*2+1,D⟩=E (.slice av n2 cv)∧w'.cell? ⟨b2,o2+m*2,D⟩=E (.slice bk n1 ek)∧w'.cell? ⟨b2,o2+m*2+1,D⟩=E (.slice bv n2 ev))(first|with_reducible exact⟨e1,e2,e3,e4⟩|with_reducible exact⟨f1,f2,f3,f4⟩)(first|(go_at_call 39;with_reducible refine(SB.out _ hgd).mono ?_;rintro e w2⟨rfl,rfl⟩)|(go_at_call 40;with_reducible refine(SP.out _ hgd).mono ?_;rintro e w2⟨rfl,hg2⟩;have hgd2:=Qa hgd hg2;have f1:=hgd2.cell c1 (by simp);have f2:=hgd2.cell c2 (by simp);have f3:=hgd2.cell d1 (by simp);have f4:=hgd2.cell d2 (by simp)));all_goals(go_wp2_with fail;go_roundw;(case rel=>exact⟨m+1,by omega,by go_num,Qa hg hgd2⟩);case measure=>simp[intOf];omega));·(obtain rfl:m=l.length:=by omega);go_wp2;go_ret;exact⟨rfl,hg⟩
theorem By(w:World)(v u:Value)(l:FL)(hv:Zf w v l)(hu:Zf w u l)(hl:Uz l):Calls A 13 #[v,u] w fun e w'=>e=C (.bool true)∧B w w' D:=by
 have PK:Hid (Calls A 22 #[v,u] w fun e w'=>e=C (.bool true)∧B w w' D):=FJ w v u l hv hu hl;clear hv hu hl;go_enter Tryz.func13,Tryz.ntmps13;go_wp2_with(go_at_call 22;refine PK.out.mono ?_;rintro e w2⟨rfl,hg⟩);go_ret;exact⟨rfl,hg⟩
end Go.Proofs.YtieoehicoocpjaaGreatDoor
