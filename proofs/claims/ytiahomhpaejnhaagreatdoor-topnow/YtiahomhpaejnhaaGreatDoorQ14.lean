/-
  Texts of this proof, joined, with few blanks: CmpB.
-/
import Derived.Lib.BytesEntry
import Derived.Test.YtiahomhpaejnhaaGreatDoorQ1
set_option maxRecDepth 100000
set_option maxHeartbeats 8000000
open Go.Extern.BytealgCompare renaming compare->B,cmp->D
open Go.Extern.Bytes renaming bytesOf->A
open Go.Proofs.Tryz renaming prog->C
namespace Go.Proofs.YtiahomhpaejnhaaGreatDoor
open Go.RowKit
def Js(a b:List UInt8):Int:=if YN a b=true then-1 else if a=b then 0 else 1
theorem Wr:∀a b:List UInt8,Lib.compareBytes a b=Js a b|[],[]=>rfl|[],y::b=>by(have h:YN [] (y::b)=true:=by cases h:YN [] (y::b)with|true=>rfl|false=>have:=Uo _ _ h (by simp);rw[TI]at this;cases this);rw[Js,if_pos h];rfl|x::a,[]=>by rw[Js,if_neg (by rw[TI];simp),if_neg (by simp)];rfl|x::a,y::b=>by have j:=Wr a b;rw[Lib.compareBytes,j];unfold Js;rw[PJ];by_cases c:x<y;(·simp[c]);·by_cases d:y<x;(·(have f:x≠y:=by intro e;subst e;exact c d);simp[c,d,f]);·(have f:x=y:=by have g:=UInt8.not_lt.1 c;have i:=UInt8.not_lt.1 d;exact UInt8.le_antisymm i g);subst f;simp[c]
theorem Dm(a b:List UInt8)(h:YN a b=true):Js a b=-1:=by
 rw[Js,if_pos h]
theorem Dq(a:List UInt8):Js a a=0:=by
 rw[Js,if_neg (by rw[XY];simp),if_pos rfl]
theorem Dn(a b:List UInt8)(h:YN a b=false)(hne:a≠b):Js a b=1:=by
 rw[Js,if_neg (by rw[h];simp),if_neg hne]
theorem vR(a b:List UInt8):decide (Js a b<0)=YN a b:=by
 cases h:YN a b with|true=>rw[Dm a b h];rfl|false=>by_cases c:a=b;(·subst c;rw[Dq];rfl);·rw[Dn a b h c];rfl
theorem Od(a b:List UInt8):(Js a b==0)=decide (a=b):=by
 by_cases c:a=b;·subst c;rw[Dq];simp
 ·cases h:YN a b with|true=>rw[Dm a b h];simp[c]|false=>rw[Dn a b h c];simp[c]
theorem F6(w:World)(v:Value)(a:List UInt8)(h:Qe w v a):(A v).run C w=.ok ⟨a.toArray⟩ w:=by
 obtain⟨i,cap,rfl,l,h⟩:=h;have key:∀x:Addr,(∀j y,(a.map fun c=>(c.toNat:Int))[j]?=some y->w.cell? (x.add j)=some (.int .u8 y))->(A (.slice (some x) a.length cap)).run C w=.ok ⟨a.toArray⟩ w:=by intro x k;have f:=Lib.run_loadBytesX (P:=C) w (a.map fun c=>(c.toNat:Int)) x .empty k;rw[List.length_map]at f;(have e:(⟨ByteArray.empty.data++(Lib.bytesOf (a.map fun c=>(c.toNat:Int))).toArray⟩:ByteArray)=⟨a.toArray⟩:=by apply ByteArray.ext;show(#[]:Array UInt8)++(Lib.bytesOf (a.map fun c=>(c.toNat:Int))).toArray=a.toArray;simp only[Lib.bytesOf,List.map_map,Array.empty_append,Array.mk.injEq];congr 1;exact(List.map_congr_left fun c _=>by simp).trans (List.map_id a));rw[e]at f;simpa only[A]using f
 rcases h with⟨rfl,h⟩|⟨b,o,rfl,h⟩;·cases i with|none=>rfl|some x=>exact key x fun j y d=>by simp at d
 ·refine key ⟨b,o,none⟩ fun j y d=>?_;rw[List.getElem?_map]at d;cases hj:a[j]?with|none=>rw[hj]at d;simp at d|some c=>rw[hj]at d;simp at d;subst d;have g:j<a.length:=(List.getElem?_eq_some_iff.1 hj).1;rw[ZS,h j g];simp[hj]
theorem BR(w:World)(v u:Value)(a b:List UInt8)(hv:Qe w v a)(hu:Qe w u b):(B #[v,u]).run C w=.ok (.int .i64 (Js a b)) w:=by
 change Sem.run C (do pure (goInt (D (<-A v) (<-A u)))) w=_;simp only[Sem.run_bind,Sem.run_pure,F6 w v a hv,F6 w u b hu,Result.andThen];rw[Lib.cmp_eq,Wr];rfl
theorem Kk(w:World)(v u:Value)(a b:List UInt8)(hv:Qe w v a)(hu:Qe w u b):Calls C 43 #[v,u] w fun e w'=>e=.returned (.int .i64 (Js a b))∧w'=w:=by
 have d:=BR w v u a b hv hu;obtain⟨i,j,rfl⟩:∃x c,v=.slice x a.length c:=by obtain⟨x,c,e,_⟩:=hv;exact⟨x,c,e⟩
 obtain⟨g,h,rfl⟩:∃x c,u=.slice x b.length c:=by obtain⟨x,c,e,_⟩:=hu;exact⟨x,c,e⟩
 have f:Hid ((B #[.slice i a.length j,.slice g b.length h]).run C w=.ok (.int .i64 (Js a b)) w):=d;clear d hv hu;go_enter Tryz.func43,Tryz.ntmps43;go_wp2;rw[run_callFunc_extern Tryz.func53 (by kernel_rfl) (by kernel_rfl) (by kernel_rfl) (e:=B) (by kernel_rfl),f.out];simp only[Result.andThen];rw[Oper.upon_value];go_wp2;go_ret;exact⟨rfl,rfl⟩
end Go.Proofs.YtiahomhpaejnhaaGreatDoor
