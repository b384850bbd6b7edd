/-
  Texts of this proof, joined, with few blanks: CmpB.
-/
import Derived.Lib.BytesEntry
import Derived.Test.YtpimcmbjdcjmlaaGreatDoorQ1
set_option maxRecDepth 100000
set_option maxHeartbeats 8000000
open Go.Extern.BytealgCompare renaming compare->B,cmp->D
open Go.Extern.Bytes renaming bytesOf->A
open Go.Proofs.Tryz renaming prog->C
namespace Go.Proofs.YtpimcmbjdcjmlaaGreatDoor
open Go.RowKit
def Jg(a b:List UInt8):Int:=if YE a b=true then-1 else if a=b then 0 else 1
theorem Ls:∀a b:List UInt8,Lib.compareBytes a b=Jg a b|[],[]=>rfl|[],y::b=>by(have h:YE [] (y::b)=true:=by cases h:YE [] (y::b)with|true=>rfl|false=>have:=UH _ _ h (by simp);rw[FN]at this;cases this);rw[Jg,if_pos h];rfl|x::a,[]=>by rw[Jg,if_neg (by rw[FN];simp),if_neg (by simp)];rfl|x::a,y::b=>by have j:=Ls a b;rw[Lib.compareBytes,j];unfold Jg;rw[vP];by_cases c:x<y;(·simp[c]);·by_cases d:y<x;(·(have f:x≠y:=by intro e;subst e;exact c d);simp[c,d,f]);·(have f:x=y:=by have g:=UInt8.not_lt.1 c;have i:=UInt8.not_lt.1 d;exact UInt8.le_antisymm i g);subst f;simp[c]
theorem Me(a b:List UInt8)(h:YE a b=true):Jg a b=-1:=by
 rw[Jg,if_pos h]
theorem Mh(a:List UInt8):Jg a a=0:=by
 rw[Jg,if_neg (by rw[X8];simp),if_pos rfl]
theorem Mf(a b:List UInt8)(h:YE a b=false)(hne:a≠b):Jg a b=1:=by
 rw[Jg,if_neg (by rw[h];simp),if_neg hne]
theorem uE(a b:List UInt8):decide (Jg a b<0)=YE a b:=by
 cases h:YE a b with|true=>rw[Me a b h];rfl|false=>by_cases c:a=b;(·subst c;rw[Mh];rfl);·rw[Mf a b h c];rfl
theorem Wt(a b:List UInt8):(Jg a b==0)=decide (a=b):=by
 by_cases c:a=b;·subst c;rw[Mh];simp
 ·cases h:YE a b with|true=>rw[Me a b h];simp[c]|false=>rw[Mf a b h c];simp[c]
theorem Fa(w:World)(v:Value)(a:List UInt8)(h:Qe w v a):(A v).run C w=.ok ⟨a.toArray⟩ w:=by
 obtain⟨i,cap,rfl,l,h⟩:=h;have key:∀x:Addr,(∀j y,(a.map fun c=>(c.toNat:Int))[j]?=some y->w.cell? (x.add j)=some (.int .u8 y))->(A (.slice (some x) a.length cap)).run C w=.ok ⟨a.toArray⟩ w:=by intro x k;have f:=Lib.run_loadBytesX (P:=C) w (a.map fun c=>(c.toNat:Int)) x .empty k;rw[List.length_map]at f;(have e:(⟨ByteArray.empty.data++(Lib.bytesOf (a.map fun c=>(c.toNat:Int))).toArray⟩:ByteArray)=⟨a.toArray⟩:=by apply ByteArray.ext;show(#[]:Array UInt8)++(Lib.bytesOf (a.map fun c=>(c.toNat:Int))).toArray=a.toArray;simp only[Lib.bytesOf,List.map_map,Array.empty_append,Array.mk.injEq];congr 1;exact(List.map_congr_left fun c _=>by simp).trans (List.map_id a));rw[e]at f;simpa only[A]using f
 rcases h with⟨rfl,h⟩|⟨b,o,rfl,h⟩;·cases i with|none=>rfl|some x=>exact key x fun j y d=>by simp at d
 ·refine key ⟨b,o,none⟩ fun j y d=>?_;rw[List.getElem?_map]at d;cases hj:a[j]?with|none=>rw[hj]at d;simp at d|some c=>rw[hj]at d;simp at d;subst d;have g:j<a.length:=(List.getElem?_eq_some_iff.1 hj).1;rw[Z6,h j g];simp[hj]
theorem Cf(w:World)(v u:Value)(a b:List UInt8)(hv:Qe w v a)(hu:Qe w u b):(B #[v,u]).run C w=.ok (.int .i64 (Jg a b)) w:=by
 change Sem.run C (do pure (goInt (D (<-A v) (<-A u)))) w=_;simp only[Sem.run_bind,Sem.run_pure,Fa w v a hv,Fa w u b hu,Result.andThen];rw[Lib.cmp_eq,Ls];rfl
theorem JS(w:World)(v u:Value)(a b:List UInt8)(hv:Qe w v a)(hu:Qe w u b):Calls C 83 #[v,u] w fun e w'=>e=.returned (.int .i64 (Jg a b))∧w'=w:=by
 have d:=Cf w v u a b hv hu;obtain⟨i,j,rfl⟩:∃x c,v=.slice x a.length c:=by obtain⟨x,c,e,_⟩:=hv;exact⟨x,c,e⟩
 obtain⟨g,h,rfl⟩:∃x c,u=.slice x b.length c:=by obtain⟨x,c,e,_⟩:=hu;exact⟨x,c,e⟩
 have f:Hid ((B #[.slice i a.length j,.slice g b.length h]).run C w=.ok (.int .i64 (Jg a b)) w):=d;clear d hv hu;go_enter Tryz.func83,Tryz.ntmps83;go_wp2;rw[run_callFunc_extern Tryz.func110 (by kernel_rfl) (by kernel_rfl) (by kernel_rfl) (e:=B) (by kernel_rfl),f.out];simp only[Result.andThen];rw[Oper.upon_value];go_wp2;go_ret;exact⟨rfl,rfl⟩
end Go.Proofs.YtpimcmbjdcjmlaaGreatDoor
