/-
  Texts of this proof, joined, with few blanks: CmpB.
-/
import Derived.Lib.BytesEntry
import Derived.Test.YtpdbpagohccbpaaGreatDoorQ1
set_option maxRecDepth 100000
set_option maxHeartbeats 8000000
open Go.Extern.BytealgCompare renaming compare->B,cmp->D
open Go.Extern.Bytes renaming bytesOf->A
open Go.Proofs.Tryz renaming prog->C
namespace Go.Proofs.YtpdbpagohccbpaaGreatDoor
open Go.RowKit
def Y1(a b:List UInt8):Int:=if Yy a b=true then-1 else if a=b then 0 else 1
theorem SR:∀a b:List UInt8,Lib.compareBytes a b=Y1 a b|[],[]=>rfl|[],y::b=>by(have h:Yy [] (y::b)=true:=by cases h:Yy [] (y::b)with|true=>rfl|false=>have:=Up _ _ h (by simp);rw[Fv]at this;cases this);rw[Y1,if_pos h];rfl|x::a,[]=>by rw[Y1,if_neg (by rw[Fv];simp),if_neg (by simp)];rfl|x::a,y::b=>by have j:=SR a b;rw[Lib.compareBytes,j];unfold Y1;rw[vC];by_cases c:x<y;(·simp[c]);·by_cases d:y<x;(·(have f:x≠y:=by intro e;subst e;exact c d);simp[c,d,f]);·(have f:x=y:=by have g:=UInt8.not_lt.1 c;have i:=UInt8.not_lt.1 d;exact UInt8.le_antisymm i g);subst f;simp[c]
theorem NP(a b:List UInt8)(h:Yy a b=true):Y1 a b=-1:=by
 rw[Y1,if_pos h]
theorem NW(a:List UInt8):Y1 a a=0:=by
 rw[Y1,if_neg (by rw[XX];simp),if_pos rfl]
theorem NQ(a b:List UInt8)(h:Yy a b=false)(hne:a≠b):Y1 a b=1:=by
 rw[Y1,if_neg (by rw[h];simp),if_neg hne]
theorem kO(a b:List UInt8):decide (Y1 a b<0)=Yy a b:=by
 cases h:Yy a b with|true=>rw[NP a b h];rfl|false=>by_cases c:a=b;(·subst c;rw[NW];rfl);·rw[NQ a b h c];rfl
theorem Ho(a b:List UInt8):(Y1 a b==0)=decide (a=b):=by
 by_cases c:a=b;·subst c;rw[NW];simp
 ·cases h:Yy a b with|true=>rw[NP a b h];simp[c]|false=>rw[NQ a b h c];simp[c]
theorem PQ(w:World)(v:Value)(a:List UInt8)(h:Qe w v a):(A v).run C w=.ok ⟨a.toArray⟩ w:=by
 obtain⟨i,cap,rfl,l,h⟩:=h;have key:∀x:Addr,(∀j y,(a.map fun c=>(c.toNat:Int))[j]?=some y->w.cell? (x.add j)=some (.int .u8 y))->(A (.slice (some x) a.length cap)).run C w=.ok ⟨a.toArray⟩ w:=by intro x k;have f:=Lib.run_loadBytesX (P:=C) w (a.map fun c=>(c.toNat:Int)) x .empty k;rw[List.length_map]at f;(have e:(⟨ByteArray.empty.data++(Lib.bytesOf (a.map fun c=>(c.toNat:Int))).toArray⟩:ByteArray)=⟨a.toArray⟩:=by apply ByteArray.ext;show(#[]:Array UInt8)++(Lib.bytesOf (a.map fun c=>(c.toNat:Int))).toArray=a.toArray;simp only[Lib.bytesOf,List.map_map,Array.empty_append,Array.mk.injEq];congr 1;exact(List.map_congr_left fun c _=>by simp).trans (List.map_id a));rw[e]at f;simpa only[A]using f
 rcases h with⟨rfl,h⟩|⟨b,o,rfl,h⟩;·cases i with|none=>rfl|some x=>exact key x fun j y d=>by simp at d
 ·refine key ⟨b,o,none⟩ fun j y d=>?_;rw[List.getElem?_map]at d;cases hj:a[j]?with|none=>rw[hj]at d;simp at d|some c=>rw[hj]at d;simp at d;subst d;have g:j<a.length:=(List.getElem?_eq_some_iff.1 hj).1;rw[ZU,h j g];simp[hj]
theorem DX(w:World)(v u:Value)(a b:List UInt8)(hv:Qe w v a)(hu:Qe w u b):(B #[v,u]).run C w=.ok (.int .i64 (Y1 a b)) w:=by
 change Sem.run C (do pure (goInt (D (<-A v) (<-A u)))) w=_;simp only[Sem.run_bind,Sem.run_pure,PQ w v a hv,PQ w u b hu,Result.andThen];rw[Lib.cmp_eq,SR];rfl
theorem JF(w:World)(v u:Value)(a b:List UInt8)(hv:Qe w v a)(hu:Qe w u b):Calls C 85 #[v,u] w fun e w'=>e=.returned (.int .i64 (Y1 a b))∧w'=w:=by
 have d:=DX w v u a b hv hu;obtain⟨i,j,rfl⟩:∃x c,v=.slice x a.length c:=by obtain⟨x,c,e,_⟩:=hv;exact⟨x,c,e⟩
 obtain⟨g,h,rfl⟩:∃x c,u=.slice x b.length c:=by obtain⟨x,c,e,_⟩:=hu;exact⟨x,c,e⟩
 have f:Hid ((B #[.slice i a.length j,.slice g b.length h]).run C w=.ok (.int .i64 (Y1 a b)) w):=d;clear d hv hu;go_enter Tryz.func85,Tryz.ntmps85;go_wp2;rw[run_callFunc_extern Tryz.func112 (by kernel_rfl) (by kernel_rfl) (by kernel_rfl) (e:=B) (by kernel_rfl),f.out];simp only[Result.andThen];rw[Oper.upon_value];go_wp2;go_ret;exact⟨rfl,rfl⟩
end Go.Proofs.YtpdbpagohccbpaaGreatDoor
