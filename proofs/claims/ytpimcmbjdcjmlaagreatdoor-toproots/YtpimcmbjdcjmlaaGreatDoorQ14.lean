/-
  Texts of this proof, joined, with few blanks: CmpB.
-/
import Derived.Lib.BytesEntry
import Derived.Test.YtpimcmbjdcjmlaaGreatDoorQ1
set_option maxRecDepth 100000
set_option maxHeartbeats 8000000
open Go.Extern.BytealgCompare renaming compare->B,cmp->D
open Go.Extern.Bytes renaming bytesOf->A
open Go.Proofs.Tryz renaming prog->C
namespace Go.Proofs.YtpimcmbjdcjmlaaGreatDoor
open Go.RowKit
def Jf(a b:List UInt8):Int:=if Ym a b=true then-1 else if a=b then 0 else 1
theorem L5:∀a b:List UInt8,Lib.compareBytes a b=Jf a b|[],[]=>rfl|[],y::b=>by(have h:Ym [] (y::b)=true:=by cases h:Ym [] (y::b)with|true=>rfl|false=>have:=J9 _ _ h (by simp);rw[F9]at this;cases this);rw[Jf,if_pos h];rfl|x::a,[]=>by rw[Jf,if_neg (by rw[F9];simp),if_neg (by simp)];rfl|x::a,y::b=>by have ih:=L5 a b;rw[Lib.compareBytes,ih];unfold Jf;rw[vY];by_cases h1:x<y;(·simp[h1]);·by_cases h2:y<x;(·(have h3:x≠y:=by intro e;subst e;exact h1 h2);simp[h1,h2,h3]);·(have h3:x=y:=by have e1:=UInt8.not_lt.1 h1;have e2:=UInt8.not_lt.1 h2;exact UInt8.le_antisymm e2 e1);subst h3;simp[h1]
theorem MP(a b:List UInt8)(h:Ym a b=true):Jf a b=-1:=by
 rw[Jf,if_pos h]
theorem MS(a:List UInt8):Jf a a=0:=by
 rw[Jf,if_neg (by rw[Xy];simp),if_pos rfl]
theorem MQ(a b:List UInt8)(h:Ym a b=false)(hne:a≠b):Jf a b=1:=by
 rw[Jf,if_neg (by rw[h];simp),if_neg hne]
theorem uK(a b:List UInt8):decide (Jf a b<0)=Ym a b:=by
 cases h:Ym a b with|true=>rw[MP a b h];rfl|false=>by_cases h2:a=b;(·subst h2;rw[MS];rfl);·rw[MQ a b h h2];rfl
theorem Ig(a b:List UInt8):(Jf a b==0)=decide (a=b):=by
 by_cases h2:a=b;·subst h2;rw[MS];simp
 ·cases h:Ym a b with|true=>rw[MP a b h];simp[h2]|false=>rw[MQ a b h h2];simp[h2]
theorem Fp(w:World)(v:Value)(a:List UInt8)(h:Qe w v a):(A v).run C w=.ok ⟨a.toArray⟩ w:=by
 obtain⟨ad,cap,rfl,hc,h⟩:=h;have key:∀x:Addr,(∀j y,(a.map fun c=>(c.toNat:Int))[j]?=some y->w.cell? (x.add j)=some (.int .u8 y))->(A (.slice (some x) a.length cap)).run C w=.ok ⟨a.toArray⟩ w:=by intro x hx;have hl:=Lib.run_loadBytesX (P:=C) w (a.map fun c=>(c.toNat:Int)) x .empty hx;rw[List.length_map]at hl;(have e:(⟨ByteArray.empty.data++(Lib.bytesOf (a.map fun c=>(c.toNat:Int))).toArray⟩:ByteArray)=⟨a.toArray⟩:=by apply ByteArray.ext;show(#[]:Array UInt8)++(Lib.bytesOf (a.map fun c=>(c.toNat:Int))).toArray=a.toArray;simp only[Lib.bytesOf,List.map_map,Array.empty_append,Array.mk.injEq];congr 1;exact(List.map_congr_left fun c _=>by simp).trans (List.map_id a));rw[e]at hl;simpa only[A]using hl
 rcases h with⟨rfl,h⟩|⟨b,o,rfl,h⟩;·cases ad with|none=>rfl|some x=>exact key x fun j y hy=>by simp at hy
 ·refine key ⟨b,o,none⟩ fun j y hy=>?_;rw[List.getElem?_map]at hy;cases hj:a[j]?with|none=>rw[hj]at hy;simp at hy|some c=>rw[hj]at hy;simp at hy;subst hy;have hlt:j<a.length:=(List.getElem?_eq_some_iff.1 hj).1;rw[ZX,h j hlt];simp[hj]
theorem C6(w:World)(v u:Value)(a b:List UInt8)(hv:Qe w v a)(hu:Qe w u b):(B #[v,u]).run C w=.ok (.int .i64 (Jf a b)) w:=by
 change Sem.run C (do pure (goInt (D (<-A v) (<-A u)))) w=_;simp only[Sem.run_bind,Sem.run_pure,Fp w v a hv,Fp w u b hu,Result.andThen];rw[Lib.cmp_eq,L5];rfl
theorem JV(w:World)(v u:Value)(a b:List UInt8)(hv:Qe w v a)(hu:Qe w u b):Calls C 83 #[v,u] w fun e w'=>e=.returned (.int .i64 (Jf a b))∧w'=w:=by
 have hrun:=C6 w v u a b hv hu;obtain⟨va,vc,rfl⟩:∃x c,v=.slice x a.length c:=by obtain⟨x,c,e,_⟩:=hv;exact⟨x,c,e⟩
 obtain⟨ua,uc,rfl⟩:∃x c,u=.slice x b.length c:=by obtain⟨x,c,e,_⟩:=hu;exact⟨x,c,e⟩
 have HR:Hid ((B #[.slice va a.length vc,.slice ua b.length uc]).run C w=.ok (.int .i64 (Jf a b)) w):=hrun;clear hrun hv hu;go_enter Tryz.func83,Tryz.ntmps83;go_wp2;rw[run_callFunc_extern Tryz.func110 (by kernel_rfl) (by kernel_rfl) (by kernel_rfl) (e:=B) (by kernel_rfl),HR.out];simp only[Result.andThen];rw[Oper.upon_value];go_wp2;go_ret;exact⟨rfl,rfl⟩
end Go.Proofs.YtpimcmbjdcjmlaaGreatDoor
