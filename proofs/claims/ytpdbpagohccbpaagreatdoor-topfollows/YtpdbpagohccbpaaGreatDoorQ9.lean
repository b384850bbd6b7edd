/-
  Texts of this proof, joined, with few blanks: TSlDel, FirstF.
-/
import Derived.Deep.RegionLaw
import Derived.Test.YtpdbpagohccbpaaGreatDoorQ5
import Derived.Test.YtpdbpagohccbpaaGreatDoorQ6
set_option maxRecDepth 100000
set_option maxHeartbeats 8000000
open Go renaming sliced->tG,World->tK
open Go.Instr renaming slice->tH
open Go.Proofs.Tryz renaming prog->tA,ntmps116->tN,func116->tP
open Go.Result renaming andThen->tC
open Go.Value renaming slice->tE,int->tI
open Int renaming toNat_natCast->tB
open List renaming take_append_of_le_length->tJ,drop_take->tL,take_take->tM
open Option renaming some->tD,none->tF
namespace Go.Proofs.YtpdbpagohccbpaaGreatDoor
open Go.RowKit
theorem Vd(w:tK):(sizeOf (tA.elem 25)).run tA w=.ok 2 w:=by
 kernel_rfl
theorem Gt(g n cap i:Nat)(hi:i<=cap)(W:tK):(tH 25 (tE (tD ⟨g,0,tF⟩) n cap) tF (tD (tI .i64 (i:Int))) tF).run tA W=.ok (tE (tD ⟨g,0,tF⟩) i cap) W:=by
 rw[run_slice_h _ _ _ _ _ (by kernel_rfl) _ _ (by omega) (by omega),Vd];simp only[tC,tG,tB,Nat.sub_zero];by_cases h:cap=0;·rw[if_pos h]
 ·rw[if_neg h];simp[ZU]
theorem K7(g n cap j:Nat)(hj:j<=n):∃A:Addr,(j<cap->A=⟨g,j*2,tF⟩)∧∀W,(tH 25 (tE (tD ⟨g,0,tF⟩) n cap) (tD (tI .i64 (j:Int))) tF tF).run tA W=.ok (tE (tD A) (n-j) (cap-j)) W:=by
 by_cases h:cap=j;·refine⟨⟨g,0,tF⟩,fun a=>by omega,fun W=>?_⟩;rw[run_slice_l _ _ _ _ _ (by kernel_rfl) _ _ (by omega) (by omega),Vd];simp only[tC,tG,tB];rw[if_pos h]
 ·refine⟨⟨g,j*2,tF⟩,fun _=>rfl,fun W=>?_⟩;rw[run_slice_l _ _ _ _ _ (by kernel_rfl) _ _ (by omega) (by omega),Vd];simp only[tC,tG,tB];rw[if_neg h];simp[ZU]
theorem vN(g n cap i j:Nat)(hij:i<=j)(hj:j<=cap):∃A:Addr,(i<cap->A=⟨g,i*2,tF⟩)∧∀W,(tH 25 (tE (tD ⟨g,0,tF⟩) n cap) (tD (tI .i64 (i:Int))) (tD (tI .i64 (j:Int))) tF).run tA W=.ok (tE (tD A) (j-i) (cap-i)) W:=by
 by_cases h:cap=i;·refine⟨⟨g,0,tF⟩,fun a=>by omega,fun W=>?_⟩;rw[run_slice_lh _ _ _ _ _ (by kernel_rfl) _ _ _ _ (by omega) (by omega) (by omega),Vd];simp only[tC,tG,tB];rw[if_pos h]
 ·refine⟨⟨g,i*2,tF⟩,fun _=>rfl,fun W=>?_⟩;rw[run_slice_lh _ _ _ _ _ (by kernel_rfl) _ _ _ _ (by omega) (by omega) (by omega),Vd];simp only[tC,tG,tB];rw[if_neg h];simp[ZU]
theorem Fc{ops:Array Oper}{o:Oper}{a:Act}{w:tK}{K:Act->tK->Prop}{Q:Exit->Act->tK->Prop}{E:Prop}(hg:o.guard=tF)(d x:Operand)(dT sT:TypeId)(hop:o.op=Op.call {callee:=Callee.builtin Builtin.append,args:=#[d,x],argTypes:=#[dT,sT]})(v u:Value)(hd:a.eval d=v)(hx:a.eval x=u){v':Value}{w':tK}(hr:(Builtin.append_ #[dT,sT] o.type #[v,u]).run tA w=.ok v' w')(hK:K (a.put o.dst v') w'):if Region.wanted o (yielded ops a.tmps)=true then Oper.wp tA o a w K Q else E:=by
 have b:Region.wanted o (yielded ops a.tmps)=true:=by simp[Region.wanted,hg]
 rw[if_pos b];unfold Oper.wp;simp[execOp,hop,resolve,invoke,builtin,hd,hx,hr,tC];exact hK
theorem N5(w:tK)(a:Option Addr)(n cap i:Nat)(hi:i<=n)(hn:n<=cap):Calls tA 116 #[tE a n cap,tI .i64 (i:Int),tI .i64 (i:Int)] w fun e w'=>e=.returned (tE a n cap)∧w'=w:=by
 have b:∀W,(tH 25 (tE a n cap) (tD (tI .i64 (i:Int))) (tD (tI .i64 (i:Int))) (tD (tI .i64 (n:Int)))).run tA W=.ok (tG a i i n 2) W:=fun W=>by rw[run_slice_lhm _ _ _ _ _ (by kernel_rfl) _ _ _ _ _ _ (by omega) (by omega) (by omega) (by omega),Vd];simp only[tC,tB]
 go_enter tP,tN;go_wp2;all_goals(go_ret;exact⟨rfl,rfl⟩)
theorem Di(base:Nat)(w:tK)(g:Nat)(all:List VP)(l:FL)(i:Nat)(hb:YN w g all)(hbase:base<=g)(hla:l.length<=all.length)(hm:all.length<=maxLen)(he:YH 0 w (all.take l.length) l)(hi:i<l.length)(hl:l.length<=1000):Calls tA 116 #[tE (tD ⟨g,0,tF⟩) l.length all.length,tI .i64 (i:Int),tI .i64 ((i+1:Nat):Int)] w fun e w'=>∃v',e=.returned v'∧Zu base w' v' (l.take i++l.drop (i+1))∧w.grownBy w' (tD g):=by
 obtain⟨n,G⟩:∃n,n=l.length:=⟨_,rfl⟩;obtain⟨cap,h⟩:∃cap,cap=all.length:=⟨_,rfl⟩;obtain⟨j,K⟩:∃j,j=i+1:=⟨_,rfl⟩;rw[<-G,<-K];rw[<-G]at he hla hi hl;have F:∃A c,∀W,(tH 25 (tE (tD ⟨g,0,tF⟩) n cap) (tD (tI .i64 (i:Int))) (tD (tI .i64 (j:Int))) (tD (tI .i64 (n:Int)))).run tA W=.ok (tE A (j-i) c) W:=⟨if n=i then tD ⟨g,0,tF⟩else Option.map (fun x:Addr=>x.add (i*2)) (tD ⟨g,0,tF⟩),n-i,fun W=>by rw[run_slice_lhm _ _ _ _ _ (by kernel_rfl) _ _ _ _ _ _ (by omega) (by omega) (by omega) (by omega),Vd];simp only[tC,tB,tG]⟩;obtain⟨Q,R,S⟩:=F;have T:=Gt g n cap i (by omega);obtain⟨H,z,U⟩:=K7 g n cap j (by omega);obtain⟨N,B,V⟩:=vN g (n-1) cap (n-1) n (by omega) (by omega);have D:Hid (∀s,(Builtin.append_ #[25,25] s #[tE (tD ⟨g,0,tF⟩) i cap,tE (tD H) (n-j) (cap-j)]).run tA w.drew=.ok (tE (tD ⟨g,0,tF⟩) (n-1) cap) (Jw w.drew g (all.take i++(all.drop j).take (n-j)++all.drop (n-1)))):=fun s=>by(have p:((all.drop j).take (n-j)).length=n-j:=by simp;omega);have:=Px w.drew g all ((all.drop j).take (n-j)) hb.drew s i H (n-j) (cap-j) p (by by_cases E:j<cap;(·rw[z E];exact hb.drew.cellsT j (n-j));·intro t u L;rw[List.eq_nil_of_length_eq_zero (show((all.drop j).take (n-j)).length=0 by rw[p];omega)]at L;simp[flat]at L) (by omega) (by have P:RQ (all.take n):=he.oneV;intro x M;refine P x ?_;(have e:(all.drop j).take (n-j)=(all.take n).drop j:=by rw[tL]);rw[e]at M;exact List.mem_of_mem_drop M);rw[<-h,show i+(n-j)=n-1by omega]at this;exact this
 obtain⟨a,d⟩:∃a,a=all.take i++(all.drop j).take (n-j)++all.drop (n-1):=⟨_,rfl⟩;rw[<-d]at D;have m:=hb.drew.set a;have r:a.length=cap:=by rw[d];simp;omega
 obtain⟨o,q⟩:∃o,o=Jw w.drew g a:=⟨_,rfl⟩;rw[<-q]at D m;have I:Hid (∀s c,(Builtin.clear_ #[25] s #[tE (tD N) (n-(n-1)) c]).run tA o=.ok (.tuple #[]) (Jw o g (a.take (n-1)++[Eo]++a.drop (n-1+1)))):=fun s c=>by rw[B (by omega),show n-(n-1)=1by omega];exact AM o g a m s (n-1) c (by omega)
 obtain⟨b,f⟩:∃b,b=a.take (n-1)++[Eo]++a.drop (n-1+1):=⟨_,rfl⟩;rw[<-f]at I;have k:b.length=cap:=by rw[f];simp;omega
 have y:Hid (Zu base (Jw o g b) (tE (tD ⟨g,0,tF⟩) (n-1) cap) (l.take i++l.drop j)∧w.grownBy (Jw o g b) (tD g)):=by have J:w.grownBy (Jw o g b) (tD g):=Ye (by rw[q];exact Ye (XO (Ql (Qb _ _))) (KA _ _ _)) (KA _ _ _);refine⟨?_,J⟩;(have C:(l.take i++l.drop j).length=n-1:=by simp;omega);have:=uZ (base:=base) (l:=l.take i++l.drop j) (m.set b) hbase (by omega) (by omega) (by(have e:b.take (l.take i++l.drop j).length=(all.take n).take i++(all.take n).drop j:=by rw[C,f,d];rw[List.append_assoc,tJ (by simp;omega),tM,Nat.min_self,tJ (by simp;omega),List.take_of_length_le (by simp;omega),tM,Nat.min_eq_left (by omega),tL]);rw[e];exact((he.take i).append (he.drop j)).kept J (hb.rowOf (Nat.zero_le _)));rw[C,k]at this;exact this
 have X:((i:Int)==(j:Int))=false:=by simp;omega
 have Y:n-1<=n:=by omega
 rw[<-h];have Z:j<=i+1:=by omega
 have v2:i+1<=j:=by omega
 have v3:n<=cap:=by omega
 have v4:cap<=maxLen:=by omega
 clear d f z B he hb m G h K q r k hm hla;go_enter tP,tN;go_wp2;go_region_law(refine Fc rfl _ _ 25 25 rfl _ _ (by simp[Act.eval,Act.put]) (by simp[Act.eval,Act.put]) (D.out _) ?_);have O:=I.out;go_wp2;go_ret;exact⟨_,rfl,y.out.1,y.out.2⟩
theorem M3(base:Nat)(w:tK)(v:Value)(l:FL)(i j:Nat)(h:Zu base w v l)(hij:j=i∨j=i+1)(hj:j<=l.length)(hl:l.length<=1000):Calls tA 116 #[v,tI .i64 (i:Int),tI .i64 (j:Int)] w fun e w'=>∃v',e=.returned v'∧Zu base w' v' (l.take i++l.drop j)∧w.grownBy w' v.ownBlock:=by
 rcases hij with rfl|rfl;·obtain⟨a,cap,rfl⟩:=h.shape;(have b:l.length<=cap:=by obtain⟨o,c,e,b,_⟩:=h.list;simp only[Value.slice.injEq]at e;obtain⟨_,_,rfl⟩:=e;exact b);refine(N5 w a l.length cap j hj b).mono ?_;rintro e w'⟨rfl,rfl⟩;exact⟨_,rfl,by rw[List.take_append_drop];exact h,XO (Qb _ _)⟩
 ·rcases h.elim with⟨_,rfl⟩|⟨g,all,rfl,m,n,d,f,k⟩;(·simp at hj);·exact Di base w g all l i m n d f k (by omega) hl
def Yb(r:List UInt8):Xy×Nat:=match XA Qr r with|tD (c,_)=>(c,Zd r+6)|none=>(Zh,0)
theorem KQ{r:List UInt8}(h:XA Qr r=tF):Yb r=(Zh,0):=by
 unfold Yb;rw[h]
def J7(r:List UInt8):List UInt8:=(r.drop 2).take (Zd r)
theorem FZ{r:List UInt8}(h:Zd r+2<=r.length):(J7 r).length=Zd r:=by
 unfold J7;rw[List.length_take,List.length_drop];omega
theorem L9{r:List UInt8}(h:r.length<Zd r+2):Yb r=(Zh,0):=by
 refine KQ ?_;unfold XA;by_cases a:r.length<6;·rw[if_pos a]
 ·rw[if_neg a,if_pos (.inl (by omega))]
theorem Ct{r:List UInt8}(h:r.length<2):Yb r=(Zh,0):=by
 refine KQ ?_;unfold XA;rw[if_pos (by omega)]
theorem Wa{r:List UInt8}(h:Yx (J7 r)≠0):Yb r=(Zh,0):=by
 refine KQ ?_;unfold XA;by_cases c:r.length<6;·rw[if_pos c]
 ·rw[if_neg c];by_cases a:r.length<Zd r+6∨4000<Zd r+2;(·rw[if_pos a]);·rw[if_neg a];by_cases b:Qr (r.take (Zd r+2))=(r.drop (Zd r+2)).take 4;(·rw[if_pos b];exact if_neg h);·rw[if_neg b]
theorem Cm{r:List UInt8}(h:¬Zd r+2<=4000):Yb r=(Zh,0):=by
 refine KQ ?_;unfold XA;by_cases a:r.length<6;·rw[if_pos a]
 ·rw[if_neg a,if_pos (.inr (by omega))]
theorem Ln{r:List UInt8}(h:Zd r+2<=r.length):Fn (J7 r)=r.take (Zd r+2):=by
 have b:=FZ h;unfold Fn;rw[b];unfold J7;match r,h with|x::y::r,h=>have a:Zd (x::y::r)=256*x.toNat+y.toNat:=rfl;have c:=x.toNat_lt;have d:=y.toNat_lt;rw[show Zd (x::y::r)/256=x.toNat by rw[a];omega,show Zd (x::y::r)%256=y.toNat by rw[a];omega];simp|[x],h=>simp at h|[],h=>simp at h
theorem Bk(r:List UInt8)(n m:Nat):r.take (n+m)=r.take n++(r.drop n).take m:=List.take_add
theorem Bd{r:List UInt8}(h:Zd r+2<=r.length)(h4:Zd r+2<=4000)(hd:Yx (J7 r)=0):Yb r=if(ZR (J7 r)).length<=r.length∧r.take (ZR (J7 r)).length=ZR (J7 r)then(Jq (J7 r),Zd r+6)else(Zh,0):=by
 have j:=FZ h;have k:(ZR (J7 r)).length=Zd r+6:=by rw[jU,j]
 have g:=Ln h;rw[k];by_cases f:r.length<Zd r+6;·rw[if_neg (by omega)];refine KQ ?_;unfold XA;by_cases a:r.length<6;(·rw[if_pos a]);·rw[if_neg a,if_pos (.inl f)]
 ·(have d:r.take (Zd r+6)=ZR (J7 r)↔Qr (r.take (Zd r+2))=(r.drop (Zd r+2)).take 4:=by unfold ZR;rw[g,show Zd r+6=Zd r+2+4by omega,Bk];constructor;(·intro e;exact(List.append_cancel_left e).symm);·intro e;rw[e]);unfold Yb XA;rw[if_neg (by omega),if_neg (by omega)];by_cases b:Qr (r.take (Zd r+2))=(r.drop (Zd r+2)).take 4;(·have c:Yx ((r.drop 2).take (Zd r))=0:=hd;have i:Zd r+6<=r.length∧r.take (Zd r+6)=ZR (J7 r):=⟨by omega,d.2 b⟩;rw[if_pos b,if_pos c,if_pos i];rfl);·rw[if_neg b,if_neg (fun e=>b (d.1 e.2))]
theorem Cz(r:List UInt8):((Yb r).2=0∧Yb r=(Zh,0)∧XA Qr r=tF)∨((Yb r).2=Zd r+6∧XA Qr r=tD ((Yb r).1,r.drop (Yb r).2)∧(Yb r).2<=r.length):=by
 cases h:XA Qr r with|none=>left;rw[KQ h];exact⟨rfl,rfl,rfl⟩|some q=>obtain⟨c,i⟩:=q;right;(have e:Yb r=(c,Zd r+6):=by unfold Yb;rw[h]);have g:=h;unfold XA at h;by_cases a:r.length<6;(·rw[if_pos a]at h;cases h);rw[if_neg a]at h;by_cases b:r.length<Zd r+6∨4000<Zd r+2;(·rw[if_pos b]at h;cases h);rw[if_neg b]at h;by_cases d:Qr (r.take (Zd r+2))=(r.drop (Zd r+2)).take 4;(·rw[if_pos d]at h;by_cases f:Yx ((r.drop 2).take (Zd r))=0;(·rw[if_pos f]at h;simp only[Option.some.injEq,Prod.mk.injEq]at h;rw[e];refine⟨rfl,?_,?_⟩;(·rw[<-h.2]);·show Zd r+6<=r.length;omega);·rw[if_neg f]at h;cases h);·rw[if_neg d]at h;cases h
end Go.Proofs.YtpdbpagohccbpaaGreatDoor
