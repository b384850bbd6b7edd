/-
  Texts of this proof, joined, with few blanks: TSlIns, TSlRep.
-/
import Derived.Lib.Overlaps
import Derived.Laws.Externs
import Derived.Test.YtpdbpagohccbpaaGreatDoorQ9
set_option maxRecDepth 100000
set_option maxHeartbeats 8000000
open Go renaming World->tQ,Calls->tW,maxLen->sI,Addr->sK,sliced->sL
open Go.Builtin renaming copy_->tK,append_->sC,clear_->sM
open Go.Ending renaming returned->tL
open Go.IntKind renaming i64->tG,wrap_i64->tH
open Go.Proofs.Tryz renaming prog->tD,ntmps134->tX,ntmps117->tY,func134->tZ,func117->sA
open Go.Value renaming slice->tA,int->tS,ownBlock->sE
open Go.World renaming grownBy->tF,frozen?->sF,shape?->sG,cell?->sH
open List renaming take_append_of_le_length->tE,append_assoc->tI,take_of_length_le->tJ,drop_append_of_le_length->tM,take_take->tN,drop_take->tP,take_append_drop->tU,mem_of_mem_drop->tV,drop_eq_nil_of_le->sB,nil_append->sD
open Nat renaming min_def->tR,min_eq_left->tT,zero_le->sJ
open Option renaming some->tB,none->tC
namespace Go.Proofs.YtpdbpagohccbpaaGreatDoor
open Go.RowKit
theorem uP{w W:tQ}(h:tF w W tC)(g:Nat)(hg:w.heap.size<=g)(all:List VP):tF w (Jw W g all) tC:=by
 have a:=KA W g all;exact⟨a.os.trans h.os,a.tape.trans h.tape,a.output.trans h.output,Nat.le_trans h.size a.size,fun k b _=>(a.block k (Nat.lt_of_lt_of_le b h.size) (fun e=>by cases e;omega)).trans (h.block k b (by simp))⟩
theorem Ic(all:List VP)(x:VP)(i n:Nat)(hi:i<n)(hn:n+1<=all.length):((all.take (i+1)++(all.drop i).take (n-i)++all.drop (n+1)).take i++[x]++(all.take (i+1)++(all.drop i).take (n-i)++all.drop (n+1)).drop (i+1)).take (n+1)=(all.take n).take i++[x]++(all.take n).drop i:=by
 have a:(all.take (i+1)++(all.drop i).take (n-i)++all.drop (n+1)).take i=(all.take n).take i:=by rw[tI,tE (by simp;omega),tN,tN,tT (by omega),tT (by omega)]
 have b:(all.take (i+1)++(all.drop i).take (n-i)++all.drop (n+1)).drop (i+1)=(all.take n).drop i++all.drop (n+1):=by rw[tI,tM (by simp;omega),sB (by simp;omega),sD,tP]
 rw[a,b,<-tI,tE (by simp;omega),tJ (by simp;omega)]
theorem I0(all rest:List VP)(x:VP)(i n:Nat)(hi:i<n)(hn:n<=all.length):(((all.take i++rest).take i++[x]++(all.take i++rest).drop (i+1)).take (i+1)++(all.drop i).take (n-i)++((all.take i++rest).take i++[x]++(all.take i++rest).drop (i+1)).drop (i+1+(n-i))).take (n+1)=(all.take n).take i++[x]++(all.take n).drop i:=by
 have a:(all.take i++rest).take i=all.take i:=by rw[tE (by simp;omega),tN,Nat.min_self]
 have b:((all.take i++rest).take i++[x]++(all.take i++rest).drop (i+1)).take (i+1)=all.take i++[x]:=by rw[a,tE (by simp;omega),tJ (by simp;omega)]
 rw[b,tE (by simp;omega),tJ (by simp;omega),tN,tT (by omega),tP]
structure jW(base:Nat)(w:tQ)(nb:Nat)(x:VP)(t:Tn):Prop where blk:w.heap[nb]?=tB (.cells #[x.1,x.2] 191)is:fG 0 w x t
theorem jW.cells{w:tQ}{nb:Nat}{x:VP}{t:Tn}(h:jW 0 w nb x t):∀j u,(flat [x])[j]?=tB u->w.cell? ((⟨nb,0,tC⟩:sK).add j)=tB u:=by
 intro j u a;rw[ZU];have b:=h.blk;match j,a with|0,a=>simp[flat]at a;simp[sH,b,a]|1,a=>simp[flat]at a;simp[sH,b,a]|k+2,a=>simp[flat]at a
theorem jW.oneV{w:tQ}{nb:Nat}{x:VP}{t:Tn}(h:jW 0 w nb x t):RQ [x]:=(YH.one h.is).oneV
theorem F6(_base:Nat)(w:tQ)(nb g:Nat)(x:VP)(t:Tn)(all:List VP)(hx:jW 0 w nb x t)(hb:YN w g all)(hne:nb≠g)(ha:0<all.length)(o m c lb cb:Nat):(callFunc 135 #[tA (tB ⟨nb,0,tC⟩) m c,tA (tB ⟨g,o,tC⟩) lb cb]).run tD w=.ok (.value (.bool false)) w:=by
 have a:=hx.blk;have b:=hb;unfold YN at b;rw[run_callFunc_extern Tryz.func135 (by kernel_rfl) (by kernel_rfl) (by kernel_rfl) (e:=Extern.SlicesOverlaps.overlaps #[25,25] #[4]) (by kernel_rfl),Lib.run_overlaps_apart w 25 4 191 GG 2 (fun w=>by kernel_rfl) ⟨nb,0,tC⟩ ⟨g,o,tC⟩ m c lb cb hne 191 191 2 (all.length*2) (by simp[sG,a]) (by simp[sG,b,Ke]) (by omega) (by simp[sF,a]) (by simp[sF,a])];rfl
theorem DA(base:Nat)(w:tQ)(v:Value)(l:FL)(nb:Nat)(x:VP)(t:Tn)(h:Zu base w v l)(hx:jW 0 w nb x t)(hbase:base<=w.heap.size)(hl:l.length<=1000):tW tD 134 #[v,tS tG (l.length:Int),tA (tB ⟨nb,0,tC⟩) 1 1] w fun e w'=>∃v',e=tL v'∧Zu base w' v' (l++[t])∧tF w w' v.ownBlock:=by
 obtain⟨a,cap,rfl⟩:=h.shape;have i:Hid (Zu base w (tA a l.length cap) l):=h;have b:Hid (jW 0 w nb x t):=hx;have g:∃A c,∀W,(Instr.slice 25 (tA a l.length cap) (tB (tS tG (l.length:Int))) tC tC).run tD W=.ok (tA A (l.length-l.length) c) W:=⟨if cap=l.length then a else a.map (fun x:sK=>x.add (l.length*2)),cap-l.length,fun W=>by rw[run_slice_l _ _ _ _ _ (by kernel_rfl) _ _ (by omega) (by omega),Vd];simp only[Result.andThen,Int.toNat_natCast,sL]⟩;obtain⟨j,k,g⟩:=g;clear h hx;go_enter tZ,tX;go_wp2_with(at_builtin;refine kY rfl (.tmp 23) (.tmp 24) rfl base (tA a l.length cap) l rfl i.out x.1 x.2 t b.out.is.1 b.out.is.2 nb b.out.blk rfl (by omega) hbase ?_;intro m n f d);go_ret;exact⟨_,rfl,f,d⟩
theorem Rz(base:Nat)(w:tQ)(g:Nat)(all:List VP)(l:FL)(i nb:Nat)(x:VP)(t:Tn)(hb:YN w g all)(hbase:base<=g)(hm:all.length<=sI)(he:YH 0 w (all.take l.length) l)(hi:i<l.length)(hl:l.length<=1000)(hx:jW 0 w nb x t)(hne:nb≠g)(hroom:l.length+1<=all.length):tW tD 134 #[tA (tB ⟨g,0,tC⟩) l.length all.length,tS tG (i:Int),tA (tB ⟨nb,0,tC⟩) 1 1] w fun e w'=>∃v',e=tL v'∧Zu base w' v' (l.take i++[t]++l.drop i)∧tF w w' (tB g):=by
 obtain⟨n,J⟩:∃n,n=l.length:=⟨_,rfl⟩;obtain⟨cap,m⟩:∃cap,cap=all.length:=⟨_,rfl⟩;rw[<-J];rw[<-J]at he hi hl hroom;obtain⟨A0,I,k0⟩:=K7 g n cap i (by omega);have k1:=Gt g n cap (n+1) (by omega);obtain⟨A2,B,k2⟩:=K7 g (n+1) cap (i+1) (by omega);obtain⟨A3,C,k3⟩:=K7 g (n+1) cap i (by omega);have S:=B (by omega);have T:=C (by omega);subst S T;have R:Hid (∀P M,(callFunc 135 #[tA (tB ⟨nb,0,tC⟩) 1 1,tA (tB ⟨g,(i+1)*2,tC⟩) P M]).run tD w=.ok (.value (.bool false)) w):=fun P M=>F6 base w nb g x t all hx hb hne (by omega) _ _ _ _ _;have F:Hid (∀z p K,(tK #[25,25] z #[tA (tB ⟨g,(i+1)*2,tC⟩) (n-i) p,tA (tB ⟨g,i*2,tC⟩) (n+1-i) K]).run tD w.drew=.ok (goInt ((n-i:Nat):Int)) (Jw w.drew g (all.take (i+1)++(all.drop i).take (n-i)++all.drop (n+1)))):=fun z p K=>by(have o:((all.drop i).take (n-i)).length=n-i:=by simp;omega);have:=Vk w.drew g all ((all.drop i).take (n-i)) hb.drew z (i+1) (n-i) p ⟨g,i*2,tC⟩ (n+1-i) K (by rw[o];simp only[tR];split<;>omega) (hb.drew.cellsT i (n-i)) (by omega) (by have U:RQ (all.take n):=he.oneV;intro y O;refine U y ?_;rw[<-tP]at O;exact tV O);rw[o,show i+1+(n-i)=n+1by omega]at this;exact this
 obtain⟨a,c⟩:∃a,a=all.take (i+1)++(all.drop i).take (n-i)++all.drop (n+1):=⟨_,rfl⟩;rw[<-c]at F;have k:=hb.drew.set a;have s:a.length=cap:=by rw[c];simp;omega
 obtain⟨h,q⟩:∃h,h=Jw w.drew g a:=⟨_,rfl⟩;rw[<-q]at F k;have r:tF w h (tB g):=by rw[q];exact Ye (XO (Ql (Qb _ _))) (KA _ _ _)
 have E:∀j u,(flat [x])[j]?=tB u->h.cell? ((⟨nb,0,tC⟩:sK).add j)=tB u:=fun j u V=>r.cell (hx.cells j u V) (by rw[ZU];intro e;exact hne (by simpa using e));have L:Hid (∀z p,(tK #[25,25] z #[tA (tB ⟨g,i*2,tC⟩) (n+1-i) p,tA (tB ⟨nb,0,tC⟩) 1 1]).run tD h=.ok (goInt 1) (Jw h g (a.take i++[x]++a.drop (i+1)))):=fun z p=>by exact Vk h g a [x] k z i (n+1-i) p ⟨nb,0,tC⟩ 1 1 (by simp only[tR];split<;>simp;omega) E (by simp;omega) hx.oneV
 obtain⟨b,d⟩:∃b,b=a.take i++[x]++a.drop (i+1):=⟨_,rfl⟩;rw[<-d]at L;have f:b.length=cap:=by rw[d];simp;omega
 have A:Hid (Zu base (Jw h g b) (tA (tB ⟨g,0,tC⟩) (n+1) cap) (l.take i++[t]++l.drop i)∧tF w (Jw h g b) (tB g)):=by have N:tF w (Jw h g b) (tB g):=Ye r (KA _ _ _);refine⟨?_,N⟩;(have D:(l.take i++[t]++l.drop i).length=n+1:=by simp;omega);have:=uZ (base:=base) (l:=l.take i++[t]++l.drop i) (k.set b) hbase (by omega) (by omega) (by(have e:b.take (l.take i++[t]++l.drop i).length=(all.take n).take i++[x]++(all.take n).drop i:=by rw[D,d,c];exact Ic all x i n hi (by omega));rw[e];exact((((he.take i).append (YH.one hx.is)).append (he.drop i))).kept N (hb.rowOf (sJ _)));rw[D,f]at this;exact this
 have u1:((i:Int)==(n:Int))=false:=by simp;omega
 have u2:i+1<=n:=by omega
 have u3:n+1<=cap:=by omega
 rw[<-m];clear c d he hb k J m q s f hm I B C E hx r hroom;have H:=R.out;go_enter tZ,tX;go_wp2_with(simp only[H]);have W:tG.wrap ((i:Int)+1)=(i:Int)+1:=by rw[tH];omega
 have X:(0:Int)<=(i:Int)+1:=by omega
 have Y:(i:Int)+1<=(n:Int)+1:=by omega
 have Z:((i:Int)+1).toNat=i+1:=by omega
 have aa:¬(cap=i+1):=by omega
 have ab:¬(cap=i):=by omega
 have ac:(i:Int)<=(n:Int)+1:=by omega
 have Q:=F.out;go_region;have G:=L.out;go_wp2_with(simp only[G]);go_ret;exact⟨_,rfl,A.out.1,A.out.2⟩
theorem NZ(base:Nat)(w:tQ)(g:Nat)(all:List VP)(l:FL)(i nb:Nat)(x:VP)(t:Tn)(hb:YN w g all)(hbase:base<=g)(hla:l.length<=all.length)(he:YH 0 w (all.take l.length) l)(hi:i<l.length)(hl:l.length<=900)(hx:jW 0 w nb x t)(hroom:all.length<l.length+1):tW tD 134 #[tA (tB ⟨g,0,tC⟩) l.length all.length,tS tG (i:Int),tA (tB ⟨nb,0,tC⟩) 1 1] w fun e w'=>∃v',e=tL v'∧Zu base w' v' (l.take i++[t]++l.drop i)∧tF w w' (tB g):=by
 obtain⟨n,R⟩:∃n,n=l.length:=⟨_,rfl⟩;obtain⟨cap,h⟩:∃cap,cap=all.length:=⟨_,rfl⟩;rw[<-R];rw[<-R]at he hla hi hl hroom;obtain⟨A0,I,k0⟩:=K7 g n cap i (by omega);have Z:=I (by omega);subst Z;have k1:=Gt g n cap i (by omega);obtain⟨rest,r1,r2,M⟩:=CA w g all hb 25 i (n+1-i) (by omega) (by omega) (by omega) (by omega);rw[<-h,show i+(n+1-i)=n+1by omega]at M;obtain⟨H,Q⟩:∃H,H=w.heap.size:=⟨_,rfl⟩;obtain⟨C,P⟩:∃C,C=i+rest.length:=⟨_,rfl⟩;rw[<-Q,<-P]at M;obtain⟨o,p⟩:∃o,o=w.drew.alloc (.cells (flat (all.take i++rest)).toArray 191):=⟨_,rfl⟩;rw[<-p]at M;have z:YN o H (all.take i++rest):=by rw[p,Q];exact heap_alloc_new w.drew _
 have B:tF w o tC:=by rw[p];exact Qv (Ql (Qb _ _)) _
 have k:(all.take i++rest).length=C:=by rw[P];simp;omega
 obtain⟨A2,J,k2⟩:=K7 H (n+1) C i (by omega);have e2:=J (by omega);subst e2;have N:Hid (∀F s,(tK #[25,25] F #[tA (tB ⟨H,i*2,tC⟩) (n+1-i) s,tA (tB ⟨nb,0,tC⟩) 1 1]).run tD o=.ok (goInt 1) (Jw o H ((all.take i++rest).take i++[x]++(all.take i++rest).drop (i+1)))):=fun F s=>by exact Vk o H _ [x] z F i (n+1-i) s ⟨nb,0,tC⟩ 1 1 (by simp only[tR];split<;>simp;omega) (fun j u hj=>B.cell (hx.cells j u hj) (by simp)) (by simp;omega) hx.oneV
 obtain⟨a,c⟩:∃a,a=(all.take i++rest).take i++[x]++(all.take i++rest).drop (i+1):=⟨_,rfl⟩;rw[<-c]at N;obtain⟨f,q⟩:∃f,f=Jw o H a:=⟨_,rfl⟩;have A:YN f H a:=by rw[q];exact z.set a
 rw[<-q]at N;have D:tF w f tC:=by rw[q];exact uP B H (by omega) _
 have E:a.length=C:=by rw[c];simp at k⊢;omega
 have K:YN f.drew g all:=by have:=D.block g hb.lt (by simp);have U:=hb;unfold YN at U⊢;rw[<-U,<-this];rfl
 have T:Hid (∀F s S,(tK #[25,25] F #[tA (tB ⟨H,(i+1)*2,tC⟩) (n-i) s,tA (tB ⟨g,i*2,tC⟩) (n-i) S]).run tD f.drew=.ok (goInt ((n-i:Nat):Int)) (Jw f.drew H (a.take (i+1)++(all.drop i).take (n-i)++a.drop (i+1+(n-i))))):=fun F s S=>by(have r:((all.drop i).take (n-i)).length=n-i:=by simp;omega);have:=Vk f.drew H a ((all.drop i).take (n-i)) A.drew F (i+1) (n-i) s ⟨g,i*2,tC⟩ (n-i) S (by rw[r];simp only[tR];split<;>omega) (K.cellsT i (n-i)) (by omega) (by have h1:RQ (all.take n):=he.oneV;intro y W;refine h1 y ?_;rw[<-tP]at W;exact tV W);rw[r]at this;exact this
 obtain⟨b,d⟩:∃b,b=a.take (i+1)++(all.drop i).take (n-i)++a.drop (i+1+(n-i)):=⟨_,rfl⟩;rw[<-d]at T;have m:b.length=C:=by rw[d];simp;omega
 have G:Hid (Zu base (Jw f.drew H b) (tA (tB ⟨H,0,tC⟩) (n+1) C) (l.take i++[t]++l.drop i)∧tF w (Jw f.drew H b) (tB g)):=by have V:tF w (Jw f.drew H b) tC:=uP (Ql D) H (by omega) _;refine⟨?_,XO V⟩;(have L:(l.take i++[t]++l.drop i).length=n+1:=by simp;omega);have:=uZ (base:=base) (l:=l.take i++[t]++l.drop i) (A.drew.set b) (by have:=hb.lt;omega) (by omega) (by omega) (by(have e:b.take (l.take i++[t]++l.drop i).length=(all.take n).take i++[x]++(all.take n).drop i:=by rw[L,d,c];exact I0 all rest x i n hi (by omega));rw[e];exact((((he.take i).append (YH.one hx.is)).append (he.drop i))).kept V (.inl rfl));rw[L,m]at this;exact this
 have u1:((i:Int)==(n:Int))=false:=by simp;omega
 have u2:i+1<=n:=by omega
 have u3:n<=cap:=by omega
 have u4:cap<n+1:=by omega
 have u5:n+1<=C:=by omega
 have u6:(cap:Int)<(n:Int)+1:=by omega
 have ae:tG.wrap ((i:Int)+1)=(i:Int)+1:=by rw[tH];omega
 have ad:tG.wrap ((n:Int)+1)=(n:Int)+1:=by rw[tH];omega
 have am:tG.wrap ((n:Int)+1-(i:Int))=((n+1-i:Nat):Int):=by rw[tH];omega
 have af:(0:Int)<=(i:Int)+1:=by omega
 have ag:(i:Int)+1<=(n:Int)+1:=by omega
 have ah:((i:Int)+1).toNat=i+1:=by omega
 have ai:¬(C=i+1):=by omega
 have aj:¬(cap=i):=by omega
 have al:¬(C=i):=by omega
 have ak:(i:Int)<=(n:Int)+1:=by omega
 rw[<-h];have Y:Hid ((sC #[25,3] 25 #[tA (tB ⟨g,0,tC⟩) i cap,tS tG ((n+1-i:Nat):Int)]).run tD w=.ok (tA (tB ⟨H,0,tC⟩) (n+1) C) o):=M;clear c d he hb z R h p q E m hla I J hx B D hroom M Q P A K k r1 r2;go_enter tZ,tX;go_wp2_with(at_builtin;refine Lib.wpList_append_run _ rfl _ _ _ _ rfl _ _ rfl rfl _ _ Y.out ?_);have O:=N.out;go_wp2_with(simp only[O]);have X:=T.out;go_region;go_wp2;go_ret;exact⟨_,rfl,G.out.1,G.out.2⟩
theorem OL(all:List VP)(x:VP)(i n:Nat)(hi:i<n)(hn:n<=all.length):(all.take i++[x]++all.drop (i+1)).take n=(all.take n).take i++[x]++(all.take n).drop (i+1):=by
 have e:all.drop (i+1)=(all.take n).drop (i+1)++all.drop n:=by have:=congrArg (List.drop (i+1)) (tU n all);rw[tM (by simp;omega)]at this;exact this.symm
 rw[e,<-tI,tE (by simp;omega),tJ (by simp;omega),tN,tT (by omega)]
theorem Sj(base:Nat)(w:tQ)(g:Nat)(all:List VP)(l:FL)(i nb:Nat)(x:VP)(t:Tn)(hb:YN w g all)(hbase:base<=g)(hla:l.length<=all.length)(hm:all.length<=sI)(he:YH 0 w (all.take l.length) l)(hi:i<l.length)(hx:jW 0 w nb x t)(W:tQ)(hW:YN W g (all.take i++[x]++all.drop (i+1)))(hg:tF w W (tB g)):Zu base W (tA (tB ⟨g,0,tC⟩) l.length all.length) (l.take i++[t]++l.drop (i+1)):=by
 have b:(l.take i++[t]++l.drop (i+1)).length=l.length:=by simp;omega
 have a:(all.take i++[x]++all.drop (i+1)).length=all.length:=by simp;omega
 have:=uZ (base:=base) (l:=l.take i++[t]++l.drop (i+1)) hW hbase (by omega) (by omega) (by rw[b,OL all x i l.length hi hla];exact((((he.take i).append (YH.one hx.is)).append (he.drop (i+1)))).kept hg (hb.rowOf (sJ _)));rw[b,a]at this;exact this
theorem RU(base:Nat)(w:tQ)(g:Nat)(all:List VP)(l:FL)(i nb:Nat)(x:VP)(t:Tn)(hb:YN w g all)(hbase:base<=g)(hla:l.length<=all.length)(hm:all.length<=sI)(he:YH 0 w (all.take l.length) l)(hi:i+1=l.length)(hx:jW 0 w nb x t):tW tD 117 #[tA (tB ⟨g,0,tC⟩) l.length all.length,tS tG (i:Int),tS tG ((i+1:Nat):Int),tA (tB ⟨nb,0,tC⟩) 1 1] w fun e w'=>∃v',e=tL v'∧Zu base w' v' (l.take i++[t]++l.drop (i+1))∧tF w w' (tB g):=by
 have c:=Px w g all [x] hb 25 i ⟨nb,0,tC⟩ 1 1 rfl hx.cells (by omega) hx.oneV;have h:=KA w g (all.take i++[x]++all.drop (i+1));have d:Hid (Zu base (Jw w g (all.take i++[x]++all.drop (i+1))) (tA (tB ⟨g,0,tC⟩) l.length all.length) (l.take i++[t]++l.drop (i+1))∧tF w (Jw w g (all.take i++[x]++all.drop (i+1))) (tB g)):=⟨Sj base w g all l i nb x t hb hbase hla hm he (by omega) hx _ (hb.set _) h,h⟩;rw[hi]at c;obtain⟨n,b⟩:∃n,n=l.length:=⟨_,rfl⟩;obtain⟨cap,a⟩:∃cap,cap=all.length:=⟨_,rfl⟩;have m:Hid ((sC #[25,25] 25 #[tA (tB ⟨g,0,tC⟩) i cap,tA (tB ⟨nb,0,tC⟩) 1 1]).run tD w=.ok (tA (tB ⟨g,0,tC⟩) n cap) (Jw w g (all.take i++[x]++all.drop (i+1)))):=by rw[b,a];rw[<-hi]at c⊢;exact c
 rw[<-b,<-a]at d;rw[<-b,<-a];rw[<-b]at hi hla;rw[<-a]at hla;generalize Jw w g (all.take i++[x]++all.drop (i+1))=W at*;generalize l.take i++[t]++l.drop (i+1)=L at*;obtain⟨p,f,o⟩:=vN g n cap i (i+1) (by omega) (by omega);have q:=Gt g n cap i (by omega);obtain⟨j,k⟩:∃j,j=i+1:=⟨_,rfl⟩;rw[<-k]at o⊢;have r:((i:Int)==(j:Int))=false:=by simp;omega
 have s:((j:Int)==(n:Int))=true:=by simp;omega
 have u:i+1<=n:=by omega
 have y:n<=i+1:=by omega
 clear c h hb hm he hx hi b a k f;go_enter sA,tY;go_wp2_with(at_builtin;refine Lib.wpList_append_run _ rfl _ _ _ _ rfl _ _ rfl rfl _ _ m.out ?_);go_ret;exact⟨_,rfl,d.out.1,d.out.2⟩
theorem Mg(base:Nat)(w:tQ)(g:Nat)(all:List VP)(l:FL)(i nb:Nat)(x:VP)(t:Tn)(hb:YN w g all)(hbase:base<=g)(hla:l.length<=all.length)(hm:all.length<=sI)(he:YH 0 w (all.take l.length) l)(hi:i+1<l.length)(hl:l.length<=1000)(hx:jW 0 w nb x t):tW tD 117 #[tA (tB ⟨g,0,tC⟩) l.length all.length,tS tG (i:Int),tS tG ((i+1:Nat):Int),tA (tB ⟨nb,0,tC⟩) 1 1] w fun e w'=>∃v',e=tL v'∧Zu base w' v' (l.take i++[t]++l.drop (i+1))∧tF w w' (tB g):=by
 obtain⟨n,A⟩:∃n,n=l.length:=⟨_,rfl⟩;obtain⟨cap,f⟩:∃cap,cap=all.length:=⟨_,rfl⟩;obtain⟨b,d⟩:∃b,b=all.take i++[x]++all.drop (i+1):=⟨_,rfl⟩;have p:b.length=all.length:=by rw[d];simp;omega
 have M:Hid (∀W,YN W g all->tF w W tC->∀k o,(tK #[25,25] k #[tA (tB ⟨g,i*2,tC⟩) (n-i) o,tA (tB ⟨nb,0,tC⟩) 1 1]).run tD W=.ok (goInt 1) (Jw W g b)):=fun W m E k o=>by rw[d];exact Vk W g all [x] m k i (n-i) o ⟨nb,0,tC⟩ 1 1 (by simp only[tR];split<;>simp;omega) (fun j u B=>E.cell (hx.cells j u B) (by simp)) (by simp;omega) hx.oneV
 have H:Hid (∀W,YN W g b->∀k o G,(tK #[25,25] k #[tA (tB ⟨g,(i+1)*2,tC⟩) (n-(i+1)) o,tA (tB ⟨g,(i+1)*2,tC⟩) (n-(i+1)) G]).run tD W=.ok (goInt ((n-(i+1):Nat):Int)) W):=fun W m k o G=>by(have h:((b.drop (i+1)).take (n-(i+1))).length=n-(i+1):=by simp;omega);(have T:b.take (i+1)++(b.drop (i+1)).take (n-(i+1))++b.drop (i+1+((b.drop (i+1)).take (n-(i+1))).length)=b:=by rw[h,tI];(have:(b.drop (i+1)).take (n-(i+1))++b.drop (i+1+(n-(i+1)))=b.drop (i+1):=by have:=tU (n-(i+1)) (b.drop (i+1));rw[List.drop_drop]at this;exact this);rw[this,tU]);have K:=Vk W g b ((b.drop (i+1)).take (n-(i+1))) m k (i+1) (n-(i+1)) o ⟨g,(i+1)*2,tC⟩ (n-(i+1)) G (by rw[h];simp only[tR];split<;>omega) (m.cellsT (i+1) _) (by omega) (by have S:RQ (all.take l.length):=he.oneV;intro y F;have Y:=List.mem_of_mem_take F;(have e:b.drop (i+1)=all.drop (i+1):=by rw[d,tM (by simp;omega),sB (by simp;omega),sD]);rw[e,A,<-tP]at F;exact S y (tV F));rw[T,h,LU m]at K;exact K
 have N:Hid (∀W,YN W g b->tF w W (tB g)->Zu base W (tA (tB ⟨g,0,tC⟩) n cap) (l.take i++[t]++l.drop (i+1))):=fun W m U=>by rw[d]at m;rw[A,f];exact Sj base w g all l i nb x t hb hbase hla hm he (by omega) hx W m U
 rw[<-A,<-f];rw[<-A]at hi hla hl;rw[<-f]at hla;have I:Hid (YN w g all):=hb;generalize l.take i++[t]++l.drop (i+1)=L at*;obtain⟨A1,C,Z⟩:=vN g n cap i (i+1) (by omega) (by omega);have k2:=Gt g n cap i (by omega);obtain⟨A3,r,k3⟩:=K7 g n cap (i+1) (by omega);obtain⟨A4,s,k4⟩:=K7 g n cap i (by omega);obtain⟨A5,D,k5⟩:=K7 g n cap n (by omega);have k6:=Gt g n cap n (by omega);have Q:=r (by omega);have R:=s (by omega);subst Q R;have P:Hid (∀k a c W,(sM #[25] k #[tA a 0 c]).run tD W=.ok (.tuple #[]) W):=fun k a c W=>CQ W k a c;obtain⟨j,B⟩:∃j,j=i+1:=⟨_,rfl⟩;rw[<-B]at Z k3 H⊢;have u1:((i:Int)==(j:Int))=false:=by simp;omega
 have u2:((j:Int)==(n:Int))=false:=by simp;omega
 have u3:i+1<=j:=by omega
 have u4:j<=i+1:=by omega
 have u5:j<n:=by omega
 have V:tG.wrap ((i:Int)+1)=(j:Int):=by rw[tH];omega
 have X:tG.wrap ((j:Int)+((n-j:Nat):Int))=(n:Int):=by rw[tH];omega
 clear hb hm he hx hi A f B C r s D d p;go_enter sA,tY;go_wp2;go_region;have c1:=M.out _ (show YN w.drew g all from I.out) (Ql (Qb w tC));have J:YN (Jw w.drew g b) g b:=YN.set (w:=w.drew) I.out b;have O:Hid (tF w (Jw w.drew g b) (tB g)):=Ye (XO (Ql (Qb _ _))) (KA _ _ _);have q:Hid (YN (Jw w.drew g b) g b):=J;clear J;generalize Jw w.drew g b=W1 at*;go_wp2;have c2:=H.out W1.drew q.out;have hv:=P.out;go_region;go_wp2;go_ret;have z:tF w W1.drew (tB g):=Ye O.out (XO (Ql (Qb _ _)));exact⟨_,rfl,N.out _ q.out z,z⟩
theorem Nt(w:tQ)(a:Option sK)(n cap i nb:Nat)(hi:i<=n)(hn:n<=cap)(Q:Value->tQ->Prop)(IN:tW tD 134 #[tA a n cap,tS tG (i:Int),tA (tB ⟨nb,0,tC⟩) 1 1] w fun e w'=>∃v',e=tL v'∧Q v' w')(hQ:∀v' w',Q v' w'->∃a n c,v'=tA a n c):tW tD 117 #[tA a n cap,tS tG (i:Int),tS tG (i:Int),tA (tB ⟨nb,0,tC⟩) 1 1] w fun e w'=>∃v',e=tL v'∧Q v' w':=by
 have d:∃A c,∀W,(Instr.slice 25 (tA a n cap) (tB (tS tG (i:Int))) (tB (tS tG (i:Int))) tC).run tD W=.ok (tA A (i-i) c) W:=⟨if cap=i then a else a.map (fun x:sK=>x.add (i*2)),cap-i,fun W=>by rw[run_slice_lh _ _ _ _ _ (by kernel_rfl) _ _ _ _ (by omega) (by omega) (by omega),Vd];simp only[Result.andThen,Int.toNat_natCast,sL]⟩;obtain⟨h,k,d⟩:=d;have f:Hid (tW tD 134 #[tA a n cap,tS tG (i:Int),tA (tB ⟨nb,0,tC⟩) 1 1] w fun e w'=>∃v',e=tL v'∧Q v' w'):=IN;clear IN;go_enter sA,tY;go_wp2_with fail;refine f.out.mono ?_;rintro e o⟨m,rfl,b⟩;obtain⟨j,l,g,rfl⟩:=hQ _ _ b;go_wp2;go_ret;exact⟨_,rfl,b⟩
theorem N7(base:Nat)(w:tQ)(v:Value)(l:FL)(i j nb:Nat)(x:VP)(t:Tn)(h:Zu base w v l)(hij:j=i∨j=i+1)(hj:j<=l.length)(hl:l.length<=900)(hx:jW 0 w nb x t)(hne:v.ownBlock≠tB nb)(hbase:base<=w.heap.size):tW tD 117 #[v,tS tG (i:Int),tS tG (j:Int),tA (tB ⟨nb,0,tC⟩) 1 1] w fun e w'=>∃v',e=tL v'∧Zu base w' v' (l.take i++[t]++l.drop j)∧tF w w' v.ownBlock:=by
 rcases hij with rfl|rfl;·obtain⟨a,cap,rfl⟩:=h.shape;(have q:l.length<=cap:=by obtain⟨s,r,e,q,_⟩:=h.list;simp only[Value.slice.injEq]at e;obtain⟨_,_,rfl⟩:=e;exact q);refine Nt w a l.length cap j nb hj q (fun v' w'=>Zu base w' v' (l.take j++[t]++l.drop j)∧tF w w' (sE (tA a l.length cap))) ?_ (fun v' w' h=>by obtain⟨a,c,e⟩:=h.1.shape;exact⟨_,_,_,e⟩);by_cases n:j=l.length;(·subst n;have:=DA base w _ l nb x t h hx hbase (by omega);rw[List.take_length,List.drop_length,List.append_nil];exact this);·rcases h.elim with⟨_,rfl⟩|⟨g,all,e,k,m,o,p,f⟩;(·simp at hj n;omega);·simp only[Value.slice.injEq]at e;obtain⟨rfl,_,rfl⟩:=e;by_cases d:l.length+1<=all.length;(·exact Rz base w g all l j nb x t k m p f (by omega) (by omega) hx (fun e=>hne (by simp[sE,e])) d);·exact NZ base w g all l j nb x t k m o f (by omega) (by omega) hx (by omega)
 ·rcases h.elim with⟨_,rfl⟩|⟨g,all,rfl,k,m,o,p,f⟩;(·simp at hj);·by_cases b:i+1=l.length;(·exact RU base w g all l i nb x t k m o p f b hx);·exact Mg base w g all l i nb x t k m o p f (by omega) (by omega) hx
end Go.Proofs.YtpdbpagohccbpaaGreatDoor
