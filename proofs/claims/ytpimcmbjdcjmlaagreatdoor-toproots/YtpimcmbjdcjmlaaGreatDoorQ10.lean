/-
  Texts of this proof, joined, with few blanks: TSlIns, TSlRep.
-/
import Derived.Lib.Overlaps
import Derived.Laws.Externs
import Derived.Test.YtpimcmbjdcjmlaaGreatDoorQ9
set_option maxRecDepth 100000
set_option maxHeartbeats 8000000
open Go renaming World->V,Calls->q,maxLen->tJ,Addr->tL,sliced->tM
open Go.Builtin renaming copy_->O,append_->tC,clear_->tN
open Go.Ending renaming returned->P
open Go.IntKind renaming i64->J,wrap_i64->K
open Go.Proofs.Tryz renaming prog->F,ntmps132->r,ntmps115->s,func132->z,func115->tA
open Go.RowKit renaming Hid->p
open Go.Value renaming slice->B,int->Y,ownBlock->tE
open Go.World renaming grownBy->I,frozen?->tG,shape?->tH,cell?->tI
open List renaming take_append_of_le_length->G,append_assoc->M,take_of_length_le->N,drop_append_of_le_length->R,take_take->S,drop_take->T,take_append_drop->d,mem_of_mem_drop->f,drop_eq_nil_of_le->tB,nil_append->tD
open Nat renaming min_def->X,min_eq_left->b,zero_le->tK
open Option renaming some->D,none->E
namespace Go.Proofs.YtpimcmbjdcjmlaaGreatDoor
open Go.RowKit
theorem vJ{w W:V}(h:I w W E)(g:Nat)(hg:w.heap.size<=g)(all:List VP):I w (JK W g all) E:=by
 have h2:=KS W g all;exact⟨h2.os.trans h.os,h2.tape.trans h.tape,h2.output.trans h.output,Nat.le_trans h.size h2.size,fun k hk _=>(h2.block k (Nat.lt_of_lt_of_le hk h.size) (fun e=>by cases e;omega)).trans (h.block k hk (by simp))⟩
theorem Om(all:List VP)(x:VP)(i n:Nat)(hi:i<n)(hn:n+1<=all.length):((all.take (i+1)++(all.drop i).take (n-i)++all.drop (n+1)).take i++[x]++(all.take (i+1)++(all.drop i).take (n-i)++all.drop (n+1)).drop (i+1)).take (n+1)=(all.take n).take i++[x]++(all.take n).drop i:=by
 have a1:(all.take (i+1)++(all.drop i).take (n-i)++all.drop (n+1)).take i=(all.take n).take i:=by rw[M,G (by simp;omega),S,S,b (by omega),b (by omega)]
 have a2:(all.take (i+1)++(all.drop i).take (n-i)++all.drop (n+1)).drop (i+1)=(all.take n).drop i++all.drop (n+1):=by rw[M,R (by simp;omega),tB (by simp;omega),tD,T]
 rw[a1,a2,<-M,G (by simp;omega),N (by simp;omega)]
theorem aG(all rest:List VP)(x:VP)(i n:Nat)(hi:i<n)(hn:n<=all.length):(((all.take i++rest).take i++[x]++(all.take i++rest).drop (i+1)).take (i+1)++(all.drop i).take (n-i)++((all.take i++rest).take i++[x]++(all.take i++rest).drop (i+1)).drop (i+1+(n-i))).take (n+1)=(all.take n).take i++[x]++(all.take n).drop i:=by
 have a1:(all.take i++rest).take i=all.take i:=by rw[G (by simp;omega),S,Nat.min_self]
 have a2:((all.take i++rest).take i++[x]++(all.take i++rest).drop (i+1)).take (i+1)=all.take i++[x]:=by rw[a1,G (by simp;omega),N (by simp;omega)]
 rw[a2,G (by simp;omega),N (by simp;omega),S,b (by omega),T]
structure kU(base:Nat)(w:V)(nb:Nat)(x:VP)(t:Tn):Prop where blk:w.heap[nb]?=D (.cells #[x.1,x.2] 55)is:lJ 0 w x t
theorem kU.cells{w:V}{nb:Nat}{x:VP}{t:Tn}(h:kU 0 w nb x t):∀j u,(flat [x])[j]?=D u->w.cell? ((⟨nb,0,E⟩:tL).add j)=D u:=by
 intro j u hj;rw[ZX];have hb:=h.blk;match j,hj with|0,hj=>simp[flat]at hj;simp[tI,hb,hj]|1,hj=>simp[flat]at hj;simp[tI,hb,hj]|k+2,hj=>simp[flat]at hj
theorem kU.oneV{w:V}{nb:Nat}{x:VP}{t:Tn}(h:kU 0 w nb x t):EI [x]:=(YQ.one h.is).oneV
theorem TI(_base:Nat)(w:V)(nb g:Nat)(x:VP)(t:Tn)(all:List VP)(hx:kU 0 w nb x t)(hb:YY w g all)(hne:nb≠g)(ha:0<all.length)(o m c lb cb:Nat):(callFunc 133 #[B (D ⟨nb,0,E⟩) m c,B (D ⟨g,o,E⟩) lb cb]).run F w=.ok (.value (.bool false)) w:=by
 have h1:=hx.blk;have h2:=hb;unfold YY at h2;rw[run_callFunc_extern Tryz.func133 (by kernel_rfl) (by kernel_rfl) (by kernel_rfl) (e:=Extern.SlicesOverlaps.overlaps #[44,44] #[4]) (by kernel_rfl),Lib.run_overlaps_apart w 44 4 55 G4 2 (fun w=>by kernel_rfl) ⟨nb,0,E⟩ ⟨g,o,E⟩ m c lb cb hne 55 55 2 (all.length*2) (by simp[tH,h1]) (by simp[tH,h2,Ku]) (by omega) (by simp[tG,h1]) (by simp[tG,h1])];rfl
theorem Cy(base:Nat)(w:V)(v:Value)(l:FL)(nb:Nat)(x:VP)(t:Tn)(h:ZA base w v l)(hx:kU 0 w nb x t)(hbase:base<=w.heap.size)(hl:l.length<=1000):q F 132 #[v,Y J (l.length:Int),B (D ⟨nb,0,E⟩) 1 1] w fun e w'=>∃v',e=P v'∧ZA base w' v' (l++[t])∧I w w' v.ownBlock:=by
 obtain⟨a,cap,rfl⟩:=h.shape;have HO:p (ZA base w (B a l.length cap) l):=h;have HX:p (kU 0 w nb x t):=hx;have k1:∃A c,∀W,(Instr.slice 44 (B a l.length cap) (D (Y J (l.length:Int))) E E).run F W=.ok (B A (l.length-l.length) c) W:=⟨if cap=l.length then a else a.map (fun x:tL=>x.add (l.length*2)),cap-l.length,fun W=>by rw[run_slice_l _ _ _ _ _ (by kernel_rfl) _ _ (by omega) (by omega),Vu];simp only[Result.andThen,Int.toNat_natCast,tM]⟩;obtain⟨A1,c1,k1⟩:=k1;clear h hx;go_enter z,r;go_wp2_with(at_builtin;refine uU rfl (.tmp 23) (.tmp 24) rfl base (B a l.length cap) l rfl HO.out x.1 x.2 t HX.out.is.1 HX.out.is.2 nb HX.out.blk rfl (by omega) hbase ?_;intro v1 w1 ho1 hg1);go_ret;exact⟨_,rfl,ho1,hg1⟩
theorem Ez(base:Nat)(w:V)(g:Nat)(all:List VP)(l:FL)(i nb:Nat)(x:VP)(t:Tn)(hb:YY w g all)(hbase:base<=g)(hm:all.length<=tJ)(he:YQ 0 w (all.take l.length) l)(hi:i<l.length)(hl:l.length<=1000)(hx:kU 0 w nb x t)(hne:nb≠g)(hroom:l.length+1<=all.length):q F 132 #[B (D ⟨g,0,E⟩) l.length all.length,Y J (i:Int),B (D ⟨nb,0,E⟩) 1 1] w fun e w'=>∃v',e=P v'∧ZA base w' v' (l.take i++[t]++l.drop i)∧I w w' (D g):=by
 obtain⟨n,hn⟩:∃n,n=l.length:=⟨_,rfl⟩;obtain⟨cap,hcap⟩:∃cap,cap=all.length:=⟨_,rfl⟩;rw[<-hn];rw[<-hn]at he hi hl hroom;obtain⟨A0,hA0,k0⟩:=Uh g n cap i (by omega);have k1:=GM g n cap (n+1) (by omega);obtain⟨A2,hA2,k2⟩:=Uh g (n+1) cap (i+1) (by omega);obtain⟨A3,hA3,k3⟩:=Uh g (n+1) cap i (by omega);have e2:=hA2 (by omega);have e3:=hA3 (by omega);subst e2 e3;have OV:p (∀lb cb,(callFunc 133 #[B (D ⟨nb,0,E⟩) 1 1,B (D ⟨g,(i+1)*2,E⟩) lb cb]).run F w=.ok (.value (.bool false)) w):=fun lb cb=>TI base w nb g x t all hx hb hne (by omega) _ _ _ _ _;have C1:p (∀ty dc sc,(O #[44,44] ty #[B (D ⟨g,(i+1)*2,E⟩) (n-i) dc,B (D ⟨g,i*2,E⟩) (n+1-i) sc]).run F w.drew=.ok (goInt ((n-i:Nat):Int)) (JK w.drew g (all.take (i+1)++(all.drop i).take (n-i)++all.drop (n+1)))):=fun ty dc sc=>by(have hlen:((all.drop i).take (n-i)).length=n-i:=by simp;omega);have:=VC w.drew g all ((all.drop i).take (n-i)) hb.drew ty (i+1) (n-i) dc ⟨g,i*2,E⟩ (n+1-i) sc (by rw[hlen];simp only[X];split<;>omega) (hb.drew.cellsT i (n-i)) (by omega) (by have h1:EI (all.take n):=he.oneV;intro y hy;refine h1 y ?_;rw[<-T]at hy;exact f hy);rw[hlen,show i+1+(n-i)=n+1by omega]at this;exact this
 obtain⟨all1,hall1⟩:∃all1,all1=all.take (i+1)++(all.drop i).take (n-i)++all.drop (n+1):=⟨_,rfl⟩;rw[<-hall1]at C1;have hb1:=hb.drew.set all1;have hlen1:all1.length=cap:=by rw[hall1];simp;omega
 obtain⟨W1,hW1⟩:∃W1,W1=JK w.drew g all1:=⟨_,rfl⟩;rw[<-hW1]at C1 hb1;have hgW:I w W1 (D g):=by rw[hW1];exact Yk (XW (Ql (Qb _ _))) (KS _ _ _)
 have hxc:∀j u,(flat [x])[j]?=D u->W1.cell? ((⟨nb,0,E⟩:tL).add j)=D u:=fun j u hj=>hgW.cell (hx.cells j u hj) (by rw[ZX];intro e;exact hne (by simpa using e));have C2:p (∀ty dc,(O #[44,44] ty #[B (D ⟨g,i*2,E⟩) (n+1-i) dc,B (D ⟨nb,0,E⟩) 1 1]).run F W1=.ok (goInt 1) (JK W1 g (all1.take i++[x]++all1.drop (i+1)))):=fun ty dc=>by exact VC W1 g all1 [x] hb1 ty i (n+1-i) dc ⟨nb,0,E⟩ 1 1 (by simp only[X];split<;>simp;omega) hxc (by simp;omega) hx.oneV
 obtain⟨all2,hall2⟩:∃all2,all2=all1.take i++[x]++all1.drop (i+1):=⟨_,rfl⟩;rw[<-hall2]at C2;have hlen2:all2.length=cap:=by rw[hall2];simp;omega
 have FIN:p (ZA base (JK W1 g all2) (B (D ⟨g,0,E⟩) (n+1) cap) (l.take i++[t]++l.drop i)∧I w (JK W1 g all2) (D g)):=by have hg:I w (JK W1 g all2) (D g):=Yk hgW (KS _ _ _);refine⟨?_,hg⟩;(have hlq:(l.take i++[t]++l.drop i).length=n+1:=by simp;omega);have:=vU (base:=base) (l:=l.take i++[t]++l.drop i) (hb1.set all2) hbase (by omega) (by omega) (by(have e:all2.take (l.take i++[t]++l.drop i).length=(all.take n).take i++[x]++(all.take n).drop i:=by rw[hlq,hall2,hall1];exact Om all x i n hi (by omega));rw[e];exact((((he.take i).append (YQ.one hx.is)).append (he.drop i))).kept hg (hb.rowOf (tK _)));rw[hlq,hlen2]at this;exact this
 have u1:((i:Int)==(n:Int))=false:=by simp;omega
 have u2:i+1<=n:=by omega
 have u3:n+1<=cap:=by omega
 rw[<-hcap];clear hall1 hall2 he hb hb1 hn hcap hW1 hlen1 hlen2 hm hA0 hA2 hA3 hxc hx hgW hroom;have OV':=OV.out;go_enter z,r;go_wp2_with(simp only[OV']);have hw1:J.wrap ((i:Int)+1)=(i:Int)+1:=by rw[K];omega
 have hw2:(0:Int)<=(i:Int)+1:=by omega
 have hw3:(i:Int)+1<=(n:Int)+1:=by omega
 have hw4:((i:Int)+1).toNat=i+1:=by omega
 have hw5:¬(cap=i+1):=by omega
 have hw6:¬(cap=i):=by omega
 have hw7:(i:Int)<=(n:Int)+1:=by omega
 have C1':=C1.out;go_region;have C2':=C2.out;go_wp2_with(simp only[C2']);go_ret;exact⟨_,rfl,FIN.out.1,FIN.out.2⟩
theorem MV(base:Nat)(w:V)(g:Nat)(all:List VP)(l:FL)(i nb:Nat)(x:VP)(t:Tn)(hb:YY w g all)(hbase:base<=g)(hla:l.length<=all.length)(he:YQ 0 w (all.take l.length) l)(hi:i<l.length)(hl:l.length<=900)(hx:kU 0 w nb x t)(hroom:all.length<l.length+1):q F 132 #[B (D ⟨g,0,E⟩) l.length all.length,Y J (i:Int),B (D ⟨nb,0,E⟩) 1 1] w fun e w'=>∃v',e=P v'∧ZA base w' v' (l.take i++[t]++l.drop i)∧I w w' (D g):=by
 obtain⟨n,hn⟩:∃n,n=l.length:=⟨_,rfl⟩;obtain⟨cap,hcap⟩:∃cap,cap=all.length:=⟨_,rfl⟩;rw[<-hn];rw[<-hn]at he hla hi hl hroom;obtain⟨A0,hA0,k0⟩:=Uh g n cap i (by omega);have e0:=hA0 (by omega);subst e0;have k1:=GM g n cap i (by omega);obtain⟨rest,r1,r2,hz⟩:=BH w g all hb 44 i (n+1-i) (by omega) (by omega) (by omega) (by omega);rw[<-hcap,show i+(n+1-i)=n+1by omega]at hz;obtain⟨H,hH⟩:∃H,H=w.heap.size:=⟨_,rfl⟩;obtain⟨C,hC⟩:∃C,C=i+rest.length:=⟨_,rfl⟩;rw[<-hH,<-hC]at hz;obtain⟨W1,hW1⟩:∃W1,W1=w.drew.alloc (.cells (flat (all.take i++rest)).toArray 55):=⟨_,rfl⟩;rw[<-hW1]at hz;have hb1:YY W1 H (all.take i++rest):=by rw[hW1,hH];exact heap_alloc_new w.drew _
 have hg1:I w W1 E:=by rw[hW1];exact Qx (Ql (Qb _ _)) _
 have hlen0:(all.take i++rest).length=C:=by rw[hC];simp;omega
 obtain⟨A2,hA2,k2⟩:=Uh H (n+1) C i (by omega);have e2:=hA2 (by omega);subst e2;have C1:p (∀ty dc,(O #[44,44] ty #[B (D ⟨H,i*2,E⟩) (n+1-i) dc,B (D ⟨nb,0,E⟩) 1 1]).run F W1=.ok (goInt 1) (JK W1 H ((all.take i++rest).take i++[x]++(all.take i++rest).drop (i+1)))):=fun ty dc=>by exact VC W1 H _ [x] hb1 ty i (n+1-i) dc ⟨nb,0,E⟩ 1 1 (by simp only[X];split<;>simp;omega) (fun j u hj=>hg1.cell (hx.cells j u hj) (by simp)) (by simp;omega) hx.oneV
 obtain⟨all1,hall1⟩:∃all1,all1=(all.take i++rest).take i++[x]++(all.take i++rest).drop (i+1):=⟨_,rfl⟩;rw[<-hall1]at C1;obtain⟨W2,hW2⟩:∃W2,W2=JK W1 H all1:=⟨_,rfl⟩;have hb2:YY W2 H all1:=by rw[hW2];exact hb1.set all1
 rw[<-hW2]at C1;have hg2:I w W2 E:=by rw[hW2];exact vJ hg1 H (by omega) _
 have hlen1:all1.length=C:=by rw[hall1];simp at hlen0⊢;omega
 have hbg:YY W2.drew g all:=by have:=hg2.block g hb.lt (by simp);have h3:=hb;unfold YY at h3⊢;rw[<-h3,<-this];rfl
 have C2:p (∀ty dc sc,(O #[44,44] ty #[B (D ⟨H,(i+1)*2,E⟩) (n-i) dc,B (D ⟨g,i*2,E⟩) (n-i) sc]).run F W2.drew=.ok (goInt ((n-i:Nat):Int)) (JK W2.drew H (all1.take (i+1)++(all.drop i).take (n-i)++all1.drop (i+1+(n-i))))):=fun ty dc sc=>by(have hlen:((all.drop i).take (n-i)).length=n-i:=by simp;omega);have:=VC W2.drew H all1 ((all.drop i).take (n-i)) hb2.drew ty (i+1) (n-i) dc ⟨g,i*2,E⟩ (n-i) sc (by rw[hlen];simp only[X];split<;>omega) (hbg.cellsT i (n-i)) (by omega) (by have h1:EI (all.take n):=he.oneV;intro y hy;refine h1 y ?_;rw[<-T]at hy;exact f hy);rw[hlen]at this;exact this
 obtain⟨all2,hall2⟩:∃all2,all2=all1.take (i+1)++(all.drop i).take (n-i)++all1.drop (i+1+(n-i)):=⟨_,rfl⟩;rw[<-hall2]at C2;have hlen2:all2.length=C:=by rw[hall2];simp;omega
 have FIN:p (ZA base (JK W2.drew H all2) (B (D ⟨H,0,E⟩) (n+1) C) (l.take i++[t]++l.drop i)∧I w (JK W2.drew H all2) (D g)):=by have hg:I w (JK W2.drew H all2) E:=vJ (Ql hg2) H (by omega) _;refine⟨?_,XW hg⟩;(have hlq:(l.take i++[t]++l.drop i).length=n+1:=by simp;omega);have:=vU (base:=base) (l:=l.take i++[t]++l.drop i) (hb2.drew.set all2) (by have:=hb.lt;omega) (by omega) (by omega) (by(have e:all2.take (l.take i++[t]++l.drop i).length=(all.take n).take i++[x]++(all.take n).drop i:=by rw[hlq,hall2,hall1];exact aG all rest x i n hi (by omega));rw[e];exact((((he.take i).append (YQ.one hx.is)).append (he.drop i))).kept hg (.inl rfl));rw[hlq,hlen2]at this;exact this
 have u1:((i:Int)==(n:Int))=false:=by simp;omega
 have u2:i+1<=n:=by omega
 have u3:n<=cap:=by omega
 have u4:cap<n+1:=by omega
 have u5:n+1<=C:=by omega
 have u6:(cap:Int)<(n:Int)+1:=by omega
 have hw1:J.wrap ((i:Int)+1)=(i:Int)+1:=by rw[K];omega
 have hw0:J.wrap ((n:Int)+1)=(n:Int)+1:=by rw[K];omega
 have hwa:J.wrap ((n:Int)+1-(i:Int))=((n+1-i:Nat):Int):=by rw[K];omega
 have hw2:(0:Int)<=(i:Int)+1:=by omega
 have hw3:(i:Int)+1<=(n:Int)+1:=by omega
 have hw4:((i:Int)+1).toNat=i+1:=by omega
 have hw5:¬(C=i+1):=by omega
 have hw6:¬(cap=i):=by omega
 have hw8:¬(C=i):=by omega
 have hw7:(i:Int)<=(n:Int)+1:=by omega
 rw[<-hcap];have HZ:p ((tC #[44,3] 44 #[B (D ⟨g,0,E⟩) i cap,Y J ((n+1-i:Nat):Int)]).run F w=.ok (B (D ⟨H,0,E⟩) (n+1) C) W1):=hz;clear hall1 hall2 he hb hb1 hn hcap hW1 hW2 hlen1 hlen2 hla hA0 hA2 hx hg1 hg2 hroom hz hH hC hb2 hbg hlen0 r1 r2;go_enter z,r;go_wp2_with(at_builtin;refine Lib.wpList_append_run _ rfl _ _ _ _ rfl _ _ rfl rfl _ _ HZ.out ?_);have C1':=C1.out;go_wp2_with(simp only[C1']);have C2':=C2.out;go_region;go_wp2;go_ret;exact⟨_,rfl,FIN.out.1,FIN.out.2⟩
theorem cG(all:List VP)(x:VP)(i n:Nat)(hi:i<n)(hn:n<=all.length):(all.take i++[x]++all.drop (i+1)).take n=(all.take n).take i++[x]++(all.take n).drop (i+1):=by
 have e:all.drop (i+1)=(all.take n).drop (i+1)++all.drop n:=by have:=congrArg (List.drop (i+1)) (d n all);rw[R (by simp;omega)]at this;exact this.symm
 rw[e,<-M,G (by simp;omega),N (by simp;omega),S,b (by omega)]
theorem Lq(base:Nat)(w:V)(g:Nat)(all:List VP)(l:FL)(i nb:Nat)(x:VP)(t:Tn)(hb:YY w g all)(hbase:base<=g)(hla:l.length<=all.length)(hm:all.length<=tJ)(he:YQ 0 w (all.take l.length) l)(hi:i<l.length)(hx:kU 0 w nb x t)(W:V)(hW:YY W g (all.take i++[x]++all.drop (i+1)))(hg:I w W (D g)):ZA base W (B (D ⟨g,0,E⟩) l.length all.length) (l.take i++[t]++l.drop (i+1)):=by
 have hlq:(l.take i++[t]++l.drop (i+1)).length=l.length:=by simp;omega
 have hla2:(all.take i++[x]++all.drop (i+1)).length=all.length:=by simp;omega
 have:=vU (base:=base) (l:=l.take i++[t]++l.drop (i+1)) hW hbase (by omega) (by omega) (by rw[hlq,cG all x i l.length hi hla];exact((((he.take i).append (YQ.one hx.is)).append (he.drop (i+1)))).kept hg (hb.rowOf (tK _)));rw[hlq,hla2]at this;exact this
theorem EM(base:Nat)(w:V)(g:Nat)(all:List VP)(l:FL)(i nb:Nat)(x:VP)(t:Tn)(hb:YY w g all)(hbase:base<=g)(hla:l.length<=all.length)(hm:all.length<=tJ)(he:YQ 0 w (all.take l.length) l)(hi:i+1=l.length)(hx:kU 0 w nb x t):q F 115 #[B (D ⟨g,0,E⟩) l.length all.length,Y J (i:Int),Y J ((i+1:Nat):Int),B (D ⟨nb,0,E⟩) 1 1] w fun e w'=>∃v',e=P v'∧ZA base w' v' (l.take i++[t]++l.drop (i+1))∧I w w' (D g):=by
 have hA:=Fg w g all [x] hb 44 i ⟨nb,0,E⟩ 1 1 rfl hx.cells (by omega) hx.oneV;have hg:=KS w g (all.take i++[x]++all.drop (i+1));have HF:p (ZA base (JK w g (all.take i++[x]++all.drop (i+1))) (B (D ⟨g,0,E⟩) l.length all.length) (l.take i++[t]++l.drop (i+1))∧I w (JK w g (all.take i++[x]++all.drop (i+1))) (D g)):=⟨Lq base w g all l i nb x t hb hbase hla hm he (by omega) hx _ (hb.set _) hg,hg⟩;rw[hi]at hA;obtain⟨n,hn⟩:∃n,n=l.length:=⟨_,rfl⟩;obtain⟨cap,hcap⟩:∃cap,cap=all.length:=⟨_,rfl⟩;have HA:p ((tC #[44,44] 44 #[B (D ⟨g,0,E⟩) i cap,B (D ⟨nb,0,E⟩) 1 1]).run F w=.ok (B (D ⟨g,0,E⟩) n cap) (JK w g (all.take i++[x]++all.drop (i+1)))):=by rw[hn,hcap];rw[<-hi]at hA⊢;exact hA
 rw[<-hn,<-hcap]at HF;rw[<-hn,<-hcap];rw[<-hn]at hi hla;rw[<-hcap]at hla;generalize JK w g (all.take i++[x]++all.drop (i+1))=W at*;generalize l.take i++[t]++l.drop (i+1)=L at*;obtain⟨A1,hA1,k1⟩:=Pk g n cap i (i+1) (by omega) (by omega);have k2:=GM g n cap i (by omega);obtain⟨j,hj⟩:∃j,j=i+1:=⟨_,rfl⟩;rw[<-hj]at k1⊢;have u1:((i:Int)==(j:Int))=false:=by simp;omega
 have u2:((j:Int)==(n:Int))=true:=by simp;omega
 have u3:i+1<=n:=by omega
 have u4:n<=i+1:=by omega
 clear hA hg hb hm he hx hi hn hcap hj hA1;go_enter tA,s;go_wp2_with(at_builtin;refine Lib.wpList_append_run _ rfl _ _ _ _ rfl _ _ rfl rfl _ _ HA.out ?_);go_ret;exact⟨_,rfl,HF.out.1,HF.out.2⟩
theorem M8(base:Nat)(w:V)(g:Nat)(all:List VP)(l:FL)(i nb:Nat)(x:VP)(t:Tn)(hb:YY w g all)(hbase:base<=g)(hla:l.length<=all.length)(hm:all.length<=tJ)(he:YQ 0 w (all.take l.length) l)(hi:i+1<l.length)(hl:l.length<=1000)(hx:kU 0 w nb x t):q F 115 #[B (D ⟨g,0,E⟩) l.length all.length,Y J (i:Int),Y J ((i+1:Nat):Int),B (D ⟨nb,0,E⟩) 1 1] w fun e w'=>∃v',e=P v'∧ZA base w' v' (l.take i++[t]++l.drop (i+1))∧I w w' (D g):=by
 obtain⟨n,hn⟩:∃n,n=l.length:=⟨_,rfl⟩;obtain⟨cap,hcap⟩:∃cap,cap=all.length:=⟨_,rfl⟩;obtain⟨all1,hall1⟩:∃all1,all1=all.take i++[x]++all.drop (i+1):=⟨_,rfl⟩;have hlen1:all1.length=all.length:=by rw[hall1];simp;omega
 have C1:p (∀W,YY W g all->I w W E->∀ty dc,(O #[44,44] ty #[B (D ⟨g,i*2,E⟩) (n-i) dc,B (D ⟨nb,0,E⟩) 1 1]).run F W=.ok (goInt 1) (JK W g all1)):=fun W hW hgW ty dc=>by rw[hall1];exact VC W g all [x] hW ty i (n-i) dc ⟨nb,0,E⟩ 1 1 (by simp only[X];split<;>simp;omega) (fun j u hj=>hgW.cell (hx.cells j u hj) (by simp)) (by simp;omega) hx.oneV
 have C2:p (∀W,YY W g all1->∀ty dc sc,(O #[44,44] ty #[B (D ⟨g,(i+1)*2,E⟩) (n-(i+1)) dc,B (D ⟨g,(i+1)*2,E⟩) (n-(i+1)) sc]).run F W=.ok (goInt ((n-(i+1):Nat):Int)) W):=fun W hW ty dc sc=>by(have hlen:((all1.drop (i+1)).take (n-(i+1))).length=n-(i+1):=by simp;omega);(have h2:all1.take (i+1)++(all1.drop (i+1)).take (n-(i+1))++all1.drop (i+1+((all1.drop (i+1)).take (n-(i+1))).length)=all1:=by rw[hlen,M];(have:(all1.drop (i+1)).take (n-(i+1))++all1.drop (i+1+(n-(i+1)))=all1.drop (i+1):=by have:=d (n-(i+1)) (all1.drop (i+1));rw[List.drop_drop]at this;exact this);rw[this,d]);have h3:=VC W g all1 ((all1.drop (i+1)).take (n-(i+1))) hW ty (i+1) (n-(i+1)) dc ⟨g,(i+1)*2,E⟩ (n-(i+1)) sc (by rw[hlen];simp only[X];split<;>omega) (hW.cellsT (i+1) _) (by omega) (by have h1:EI (all.take l.length):=he.oneV;intro y hy;have hy2:=List.mem_of_mem_take hy;(have e:all1.drop (i+1)=all.drop (i+1):=by rw[hall1,R (by simp;omega),tB (by simp;omega),tD]);rw[e,hn,<-T]at hy;exact h1 y (f hy));rw[h2,hlen,Wv hW]at h3;exact h3
 have HF:p (∀W,YY W g all1->I w W (D g)->ZA base W (B (D ⟨g,0,E⟩) n cap) (l.take i++[t]++l.drop (i+1))):=fun W hW hg=>by rw[hall1]at hW;rw[hn,hcap];exact Lq base w g all l i nb x t hb hbase hla hm he (by omega) hx W hW hg
 rw[<-hn,<-hcap];rw[<-hn]at hi hla hl;rw[<-hcap]at hla;have HB:p (YY w g all):=hb;generalize l.take i++[t]++l.drop (i+1)=L at*;obtain⟨A1,hA1,k1⟩:=Pk g n cap i (i+1) (by omega) (by omega);have k2:=GM g n cap i (by omega);obtain⟨A3,hA3,k3⟩:=Uh g n cap (i+1) (by omega);obtain⟨A4,hA4,k4⟩:=Uh g n cap i (by omega);obtain⟨A5,hA5,k5⟩:=Uh g n cap n (by omega);have k6:=GM g n cap n (by omega);have e3:=hA3 (by omega);have e4:=hA4 (by omega);subst e3 e4;have HV:p (∀ty a c W,(tN #[44] ty #[B a 0 c]).run F W=.ok (.tuple #[]) W):=fun ty a c W=>BR W ty a c;obtain⟨j,hj⟩:∃j,j=i+1:=⟨_,rfl⟩;rw[<-hj]at k1 k3 C2⊢;have u1:((i:Int)==(j:Int))=false:=by simp;omega
 have u2:((j:Int)==(n:Int))=false:=by simp;omega
 have u3:i+1<=j:=by omega
 have u4:j<=i+1:=by omega
 have u5:j<n:=by omega
 have hw1:J.wrap ((i:Int)+1)=(j:Int):=by rw[K];omega
 have hw2:J.wrap ((j:Int)+((n-j:Nat):Int))=(n:Int):=by rw[K];omega
 clear hb hm he hx hi hn hcap hj hA1 hA3 hA4 hA5 hall1 hlen1;go_enter tA,s;go_wp2;go_region;have c1:=C1.out _ (show YY w.drew g all from HB.out) (Ql (Qb w E));have b1:YY (JK w.drew g all1) g all1:=YY.set (w:=w.drew) HB.out all1;have HG:p (I w (JK w.drew g all1) (D g)):=Yk (XW (Ql (Qb _ _))) (KS _ _ _);have HB1:p (YY (JK w.drew g all1) g all1):=b1;clear b1;generalize JK w.drew g all1=W1 at*;go_wp2;have c2:=C2.out W1.drew HB1.out;have hv:=HV.out;go_region;go_wp2;go_ret;have hgf:I w W1.drew (D g):=Yk HG.out (XW (Ql (Qb _ _)));exact⟨_,rfl,HF.out _ HB1.out hgf,hgf⟩
theorem MC(w:V)(a:Option tL)(n cap i nb:Nat)(hi:i<=n)(hn:n<=cap)(Q:Value->V->Prop)(IN:q F 132 #[B a n cap,Y J (i:Int),B (D ⟨nb,0,E⟩) 1 1] w fun e w'=>∃v',e=P v'∧Q v' w')(hQ:∀v' w',Q v' w'->∃a n c,v'=B a n c):q F 115 #[B a n cap,Y J (i:Int),Y J (i:Int),B (D ⟨nb,0,E⟩) 1 1] w fun e w'=>∃v',e=P v'∧Q v' w':=by
 have k1:∃A c,∀W,(Instr.slice 44 (B a n cap) (D (Y J (i:Int))) (D (Y J (i:Int))) E).run F W=.ok (B A (i-i) c) W:=⟨if cap=i then a else a.map (fun x:tL=>x.add (i*2)),cap-i,fun W=>by rw[run_slice_lh _ _ _ _ _ (by kernel_rfl) _ _ _ _ (by omega) (by omega) (by omega),Vu];simp only[Result.andThen,Int.toNat_natCast,tM]⟩;obtain⟨A1,c1,k1⟩:=k1;have HI:p (q F 132 #[B a n cap,Y J (i:Int),B (D ⟨nb,0,E⟩) 1 1] w fun e w'=>∃v',e=P v'∧Q v' w'):=IN;clear IN;go_enter tA,s;go_wp2_with fail;refine HI.out.mono ?_;rintro e w1⟨v1,rfl,h1⟩;obtain⟨a1,n1,c1',rfl⟩:=hQ _ _ h1;go_wp2;go_ret;exact⟨_,rfl,h1⟩
theorem MZ(base:Nat)(w:V)(v:Value)(l:FL)(i j nb:Nat)(x:VP)(t:Tn)(h:ZA base w v l)(hij:j=i∨j=i+1)(hj:j<=l.length)(hl:l.length<=900)(hx:kU 0 w nb x t)(hne:v.ownBlock≠D nb)(hbase:base<=w.heap.size):q F 115 #[v,Y J (i:Int),Y J (j:Int),B (D ⟨nb,0,E⟩) 1 1] w fun e w'=>∃v',e=P v'∧ZA base w' v' (l.take i++[t]++l.drop j)∧I w w' v.ownBlock:=by
 rcases hij with rfl|rfl;·obtain⟨a,cap,rfl⟩:=h.shape;(have hc:l.length<=cap:=by obtain⟨a',cap',e,hc,_⟩:=h.list;simp only[Value.slice.injEq]at e;obtain⟨_,_,rfl⟩:=e;exact hc);refine MC w a l.length cap j nb hj hc (fun v' w'=>ZA base w' v' (l.take j++[t]++l.drop j)∧I w w' (tE (B a l.length cap))) ?_ (fun v' w' h=>by obtain⟨a,c,e⟩:=h.1.shape;exact⟨_,_,_,e⟩);by_cases hjl:j=l.length;(·subst hjl;have:=Cy base w _ l nb x t h hx hbase (by omega);rw[List.take_length,List.drop_length,List.append_nil];exact this);·rcases h.elim with⟨_,rfl⟩|⟨g,all,e,hb,hg,h1,h2,h3⟩;(·simp at hj hjl;omega);·simp only[Value.slice.injEq]at e;obtain⟨rfl,_,rfl⟩:=e;by_cases hroom:l.length+1<=all.length;(·exact Ez base w g all l j nb x t hb hg h2 h3 (by omega) (by omega) hx (fun e=>hne (by simp[tE,e])) hroom);·exact MV base w g all l j nb x t hb hg h1 h3 (by omega) (by omega) hx (by omega)
 ·rcases h.elim with⟨_,rfl⟩|⟨g,all,rfl,hb,hg,h1,h2,h3⟩;(·simp at hj);·by_cases hlast:i+1=l.length;(·exact EM base w g all l i nb x t hb hg h1 h2 h3 hlast hx);·exact M8 base w g all l i nb x t hb hg h1 h2 h3 (by omega) (by omega) hx
end Go.Proofs.YtpimcmbjdcjmlaaGreatDoor
