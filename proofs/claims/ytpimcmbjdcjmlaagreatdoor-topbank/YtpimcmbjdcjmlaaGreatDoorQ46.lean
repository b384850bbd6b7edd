/-
  Texts of this proof, joined, with few blanks: AcN, AcL, TAskQ, TLit, RoundsF, TenantF, BankF, RgAsk.
-/
import Derived.Test.YtpimcmbjdcjmlaaGreatDoorQ44
set_option maxRecDepth 100000
set_option maxHeartbeats 8000000
open Bool renaming false->tH,true->tI
open Go renaming World->tD,Value->tG,heap_alloc_new->tN,Operand->tP,Oper->tS,info_parts->tV
open Go.IntKind renaming i64->tL
open Go.Proofs.Tryz renaming prog->tF,underlying40->tR
open Go.Value renaming slice->tB,int->tJ,bool->tT,agg->tU
open Go.World renaming grownBy_alloc->tK,grownBy->tM,ownsRow_nil->tQ
open Option renaming none->tC,some->tE
open UInt8 renaming ofNat->tA
namespace Go.Proofs.YtpimcmbjdcjmlaaGreatDoor
open Go.RowKit
def Yy(rb:Nat)(w:tD)(v:tG)(l:List Ac):Prop:=UQ rb w v l∧(l=[]->v=tB tC 0 0)
theorem Yy.grown{rb:Nat}{w w':tD}{v:tG}{l:List Ac}(h:Yy rb w v l)(hg:tM w w' tC):Yy rb w' v l:=⟨h.1.grownNone hg,h.2⟩
theorem Yy.shape{rb:Nat}{w:tD}{v:tG}{l:List Ac}(h:Yy rb w v l):∃a cap,v=tB a l.length cap:=h.1.shape
theorem Yy.list{rb:Nat}{w:tD}{v:tG}{l:List Ac}(h:Yy rb w v l):YZ w v l:=h.1.list
theorem Yy.row{rb:Nat}{w:tD}{v:tG}{l:List Ac}(h:Yy rb w v l):∀g,v.ownBlock=tE g->∃cs t fz,w.heap[g]?=tE (.cells cs t fz)∧¬VT t∧t≠39∧∀q,cs[0]?≠tE (tJ .u8 q):=fun g e=>by
 obtain⟨⟨c,b,m,u⟩,d⟩:=h;rcases m.2with⟨rfl,_⟩|⟨o,cap,a,rfl,p,i,s,j,f,n⟩;·cases e
 ·cases e;refine⟨a,_,_,i,by simp[VT],by decide,fun q k=>?_⟩;cases c with|nil=>have:=d (by rw[<-b];rfl);cases this|cons x c=>(have r:0<l.length:=by rw[<-b];simp);(have e:(a.toList.take (l.length*4))[0]?=(Jk (x::c))[0]?:=by rw[n]);rw[List.getElem?_take,if_pos (by omega),Array.getElem?_toList,k]at e;simp[Jk]at e
theorem Yy.other{rb:Nat}{w:tD}{v:tG}{l:List Ac}(h:Yy rb w v l){b:Nat}{cs:Array tG}{t:TypeId}{fz:Nat×Nat}(hb:w.heap[b]?=tE (.cells cs t fz))(ht:t≠42):tE b≠v.ownBlock:=fun e=>by
 rcases h.1.row with h|⟨g,c,d,f,_,a⟩;·rw[h]at e;cases e
 ·rw[f]at e;cases e;rw[hb]at a;simp only[Option.some.injEq,Obj.cells.injEq]at a;exact ht a.2.1
structure Hc (rb : Nat) (w w' : tD) (v v' : tG) (l : List Ac) : Prop where
  own : Yy rb w' v' l
  kl : KL w w'
  grown : tM w w' v.ownBlock
  lies : ∀ g, v'.ownBlock = tE g -> v.ownBlock = tE g ∨ w.heap.size <= g
theorem Xz{w:tD}{ops:Array tS}{rest:List tS}{o:tS}{a:Act}{Q:Exit->Act->tD->Prop}(hgd:o.guard=tC)(s x:tP)(ho:o.op=.call {callee:=.builtin .append,args:=#[s,x],argTypes:=#[40,40]})(rb:Nat)(v:tG)(l:List Ac)(hs:a.eval s=v)(hown:Yy rb w v l)(r2:Nat)(u:tG)(m:List Ac)(hx:a.eval x=u)(hsrc:UQ r2 w u m)(hl:l.length+m.length<=1000)(hbase:rb<=w.heap.size)(h:∀v' w',Hc rb w w' v v' (l++m)->wpList tF ops Q rest (a.put o.dst v') w'):wpList tF ops Q (o::rest) a w:=by
 by_cases c:l++m=[];·obtain⟨rfl,rfl⟩:=List.append_eq_nil_iff.1 c;have f:=hown.2 rfl;obtain⟨t,y,rfl⟩:=hsrc.shape;obtain⟨r,k,n,p,q⟩:=tV Mx;refine wpList_plain hgd fun K j=>?_;have b:=Vc (P:=tF) (w:=w) rb 40 o.type 42 r 4 tR k (tB tC 0 0) 0 [] (tQ _ _ _ _) t y;rw[f]at hs;unfold Oper.wp;simp[execOp,ho,resolve,invoke,builtin,hs,hx,b,Result.andThen];rw[f]at hown h;exact j _ _ (h _ w ⟨hown,KL.refl _,⟨rfl,rfl,rfl,Nat.le_refl _,fun _ _ _=>rfl⟩,fun _ e=>.inl e⟩)
 ·refine vV hgd s x ho rb v l hs hown.1 r2 u m hx hsrc (by omega) hbase fun v' w' g d i=>h v' w' ⟨⟨g,fun e=>absurd e c⟩,KL.turn d hown.row,d,i⟩
theorem JK{rb:Nat}{w W w1:tD}{v:tG}{l:List Ac}(h:tM w W tC)(ho:Yy rb W v l)(hb:w.heap.size<=rb)(hg:tM W w1 v.ownBlock):tM w w1 tC:=C8 h ho.1 hb hg
theorem DG(W:tD)(A:Ac)(vd:tG)(hp:Qg 0 W vd A.data):UQ 0 (W.alloc (.cells #[tJ tL A.kind,tJ tL A.sess,tJ tL A.keep,vd] 42)) (tB (tE ⟨W.heap.size,0,tC⟩) 1 1) [A]:=DI (w:=W.alloc _) 0 W.heap.size [(A,vd)] (tN W _) (Nat.zero_le _) (by
 simp) fun y a=>by
 simp only[List.mem_cons,List.not_mem_nil,or_false]at a;subst a;exact hp.keptT (tK _ _ tC) (.inl rfl)
theorem FS(w:tD):Qg 0 w (tB tC 0 0) []:=⟨QH w,.inl rfl⟩
theorem DS(W:tD):UQ 0 (W.alloc (.cells #[tJ tL 2,tJ tL 0,tJ tL 0,tB tC 0 0] 42)) (tB (tE ⟨W.heap.size,0,tC⟩) 1 1) [YF]:=DG W YF _ (FS W)
def xO(s:Int)(w:tD)(d:List UInt8)(e:Ending)(w':tD):Prop:=∃xa xc,e=.returned (tU #[tJ tL 1,tJ tL s,tJ tL 0,tB xa d.length xc])∧Qg 0 w' (tB xa d.length xc) d∧tM w w' tC
theorem SC(w:tD)(s:Int)(v:tG)(r:Rq)(hT:UC w)(hv:Ux w v r)(hr:JI r):Calls tF 7 #[tJ tL s,v] w (xO s w (XH r)):=by
 refine(OE w s v r hT hv (uB hr)).mono ?_;rintro e f⟨x,rfl,a,b⟩;rw[eJ hr]at a;obtain⟨c,d,rfl⟩:=a.slice.shape;exact⟨c,d,rfl,a,b⟩
theorem AS(w:tD)(k:Int):Ux w (tU #[tJ tL k,tB tC 0 0,tB tC 0 0,tB tC 0 0,tB tC 0 0]) (Vp k):=⟨_,_,_,_,rfl,QH w,QH w,QH w,QH w⟩
theorem G5(rb:Nat)(W:tD)(hrb:rb<=W.heap.size)(l:List (Ac×tG))(h0:l≠[])(hl:l.length<=1000)(hp:∀y∈l,Qg 0 W y.2 y.1.data)(cs:Array tG)(hcs:cs.toList=Jk l):Yy rb (W.alloc (.cells cs 42)) (tB (tE ⟨W.heap.size,0,tC⟩) l.length l.length) (l.map (fun y=>y.1)):=by
 obtain rfl:cs=⟨Jk l⟩:=by rw[<-hcs]
 exact⟨DI (w:=W.alloc _) rb W.heap.size l (tN W _) hrb hl fun y a=>(hp y a).keptT (tK _ _ tC) (.inl rfl),fun e=>absurd (List.map_eq_nil_iff.1 e) h0⟩
theorem Fk.all{w:tD}{a:Option Addr}{n cap:Nat}{l:List Rp}(h:Fk w (tB a n cap) l)(i:Nat)(hi:i<l.length):∃b o a4 c4 a5 c5 a6 c6 a8 c8 a9 c9 a10 c10 a12 c12 a13 c13 a14 c14,a=tE ⟨b,o,tC⟩∧w.cell? ⟨b,o+i*15,tC⟩=tE (tJ tL (l.getD i qG).sess)∧w.cell? ⟨b,o+i*15+1,tC⟩=tE (tJ tL (l.getD i qG).code)∧w.cell? ⟨b,o+i*15+2,tC⟩=tE (tJ tL (l.getD i qG).turn)∧w.cell? ⟨b,o+i*15+3,tC⟩=tE (tT (l.getD i qG).found)∧w.cell? ⟨b,o+i*15+4,tC⟩=tE (tB a4 (l.getD i qG).value.length c4)∧w.cell? ⟨b,o+i*15+5,tC⟩=tE (tB a5 (l.getD i qG).pairs.length c5)∧w.cell? ⟨b,o+i*15+6,tC⟩=tE (tB a6 (xE (l.getD i qG)).length c6)∧w.cell? ⟨b,o+i*15+7,tC⟩=tE (tT (X5 (l.getD i qG)).empty)∧w.cell? ⟨b,o+i*15+8,tC⟩=tE (tB a8 (X5 (l.getD i qG)).steps.length c8)∧w.cell? ⟨b,o+i*15+9,tC⟩=tE (tB a9 (X5 (l.getD i qG)).pair.1.length c9)∧w.cell? ⟨b,o+i*15+10,tC⟩=tE (tB a10 (X5 (l.getD i qG)).pair.2.length c10)∧w.cell? ⟨b,o+i*15+11,tC⟩=tE (tT (XZ (l.getD i qG)).empty)∧w.cell? ⟨b,o+i*15+12,tC⟩=tE (tB a12 (XZ (l.getD i qG)).steps.length c12)∧w.cell? ⟨b,o+i*15+13,tC⟩=tE (tB a13 (XZ (l.getD i qG)).pair.1.length c13)∧w.cell? ⟨b,o+i*15+14,tC⟩=tE (tB a14 (XZ (l.getD i qG)).pair.2.length c14)∧Qe w (tB a4 (l.getD i qG).value.length c4) (l.getD i qG).value∧Qp w (tB a5 (l.getD i qG).pairs.length c5) (l.getD i qG).pairs∧Qe w (tB a6 (xE (l.getD i qG)).length c6) (xE (l.getD i qG))∧Kz w (tU #[tT (X5 (l.getD i qG)).empty,tB a8 (X5 (l.getD i qG)).steps.length c8,tB a9 (X5 (l.getD i qG)).pair.1.length c9,tB a10 (X5 (l.getD i qG)).pair.2.length c10]) (X5 (l.getD i qG))∧Kz w (tU #[tT (XZ (l.getD i qG)).empty,tB a12 (XZ (l.getD i qG)).steps.length c12,tB a13 (XZ (l.getD i qG)).pair.1.length c13,tB a14 (XZ (l.getD i qG)).pair.2.length c14]) (XZ (l.getD i qG)):=by
 obtain⟨A,g,e,_,h⟩:=h;simp only[Value.slice.injEq]at e;obtain⟨rfl,_,_⟩:=e;rcases h with rfl|⟨b,o,rfl,h⟩;·simp at hi
 ·obtain⟨B,C,c,Q,N,O,G,H,ok,I,D,is,E,F,e,m,p,q,r,s⟩:=h i hi;simp only[Value.agg.injEq,Array.mk.injEq]at e;subst e;obtain⟨a4,c4,rfl⟩:=m.shape;obtain⟨a5,c5,rfl⟩:=p.shape;obtain⟨a6,c6,rfl⟩:=q.shape;have d:=r;have f:=s;obtain⟨P,M,R,j,t,u,v⟩:=r;obtain⟨K,J,L,k,x,y,z⟩:=s;simp only[Value.agg.injEq,Array.mk.injEq,List.cons.injEq,and_true]at j k;obtain⟨rfl,rfl,rfl,rfl⟩:=j;obtain⟨rfl,rfl,rfl,rfl⟩:=k;obtain⟨a8,c8,rfl⟩:=t.shape;obtain⟨a9,c9,rfl⟩:=u.shape;obtain⟨a10,c10,rfl⟩:=v.shape;obtain⟨a12,c12,rfl⟩:=x.shape;obtain⟨a13,c13,rfl⟩:=y.shape;obtain⟨a14,c14,rfl⟩:=z.shape;exact⟨b,o,a4,c4,a5,c5,a6,c6,a8,c8,a9,c9,a10,c10,a12,c12,a13,c13,a14,c14,rfl,c 0 (by decide),c 1 (by decide),c 2 (by decide),c 3 (by decide),c 4 (by decide),c 5 (by decide),c 6 (by decide),c 7 (by decide),c 8 (by decide),c 9 (by decide),c 10 (by decide),c 11 (by decide),c 12 (by decide),c 13 (by decide),c 14 (by decide),m,p,q,d,f⟩
theorem GO{w:tD}{b:Nat}{n:Nat}{x:Int}(hx:x=(n:Int))(hn:n<256)(hb:w.heap[b]?=tE (.cells #[tJ .u8 x] 5)):Qg 0 w (tB (tE ⟨b,0,tC⟩) 1 1) [tA n]:=by
 subst hx;refine⟨⟨tE ⟨b,0,tC⟩,1,rfl,Nat.le_refl _,.inr ⟨b,0,rfl,fun i a=>?_⟩⟩,.inr ⟨b,rfl,(Array.getElem?_eq_some_iff.1 hb).1,.inr ⟨_,_,hb⟩⟩⟩;obtain rfl:i=0:=by simpa using a
 simp[World.cell?,hb,Nat.mod_eq_of_lt hn]
theorem b9{w:tD}{b:Nat}{o p:Obj}(h:w.heap[b]?=tE o):(w.alloc p).heap[b]?=tE o:=Qd (tK _ _ tC) h
theorem dM(w:tD)(p q:Obj):((w.alloc q).alloc p).heap[w.heap.size+1]?=tE p:=by
 have h:=tN (w.alloc q) p;rwa[show(w.alloc q).heap.size=w.heap.size+1by simp]at h
theorem fU{k:Int}(hk:k=2∨k=4∨k=5∨k=8)(a b:UInt8):JI ⟨k,[a],[b],[],[]⟩:=by
 rcases hk with rfl|rfl|rfl|rfl<;>(refine⟨⟨?_,?_⟩,?_,?_,?_,?_,?_,?_,?_,?_⟩<;>simp[QS])
theorem Oa(a b c:UInt8):JI ⟨4,[a],[b],[],[c]⟩:=by
 refine⟨⟨?_,?_⟩,?_,?_,?_,?_,?_,?_,?_,?_⟩<;>simp[QS]
section
variable{D:List UInt8->List UInt8}
theorem Ij{r:Rq}(hr:JI r)(hk:r.kind=4∨r.kind=5):ZW r=⟨r.name,r.key,r.value,decide (r.kind=5)⟩:=by
 have h:YN r=0:=by rw[YN,(Vx r).2 hr,if_pos rfl,if_pos hk]
 rw[ZW,if_pos h]
theorem eY(n:Nat):Yv (n:Int) (n:Int)=tI:=by
 rw[Yv,decide_eq_true_iff];omega
end
section
variable{D:List UInt8->List UInt8}{v:Sv}
theorem CD{s:Nat}{r:Rq}(hw:v.waits s=tH)(hb:v.begun s=!decide (r.kind=1)):Zb v s r=tH:=by
 unfold Zb;rw[hw,hb];by_cases h:r.kind=1<;>simp[h]
theorem gJ(hu:v.up=tI){s:Nat}(hw:v.waits s=tH)(hb:v.begun s=tH):ZS D v (QY s (Vp 1))=Zq {v with begun:=Ko v.begun s tI,txns:=Ko v.txns s ⟨(v.synced:Int),[],[]⟩} (Au s (v.synced:Int)):=by
 rw[FF v s (Vn (.inl rfl)),if_neg (by simp[hu]),Vu,if_neg (by decide:¬(Vp 1).kind=8),CD hw (by rw[hb];rfl),if_neg (by decide),if_pos (show(Vp 1).kind=1from rfl)]
theorem e9(hu:v.up=tI){s:Nat}(hw:v.waits s=tH)(hb:v.begun s=tI)(hk:Yv (v.synced:Int) (v.txns s).start=tI){r:Rq}(hr:JI r)(h1:r.kind≠1)(h7:r.kind≠7)(h8:r.kind≠8):ZS D v (QY s r)=if r.kind=6then Ja D v s else VU v s r:=by
 rw[FF v s hr,if_neg (by simp[hu]),Vu,if_neg h8,CD hw (by rw[hb];simp[h1]),if_neg (by decide),if_neg h1,if_neg h7,hk,if_neg (by decide)]
theorem gC(hu:v.up=tI){s:Nat}(hw:v.waits s=tH):Same v (ZS D v (QY s (Vp 7)))∧(ZS D v (QY s (Vp 7))).begun s=tH:=by
 rw[FF v s (Vn (.inr (.inr rfl))),if_neg (by simp[hu]),Vu,if_neg (by decide:¬(Vp 7).kind=8)];unfold Zb;rw[hw,Bool.false_or,if_neg (by decide:¬(Vp 7).kind=1)];by_cases a:v.begun s=tI;·rw[if_neg (by simp[a]),if_neg (by decide:¬(Vp 7).kind=1),if_pos (show(Vp 7).kind=7from rfl)];exact⟨⟨rfl,rfl,rfl,rfl,rfl,rfl⟩,Zv _ _ _⟩
 ·rw[if_pos (by simp[a])];exact⟨⟨rfl,rfl,rfl,rfl,rfl,rfl⟩,(by simpa using a:v.begun s=tH)⟩
end
section
variable{D:List UInt8->List UInt8}{v:Sv}
def RS(i:Nat):Rq:=⟨2,[98],[tA i],[],[]⟩
def jN(i:Nat)(x:UInt8):Rq:=⟨4,[98],[tA i],[],[x]⟩
def F4(i:Nat)(x:UInt8):Q8:=⟨[98],[tA i],[x],tH⟩
def FC(q:Nat->UInt8):FL:=[([98],[([1],[q 1]),([2],[q 2]),([3],[q 3]),([4],[q 4])])]
def Ad(q:Nat->UInt8):Prop:=(q 1).toNat+(q 2).toNat+(q 3).toNat+(q 4).toNat=200
theorem Gw(i:Nat):JI (RS i):=fU (.inl rfl) 98 _
theorem Kn(i:Nat)(x:UInt8):JI (jN i x):=Oa 98 _ x
theorem KP{i:Nat}(h:1<=i∧i<=4):i=1∨i=2∨i=3∨i=4:=by
 omega
theorem Ss(q:Nat->UInt8){i:Nat}(h:1<=i∧i<=4):Uy (Yi (FC q) [98]) [tA i]=tE [q i]:=by
 rcases KP h with rfl|rfl|rfl|rfl<;>kernel_rfl
theorem aG(q:Nat->UInt8)(x z:UInt8){f t:Nat}(hf:1<=f∧f<=4)(ht:1<=t∧t<=4)(hn:f≠t):ZY (FC q) [F4 f x,F4 t z]=FC (Ko (Ko q f x) t z):=by
 rcases KP hf with rfl|rfl|rfl|rfl<;>rcases KP ht with rfl|rfl|rfl|rfl<;>first|exact absurd rfl hn|kernel_rfl
theorem fW{q:Nat->UInt8}(h:Ad q){x z:UInt8}{f t:Nat}(hf:1<=f∧f<=4)(ht:1<=t∧t<=4)(hn:f≠t)(hs:x.toNat+z.toNat=(q f).toNat+(q t).toNat):Ad (Ko (Ko q f x) t z):=by
 unfold Ad at*;rcases KP hf with rfl|rfl|rfl|rfl<;>rcases KP ht with rfl|rfl|rfl|rfl<;>first|exact absurd rfl hn|(simp only[Ko];simp;omega)
structure gU (v : Sv) : Prop where
  up : v.up = tI
  one : 1 <= v.synced
  fold : ∀ k, 1 <= k -> k <= v.commits.length -> ∃ q, Ad q ∧ Qv v k = FC q
theorem gU.same{u:Sv}(h:gU v)(k:Same v u):gU u:=by
 refine⟨by rw[k.up];exact h.up,by rw[k.synced];exact h.one,fun j b a=>?_⟩;rw[k.commits]at a;have e:Qv u j=Qv v j:=by unfold Qv;rw[k.commits]
 rw[e];exact h.fold j b a
structure jM (D : List UInt8 -> List UInt8) (L : List Ac) : Prop where
  ok : ∀ a ∈ L, XT a
  inv : gU (Y5 D L)
theorem vO{L:List Ac}(h:∀a∈L,XT a){x:Ac}(hx:XT x):∀a∈L++[x],XT a:=fun a c=>by
 rcases List.mem_append.1 c with b|b;·exact h a b
 ·obtain rfl:=List.mem_singleton.1 b;exact hx
theorem Ps{L:List Ac}(h:jM D L){s:Nat}(hs:s<=7){r:Rq}(hr:JI r)(hk:r.kind≠6):jM D (L++[QY s r]):=by
 refine⟨vO h.ok (YW hs hr),?_⟩;rw[VE];exact h.inv.same (uA _ s hr hk).toSame
theorem Ll{L:List Ac}(hD:∀x,(D x).length=4)(h:jM D L):jM D (L++[YF]):=by
 refine⟨vO h.ok EH,?_⟩;have a:=GR hD L h.ok;rw[VE,OG,if_pos h.inv.up];exact⟨h.inv.up,by show 1<=(Y5 D L).synced+_;have:=h.inv.one;omega,h.inv.fold⟩
theorem bJ{L:List Ac}(hD:∀x,(D x).length=4)(h:jM D L){k:Int}(h0:0<=k)(h1:k<=200000):jM D (L++[Xn k,J6]):=by
 have e:L++[Xn k,J6]=(L++[Xn k])++[J6]:=by simp
 refine⟨by rw[e];exact vO (vO h.ok (A8 h0 h1)) As,?_⟩;have c:=GR hD L h.ok;obtain⟨j,q,r,_,d,m,f,n,o,b⟩:=D0 hD c h0;rw[e,VE,VE,d];have p:=c.turn;refine⟨rfl,by show 1<=(ZS D (Y5 D L) (Xn k)).synced;rw[f];have:=h.inv.one;omega,fun i l a=>?_⟩;have a:i<=(ZS D (Y5 D L) (Xn k)).commits.length:=a;rw[b,List.length_take]at a;have g:Qv {ZS D (Y5 D L) (Xn k)with up:=tI} i=Qv (Y5 D L) i:=by show Kj [] ((ZS D (Y5 D L) (Xn k)).commits.take i)=_;rw[b,Wa (by omega)];rfl
 rw[g];exact h.inv.fold i l (by omega)
def dU(s f t:Nat):List Ac:=[QY s (Vp 7),QY s (Vp 1),QY s (RS f),QY s (RS t)]
def Ir(s f t:Nat)(x z:UInt8):List Ac:=[QY s (jN f x),QY s (jN t z)]
theorem SN{L:List Ac}(h:jM D L){s:Nat}(hs:s<=7)(f t:Nat):jM D (L++dU s f t):=by
 have e:L++dU s f t=(((L++[QY s (Vp 7)])++[QY s (Vp 1)])++[QY s (RS f)])++[QY s (RS t)]:=by simp[dU]
 rw[e];exact Ps (Ps (Ps (Ps h hs (Vn (.inr (.inr rfl))) (by decide)) hs (Vn (.inl rfl)) (by decide)) hs (Gw f) (by show(2:Int)≠6;decide)) hs (Gw t) (by show(2:Int)≠6;decide)
theorem Ld{L:List Ac}(h:jM D L){s:Nat}(hs:s<=7)(f t:Nat)(x z:UInt8):jM D (L++Ir s f t x z):=by
 have e:L++Ir s f t x z=(L++[QY s (jN f x)])++[QY s (jN t z)]:=by simp[Ir]
 rw[e];exact Ps (Ps h hs (Kn f x) (by show(4:Int)≠6;decide)) hs (Kn t z) (by show(4:Int)≠6;decide)
def Ii(s y:Nat)(x:UInt8):Rp:=⟨(s:Int),0,(y:Int),tI,[x],[],tC⟩
theorem SJ(hg:Zz D v)(hi:gU v){s:Nat}(hw:v.waits s=tH)(hb:v.begun s=tI){y:Nat}(hy:y=v.synced){rs:List Rd}(hx:v.txns s=⟨(y:Int),rs,[]⟩)(hrs:rs.length<=10){q:Nat->UInt8}(hq:Qv v y=FC q){i:Nat}(hi4:1<=i∧i<=4):∃u,ZS D v (QY s (RS i))=u∧u.begun=v.begun∧Same v u∧(∃rs',u.txns s=⟨(y:Int),rs',[]⟩∧rs'.length<=rs.length+1∧(∀r∈rs,r∈rs')∧⟨[98],[tA i],tH,[]⟩∈rs')∧u.out=v.out++[Ii s y (q i)]:=by
 have f:ZN (FC q):=by rw[<-hq];exact Vv _ _ UE
 have j:=(hg.tx s hb).1;have m:Yv (v.synced:Int) (v.txns s).start=tI:=by rw[hx,hy];exact eY _
 have b:Kh (FC q) (v.txns s) [98] [tA i]=0:=NJ f j ⟨by simp,by simp⟩ ⟨by simp,by simp⟩;have a:fM (v.txns s).writes [98] [tA i]=tC:=by rw[hx];rfl
 obtain⟨_,g1,g2⟩:=dG f [98] [tA i] ⟨by simp,by simp⟩ ⟨by simp,by simp⟩;rw[Ss q hi4]at g1 g2;have n:KX (FC q) (v.txns s) [98] [tA i]=tH:=by rw[KX,if_pos b,a];rfl
 have o:K8 (FC q) (v.txns s) [98] [tA i]=tI:=by rw[K8,if_pos b,a];exact g1
 have p:KS (FC q) (v.txns s) [98] [tA i]=[q i]:=by rw[KS,if_pos b,a];exact g2
 have c:Q9 (RS i)=⟨[98],[tA i],tH,[]⟩:=by rw[Q9,if_pos (by rw[(EF (Gw i)).1];rfl)];rfl
 have d:Xr (Q9 (RS i))=0:=z9 (Gw i) (.inl rfl);have g:Xa (v.txns s) (Q9 (RS i))=0:=by rw[Lw j d,hx];split;(·rfl);·rw[if_neg (by show¬rs.length=20;omega)]
 have l:Qv v (v.txns s).start.toNat=FC q:=by rw[hx];show Qv v (y:Int).toNat=_;rw[Int.toNat_natCast];exact hq
 have e:ZS D v (QY s (RS i))=Zq {v with txns:=Ko v.txns s (XI (v.txns s) (Q9 (RS i)))} (Ii s y (q i)):=by rw[e9 hi.up hw hb m (Gw i) (by show(2:Int)≠1;decide) (by show(2:Int)≠7;decide) (by show(2:Int)≠8;decide),if_neg (by show¬(2:Int)=6;decide),VU,if_neg (by show¬((2:Int)=4∨(2:Int)=5);decide),if_pos (show(RS i).kind=2from rfl),RY,l];show(if KX (FC q) (v.txns s) [98] [tA i]=tI then _ else _)=_;rw[n,if_neg (by decide),KV,g,if_pos rfl];show Zq _ ⟨(s:Int),0,(v.txns s).start,K8 (FC q) (v.txns s) [98] [tA i],KS (FC q) (v.txns s) [98] [tA i],[],tC⟩=_;rw[o,p,hx];rfl
 refine⟨_,e,rfl,⟨rfl,rfl,rfl,rfl,rfl,rfl⟩,?_,rfl⟩;have k:(Zq {v with txns:=Ko v.txns s (XI (v.txns s) (Q9 (RS i)))} (Ii s y (q i))).txns s=XI (v.txns s) (Q9 (RS i)):=Zv v.txns s _;rw[k,XI,if_pos g,c,hx];split;·rename_i h;refine⟨rs,rfl,by omega,fun _ h=>h,?_⟩;exact(Dv _ _).1 h
 ·exact⟨rs++[⟨[98],[tA i],tH,[]⟩],rfl,by simp,fun r h=>List.mem_append_left _ h,by simp⟩
theorem bU(hD:∀x,(D x).length=4){L:List Ac}(h:jM D L){s:Nat}(hs:s<=7){f t:Nat}(hf:1<=f∧f<=4)(ht:1<=t∧t<=4)(hn:f≠t){A:Oc}(hA:A=Rs (Y5 D (L++dU s f t))):4<=A.replies.length∧((A.replies.getD (A.replies.length-2) qG).code=6∨∃(y:Nat)(a b:UInt8),A.replies.getD (A.replies.length-2) qG=Ii s y a∧A.replies.getD (A.replies.length-1) qG=Ii s y b∧∀x z:UInt8,x.toNat+z.toNat=a.toNat+b.toNat->jM D (L++dU s f t++Ir s f t x z++[QY s (Vp 6)])):=by
 have hg:=GR hD L h.ok;have ah:=SN h hs f t;have H:Y5 D (L++dU s f t)=ZS D (ZS D (ZS D (ZS D (Y5 D L) (QY s (Vp 7))) (QY s (Vp 1))) (QY s (RS f))) (QY s (RS t)):=by rw[PZ];rfl
 obtain⟨v,hv⟩:∃v,v=Y5 D L:=⟨_,rfl⟩;have F:=h.inv;rw[<-hv]at hg F H;by_cases p:v.waits s=tI;·(have e:∀(u:Sv)(r:Rq),JI r->r.kind≠8->u.up=tI->u.waits s=tI->ZS D u (QY s r)=Zq u (Uw s 6):=fun u r hr h8 hu p=>by rw[FF u s hr,if_neg (by simp[hu]),Vu,if_neg h8];(have hb:Zb u s r=tI:=by unfold Zb;rw[p];rfl);rw[hb,if_pos rfl]);rw[e v _ (Vn (.inr (.inr rfl))) (by decide) F.up p,e (Zq v (Uw s 6)) _ (Vn (.inl rfl)) (by decide) F.up p,e (Zq (Zq v (Uw s 6)) (Uw s 6)) _ (Gw f) (by show(2:Int)≠8;decide) F.up p,e (Zq (Zq (Zq v (Uw s 6)) (Uw s 6)) (Uw s 6)) _ (Gw t) (by show(2:Int)≠8;decide) F.up p]at H;(have P:A.replies=v.out++[Uw s 6,Uw s 6,Uw s 6,Uw s 6]:=by rw[hA,H];show(((v.out++[Uw s 6])++[Uw s 6])++[Uw s 6])++[Uw s 6]=_;simp);refine⟨by rw[P];simp,.inl ?_⟩;rw[P];simp[Uw]
 ·(have p:v.waits s=tH:=by simpa using p);obtain⟨C,b1⟩:=gC (D:=D) F.up p;have g1:=hg.act hD (YW hs (Vn (.inr (.inr rfl))):XT (QY s (Vp 7)));obtain⟨x1,be,_⟩:=(uA (D:=D) v s (Vn (.inr (.inr rfl))) (by decide)).out;generalize ZS D v (QY s (Vp 7))=v1 at*;(have u1:v1.up=tI:=by rw[C.up];exact F.up);(have w1:v1.waits s=tH:=by rw[C.waits];exact p);have e2:=gJ (D:=D) u1 w1 b1;have g2:=g1.act hD (YW hs (Vn (.inl rfl)):XT (QY s (Vp 1)));have N:Same v (ZS D v1 (QY s (Vp 1))):=C.trans (uA (D:=D) v1 s (Vn (.inl rfl)) (by decide)).toSame;(have b2:(ZS D v1 (QY s (Vp 1))).begun s=tI:=by rw[e2];exact Zv v1.begun s tI);(have x2:(ZS D v1 (QY s (Vp 1))).txns s=⟨(v1.synced:Int),[],[]⟩:=by rw[e2];exact Zv v1.txns s _);(have o2:(ZS D v1 (QY s (Vp 1))).out=v.out++[x1,Au s (v1.synced:Int)]:=by rw[e2];show v1.out++[_]=_;rw[be];simp);generalize ZS D v1 (QY s (Vp 1))=v2 at*;have o:=F.same N;(have sy:v1.synced=v2.synced:=by rw[C.synced,N.synced]);rw[sy]at x2 o2;(have ax:v2.synced<=v2.commits.length:=by have:=g2.turn;omega);obtain⟨q,cf,J⟩:=o.fold v2.synced o.one ax;(have w2:v2.waits s=tH:=by rw[N.waits];exact p);obtain⟨v3,e3,b3,g,⟨cq,x3,l3,_,m3⟩,o3⟩:=SJ (D:=D) g2 o w2 b2 rfl x2 (by simp) J hf;have g3:=g2.act hD (YW hs (Gw f):XT (QY s (RS f)));rw[e3]at g3 H;have Y:=o.same g;(have aq:Qv v3 v2.synced=FC q:=by unfold Qv;rw[g.commits];exact J);obtain⟨l,e4,b4,E,⟨w,x4,l4,k4,m4⟩,o4⟩:=SJ (D:=D) g3 Y (by rw[g.waits];exact w2) (by rw[b3];exact b2) (by rw[g.synced]) x3 (by simp at l3;omega) aq ht;have g4:=g3.act hD (YW hs (Gw t):XT (QY s (RS t)));rw[e4]at g4 H;have I:=Y.same E;(have P:A.replies=v.out++[x1,Au s (v2.synced:Int),Ii s v2.synced (q f),Ii s v2.synced (q t)]:=by rw[hA,H];show l.out=_;rw[o4,o3,o2];simp);refine⟨by rw[P];simp,.inr ⟨v2.synced,q f,q t,by rw[P];simp,by rw[P];simp,fun x z bd=>?_⟩⟩;have ag:=Ld ah hs f t x z;refine⟨vO ag.ok (YW hs (Vn (.inr (.inl rfl)))),?_⟩;rw[VE];(have w4:l.waits s=tH:=by rw[E.waits,g.waits];exact w2);(have R:l.begun s=tI:=by rw[b4,b3];exact b2);(have O:l.synced=v2.synced:=by rw[E.synced,g.synced]);(have aa:∀(u:Sv)(i:Nat)(c:UInt8)(ws:List Q8),Zz D u->u.up=tI->u.waits s=tH->u.begun s=tI->u.synced=v2.synced->u.txns s=⟨(v2.synced:Int),w,ws⟩->ws.length<=3->ZS D u (QY s (jN i c))=Zq {u with txns:=Ko u.txns s ⟨(v2.synced:Int),w,GQ ws (F4 i c)⟩} (Uw s 0):=fun u i c ws aj hu bc U aw K cd=>by(have bb:ZW (jN i c)=F4 i c:=by rw[Ij (Kn i c) (.inl rfl)];rfl);have ba:Qx (ZW (jN i c))=0:=EO (Kn i c) (.inl rfl);(have ew:ZP (u.txns s) (ZW (jN i c))=0:=by rw[ZP,if_pos ((zI _).2 (aj.tx s U).1),if_pos ba,K];split;(·rfl);·rw[if_neg (by show¬ws.length=10;omega)]);rw[e9 hu bc U (by rw[K,aw];exact eY _) (Kn i c) (by show(4:Int)≠1;decide) (by show(4:Int)≠7;decide) (by show(4:Int)≠8;decide),if_neg (by show¬(4:Int)=6;decide),VU,if_pos (.inl rfl),GH,ew,if_pos rfl,Ye,if_pos ew,K,bb]);have e5:=aa l f x [] g4 I.up w4 R O x4 (by simp);have g5:=g4.act hD (YW hs (Kn f x):XT (QY s (jN f x)));have k:Same l (ZS D l (QY s (jN f x))):=(uA (D:=D) l s (Kn f x) (by show(4:Int)≠6;decide)).toSame;(have b5:(ZS D l (QY s (jN f x))).begun s=tI:=by rw[e5];exact R);(have x5:(ZS D l (QY s (jN f x))).txns s=⟨(v2.synced:Int),w,[F4 f x]⟩:=by rw[e5];exact Zv l.txns s _);(have S:Y5 D (L++dU s f t++Ir s f t x z)=ZS D (ZS D l (QY s (jN f x))) (QY s (jN t z)):=by rw[PZ,H];rfl);generalize ZS D l (QY s (jN f x))=v5 at*;have e6:=aa v5 t z [F4 f x] g5 (by rw[k.up];exact I.up) (by rw[k.waits];exact w4) b5 (by rw[k.synced];exact O) x5 (by simp);have T:=g5.act hD (YW hs (Kn t z):XT (QY s (jN t z)));have B:Same v5 (ZS D v5 (QY s (jN t z))):=(uA (D:=D) v5 s (Kn t z) (by show(4:Int)≠6;decide)).toSame;(have ap:GQ [F4 f x] (F4 t z)=[F4 f x,F4 t z]:=by(have ao:ZG (F4 f x) (F4 t z)=tH:=by rcases KP hf with rfl|rfl|rfl|rfl<;>rcases KP ht with rfl|rfl|rfl|rfl<;>first|exact absurd rfl hn|(simp[ZG,F4]));rw[GQ,ao,if_neg (by decide)];rfl);(have x6:(ZS D v5 (QY s (jN t z))).txns s=⟨(v2.synced:Int),w,[F4 f x,F4 t z]⟩:=by rw[e6,<-ap];exact Zv v5.txns s _);have d:gU (ZS D v5 (QY s (jN t z))):=(I.same k).same B;rw[<-S]at T B x6 d;rw[S]at T B x6 d⊢;generalize ZS D v5 (QY s (jN t z))=v6 at*;(have ea:ZS D v6 (QY s (Vp 6))=Ue D v6 s (XH (Vp 6)):=by show(if(1:Int)=1then Ue D v6 (s:Int).toNat (XH (Vp 6))else _)=_;rw[if_pos rfl,Int.toNat_natCast]);rw[ea];rcases Bh D v6 s (XH (Vp 6))with h1|⟨_,_,_,_,ai,Q⟩;(·exact d.same h1.toSame);·obtain⟨n,an⟩:∃n,n=v6.commits.length:=⟨_,rfl⟩;have W:=Q.clash;have ay:Ga (v6.txns s)=0:=(zI _).2 (T.tx s ai).1;rw[Jz,if_pos ay]at W;(have bl:v6.synced=v2.synced:=by rw[B.synced,k.synced];exact O);(have cc:v2.synced<=n:=by have:=T.turn;omega);(have Z:v6.commits=v2.commits:=by rw[B.commits,k.commits,E.commits,g.commits]);obtain⟨M,al,am⟩:=d.fold n (by have:=o.one;omega) (by omega);(have m:Kj [] v6.commits=FC M:=by rw[<-am];unfold Qv;rw[an,List.take_length]);(have av:(v6.txns s).start=(v2.synced:Int):=by rw[x6]);(have X:∀i,1<=i∧i<=4->⟨[98],[tA i],tH,[]⟩∈w->M i=q i:=fun i G hm=>by have V:=Ic T.goes av W (r:=⟨[98],[tA i],tH,[]⟩) (by rw[x6];exact hm) rfl;(have ak:Kj [] (v6.commits.take v2.synced)=FC q:=by rw[Z];exact J);rw[m,ak]at V;have V:Uy (Yi (FC M) [98]) [tA i]=Uy (Yi (FC q) [98]) [tA i]:=V;rw[Ss M G,Ss q G]at V;simpa using V);have ar:=X f hf (k4 _ m3);have au:=X t ht m4;refine⟨by rw[Q.up];exact d.up,by rw[Q.synced];exact d.one,fun j j1 j2=>?_⟩;rw[Q.commits,List.length_append,List.length_singleton]at j2;by_cases hj:j<=n;(·(have ef:Qv (Ue D v6 s (XH (Vp 6))) j=Qv v6 j:=by unfold Qv;rw[Q.commits,List.take_append_of_le_length (by omega)]);rw[ef];exact d.fold j j1 (by omega));·(obtain rfl:j=n+1:=by omega);refine⟨Ko (Ko M f x) t z,fW al hf ht hn (by rw[ar,au];exact bd),?_⟩;unfold Qv;rw[Q.commits,List.take_of_length_le (by rw[List.length_append];simp;omega),Re,m];show ZY (FC M) (v6.txns s).writes=_;rw[x6];exact aG M x z hf ht hn
def Ud:List Ac:=[QY 0 (Vp 1),QY 0 (jN 1 50),QY 0 (jN 2 50),QY 0 (jN 3 50),QY 0 (jN 4 50),QY 0 (Vp 6),YF]
theorem Lp:∀a∈Ud,XT a∧a.kind≠3:=fun a b=>by
 simp only[Ud,List.mem_cons,List.not_mem_nil,or_false]at b;rcases b with rfl|rfl|rfl|rfl|rfl|rfl|rfl;·exact⟨YW (by decide) (Vn (.inl rfl)),by simp[QY]⟩
 ·exact⟨YW (by decide) (Kn _ _),by simp[QY]⟩
 ·exact⟨YW (by decide) (Kn _ _),by simp[QY]⟩
 ·exact⟨YW (by decide) (Kn _ _),by simp[QY]⟩
 ·exact⟨YW (by decide) (Kn _ _),by simp[QY]⟩
 ·exact⟨YW (by decide) (Vn (.inr (.inl rfl))),by simp[QY]⟩
 ·exact⟨EH,by simp[YF]⟩
theorem iM:((dC Ud).up,(dC Ud).synced,(dC Ud).commits)=(tI,1,[⟨1,[F4 1 50,F4 2 50,F4 3 50,F4 4 50]⟩]):=by
 kernel_rfl
theorem Bf(v:Sv):(Vb v).up=v.up∧(Vb v).synced=v.synced∧(Vb v).commits=v.commits:=⟨rfl,rfl,rfl⟩
theorem iR:Kj [] ([(⟨1,[F4 1 50,F4 2 50,F4 3 50,F4 4 50]⟩:Xo)].take 1)=FC (fun _=>50):=by
 kernel_rfl
theorem aD(hD:∀x,(D x).length=4):jM D Ud:=by
 refine⟨fun a j=>(Lp a j).1,?_⟩;have l:Vb (Y5 D Ud)=dC Ud:=EP hD Ud Am (Tm D) Lp;have e:=iM;simp only[Prod.mk.injEq]at e;obtain⟨g,h,i⟩:=e;obtain⟨d,f,c⟩:=Bf (Y5 D Ud);rw[l]at d f c;rw[g]at d;rw[h]at f;rw[i]at c;generalize Y5 D Ud=v at*;refine⟨d.symm,by omega,fun k a b=>?_⟩;rw[<-c]at b;obtain rfl:k=1:=by simp at b;omega
 refine⟨fun _=>50,by show(50:UInt8).toNat+(50:UInt8).toNat+(50:UInt8).toNat+(50:UInt8).toNat=200;decide,?_⟩;unfold Qv;rw[<-c];exact iR
theorem fV(hD:∀x,(D x).length=4){L:List Ac}(h:jM D L){A:Oc}(hA:A=Rs (Y5 D L)):∃q,Ad q∧A.forest=FC q:=by
 have c:=GR hD L h.ok;have:=c.turn;obtain⟨q,a,b⟩:=h.inv.fold (Y5 D L).synced h.inv.one (by omega);exact⟨q,a,by rw[hA];exact b⟩
end
def SP.bytes(bs:List UInt8):SP:=⟨fun v w=>Qe w v bs,fun _ _ _ hg h=>h.grown hg⟩
def SP.rq(r:Rq):SP:=⟨fun v w=>Ux w v r,fun _ _ _ hg h=>h.grown hg⟩
def SP.ask(s:Int)(d:List UInt8):SP:=⟨fun v w=>∃xa xc,v=tU #[tJ tL 1,tJ tL s,tJ tL 0,tB xa d.length xc]∧Qg 0 w (tB xa d.length xc) d,fun _ _ _ hg⟨xa,xc,e,h⟩=>⟨xa,xc,e,h.keptT hg (.inl rfl)⟩⟩
def SP.own(l:List Ac):SP:=⟨fun v w=>Yy 0 w v l,fun _ _ _ hg h=>h.grown hg⟩
theorem Zu{o:tS}{ev:tP->tG}{w:tD}{v:tG}{p:tG->tD->Prop}(h:(execOp ev o).run tF w=.ok (.value v) w)(hp:p v w):GG tF o ev w (fun v w'=>tM w w' tC∧p v w'):=GG.val h ⟨Qb _ _,hp⟩
theorem Cv{o:tS}{ev:tP->tG}{w:tD}{c:Nat}{x:Int}{b:UInt8}(h:(execOp ev o).run tF w=.ok (.value (tB (tE ⟨w.heap.size,0,tC⟩) 1 1)) (w.alloc (.cells #[tJ .u8 x] 5)))(hx:x=(c:Int))(hc:c<256)(hb:b=tA c):GG tF o ev w (fun v w'=>tM w w' tC∧Qe w' v [b]):=GG.val h ⟨tK _ _ tC,by
 rw[hb];exact(GO hx hc (tN w _)).1⟩
theorem Cn{o:tS}{ev:tP->tG}{w:tD}{s:Int}{v:tG}{r:Rq}{d:List UInt8}(h:(execOp ev o).run tF w=.ok (.enter 7 #[tJ tL s,v]) w)(hP:UC w)(hv:Ux w v r)(hr:JI r)(hd:d=XH r):GG tF o ev w (fun v w'=>tM w w' tC∧(SP.ask s d).p v w'):=by
 refine GG.call h ((SC w s v r hP hv hr).mono ?_);rintro e w'⟨c,f,rfl,b,a⟩;subst hd;exact⟨_,rfl,a,c,f,rfl,b⟩
theorem R6{w:tD}{o:tS}{a:Act}{K:Act->tD->Prop}{Q:Exit->Act->tD->Prop}(s x:tP)(ho:o.op=.call {callee:=.builtin .append,args:=#[s,x],argTypes:=#[40,40]})(rb:Nat)(v:tG)(l:List Ac)(hs:a.eval s=v)(hown:Yy rb w v l)(r2:Nat)(u:tG)(m:List Ac)(hx:a.eval x=u)(hsrc:UQ r2 w u m)(hl:l.length+m.length<=1000)(hbase:rb<=w.heap.size)(h:∀v' w',Hc rb w w' v v' (l++m)->K (a.put o.dst v') w'):o.wp tF a w K Q:=by
 by_cases c:l++m=[];·obtain⟨rfl,rfl⟩:=List.append_eq_nil_iff.1 c;have f:=hown.2 rfl;obtain⟨r,t,rfl⟩:=hsrc.shape;obtain⟨q,j,k,n,p⟩:=tV Mx;have b:=Vc (P:=tF) (w:=w) rb 40 o.type 42 q 4 tR j (tB tC 0 0) 0 [] (tQ _ _ _ _) r t;rw[f]at hs;unfold Oper.wp;simp[execOp,ho,resolve,invoke,builtin,hs,hx,b,Result.andThen];rw[f]at hown h;exact h _ w ⟨hown,KL.refl _,⟨rfl,rfl,rfl,Nat.le_refl _,fun _ _ _=>rfl⟩,fun _ e=>.inl e⟩
 ·refine jX s x ho rb v l hs hown.1 r2 u m hx hsrc (by omega) hbase fun v' w' g d i=>h v' w' ⟨⟨g,fun e=>absurd e c⟩,KL.turn d hown.row,d,i⟩
end Go.Proofs.YtpimcmbjdcjmlaaGreatDoor
