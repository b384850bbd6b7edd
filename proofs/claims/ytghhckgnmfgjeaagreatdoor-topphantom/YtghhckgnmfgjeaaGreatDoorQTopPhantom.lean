/-
  canopytop.TopPhantom returns true at every argument and leaves its arguments as they were: the tied card. Conditions: those of the card alone (the listed variables start as the program's text lays them).
  Texts of this proof, joined, with few blanks: SrvW, SrvX, SrvY0, TLit, PhantomF, LTpPhantom, TopPhantom.
-/
import Derived.Test.YtghhckgnmfgjeaaGreatDoorQ49
set_option maxRecDepth 100000
set_option maxHeartbeats 8000000
open Bool renaming false->I,true->K
open Decidable renaming decide->Y
open Go renaming Calls->Q,heap_alloc_new->u,World->tA,Value->tJ,TypeId->tQ
open Go.IntKind renaming wrap_u8->tB,u8->tH
open Go.OpenSpec renaming ofChange->g,preRow_of_cond->tR
open Go.Proofs.Tryz renaming prog->E,underlying3->T,f12->X,func12->tC,checked->tG,params12->tN
open Go.RowKit renaming Hid->R
open Go.World renaming grownBy->J,grownBy_alloc->M,holding->tE
open List renaming getD_eq_getElem?_getD->S,mem_cons->m,mem_cons_of_mem->tI,mem_cons_self->tK,not_mem_nil->tL,foldl_cons->tM,range->tP
open Nat renaming mod_eq_of_lt->tD
open Option renaming none->B,some->N
open UInt8 renaming ofNat->G
namespace Go.Proofs.YtghhckgnmfgjeaaGreatDoor
open Go.RowKit
section
variable{D:List UInt8->List UInt8}{v:Sv}
theorem flat_le(hD:∀x,(D x).length=4):∀(cs:List Xz),(∀c∈cs,Q9 c=0)->(Q5 D cs).length<=600*cs.length|[],_=>by simp[Q5]|c::cs,h=>by have h1:=(D9 hD (h c tK)).2;have h2:=flat_le hD cs (fun x hx=>h x (tI _ hx));(have e:Q5 D (c::cs)=ZC D c++Q5 D cs:=by simp[Q5]);rw[e,List.length_append,List.length_cons];omega
theorem Za.each(h:Za D v):∀c∈v.commits,Q9 c=0:=fun c hc=>by
 obtain⟨i,hi,e⟩:=List.getElem_of_mem hc;have:=(h.goes.at i hi).1;rw[S,List.getElem?_eq_getElem hi,e]at this;exact this
theorem app_fits(hD:∀x,(D x).length=4)(h:Za D v){s:Nat}(hb:v.begun s=K)(hw:¬(v.txns s).writes.length=0):Vj D v.tape (Jg v s)=0:=by
 have hm:=h.many;have hc:Q9 (Jg v s)=0:=Dp (h.tx s hb).1 hw v.commits.length hm;have h1:=(D9 hD hc).2;have h2:=flat_le hD v.commits h.each;have hd:=h.data;rw[Vj,if_pos h.may,if_pos hc,if_neg (by rw[hd];omega)]
def commitW(v:Sv)(s:Nat):Sv:=if(v.txns s).writes.length=0then ZJ (XF v s) (IE s (v.txns s).start)else if v.queue.length=6∨v.commits.length=300then ZJ v (VN s 11)else if Ux (v.txns s) v.commits=K then ZJ (XF v s) (VN s 9)else if QZ (QH v v.commits.length) (v.txns s).writes≠0then ZJ (XF v s) (VN s (QZ (QH v v.commits.length) (v.txns s).writes))else{XF v s with commits:=v.commits++[Jg v s],queue:=v.queue++[s],waits:=Um v.waits s K}
def reqW(v:Sv)(s:Nat)(r:Rq):Sv:=if r.kind=8then Ew v s r else if QG v s r=K then ZJ v (VN s 6)else if r.kind=1then ZJ {v with begun:=Um v.begun s K,txns:=Um v.txns s ⟨(v.synced:Int),[],[]⟩} (IE s (v.synced:Int))else if r.kind=7then ZJ (XF v s) (VN s 0)else if ZG (v.synced:Int) (v.txns s).start=I then ZJ (XF v s) (VN s 10)else if r.kind=6then commitW v s else yT v s r
def askW(v:Sv)(s:Nat)(data:List UInt8):Sv:=if v.up=I then ZJ v (VN s 13)else if QI data=0then reqW v s (Qu data)else ZJ v (VN s (QI data))
def syncW(v:Sv):Sv:={v with synced:=v.synced+v.queue.length,waits:=Ut v.waits v.queue,queue:=[],out:=v.out++JF v.synced v.queue}
def actW(v:Sv)(a:Ac):Sv:=if a.kind=1then askW v a.sess.toNat a.data else if a.kind=2then(if v.up=K then syncW v else v)else{v with up:=K}
def runW(l:List Ac):Sv:=l.foldl actW LD
def bare(v:Sv):Sv:={v with tape:=VU}
theorem bare_tell(v:Sv)(r:Rp):bare (ZJ v r)=ZJ (bare v) r:=rfl
theorem bare_out(v:Sv):jX (bare v)=jX v:=rfl
theorem bare_note(v:Sv)(s:Nat)(x:Rd)(o:Rp):bare (Uo v s x o)=Uo (bare v) s x o:=by
 unfold Uo;show bare (if Xe (v.txns s) x=0then _ else _)=if Xe (v.txns s) x=0then _ else _;split<;>rfl
theorem bare_work(v:Sv)(s:Nat)(r:Rq):bare (yT v s r)=yT (bare v) s r:=by
 unfold yT;split;·unfold VK;show bare (ZJ (if Xg (v.txns s) _=0then _ else _) _)=ZJ (if Xg (v.txns s) _=0then _ else _) _;split<;>rfl
 ·split;(·unfold Nb;show bare (if Vw (QH v (v.txns s).start.toNat) (v.txns s) r.name r.key=K then _ else _)=if Vw (QH v (v.txns s).start.toNat) (v.txns s) r.name r.key=K then _ else _;split;(·rfl);·exact bare_note v s _ _);·unfold uP;show bare (if Kl (QH v (v.txns s).start.toNat) (v.txns s) r.name r.key r.last=0then _ else _)=if Kl (QH v (v.txns s).start.toNat) (v.txns s) r.name r.key r.last=0then _ else _;split;(·exact bare_note v s _ _);·rfl
theorem bare_commit(hD:∀x,(D x).length=4)(h:Za D v){s:Nat}(hb:v.begun s=K):bare (JC D v s)=commitW (bare v) s:=by
 unfold JC commitW;show bare (if(v.txns s).writes.length=0then _ else if v.queue.length=6∨v.commits.length=300then _ else if Ux (v.txns s) v.commits=K then _ else if QZ (QH v v.commits.length) (v.txns s).writes≠0then _ else _)=if(v.txns s).writes.length=0then _ else if v.queue.length=6∨v.commits.length=300then _ else if Ux (v.txns s) v.commits=K then _ else if QZ (QH v v.commits.length) (v.txns s).writes≠0then _ else _;by_cases h1:(v.txns s).writes.length=0;·rw[if_pos h1,if_pos h1];rfl
 ·rw[if_neg h1,if_neg h1];by_cases h2:v.queue.length=6∨v.commits.length=300;(·rw[if_pos h2,if_pos h2];rfl);·rw[if_neg h2,if_neg h2];by_cases h3:Ux (v.txns s) v.commits=K;(·rw[if_pos h3,if_pos h3];rfl);·rw[if_neg h3,if_neg h3];by_cases h4:QZ (QH v v.commits.length) (v.txns s).writes≠0;(·rw[if_pos h4,if_pos h4];rfl);·rw[if_neg h4,if_neg h4,if_neg (fun e=>e (app_fits hD h hb h1))];rfl
theorem bare_req(hD:∀x,(D x).length=4)(h:Za D v)(s:Nat)(r:Rq):bare (Y6 D v s r)=reqW (bare v) s r:=by
 unfold Y6 reqW;have es:QG (bare v) s r=QG v s r:=rfl;rw[es];by_cases h1:r.kind=8;·rw[if_pos h1,if_pos h1];rfl
 ·rw[if_neg h1,if_neg h1];by_cases h2:QG v s r=K;(·rw[if_pos h2,if_pos h2];rfl);·rw[if_neg h2,if_neg h2];by_cases h3:r.kind=1;(·rw[if_pos h3,if_pos h3];rfl);·rw[if_neg h3,if_neg h3];(have hb:v.begun s=K:=by unfold QG at h2;rw[if_neg h3]at h2;cases hw:v.waits s<;>cases hv:v.begun s<;>simp[hw,hv]at h2⊢);by_cases h4:r.kind=7;(·rw[if_pos h4,if_pos h4];rfl);·rw[if_neg h4,if_neg h4];show bare (if ZG (v.synced:Int) (v.txns s).start=I then _ else _)=if ZG (v.synced:Int) (v.txns s).start=I then _ else _;by_cases h5:ZG (v.synced:Int) (v.txns s).start=I;(·rw[if_pos h5,if_pos h5];rfl);·rw[if_neg h5,if_neg h5];by_cases h6:r.kind=6;(·rw[if_pos h6,if_pos h6];exact bare_commit hD h hb);·rw[if_neg h6,if_neg h6];exact bare_work v s r
theorem bare_act(hD:∀x,(D x).length=4)(h:Za D v){a:Ac}(ha:a.kind≠3):bare (Zg D v a)=actW (bare v) a:=by
 unfold Zg actW;by_cases h1:a.kind=1;·rw[if_pos h1,if_pos h1];unfold Z5 askW;show bare (if v.up=I then _ else _)=if v.up=I then _ else _;split;(·rfl);·split;(·exact bare_req hD h _ _);·rfl
 ·rw[if_neg h1,if_neg h1];by_cases h2:a.kind=2;(·rw[if_pos h2,if_pos h2];show bare (if v.up=K then _ else _)=if v.up=K then _ else _;split<;>rfl);·rw[if_neg h2,if_neg h2,if_neg ha];rfl
theorem bare_acts(hD:∀x,(D x).length=4):∀(l:List Ac)(v:Sv),Za D v->(∀a∈l,Y1 a∧a.kind≠3)->bare (l.foldl (Zg D) v)=l.foldl actW (bare v)|[],_,_,_=>rfl|a::l,v,h,ha=>by have h1:=ha a tK;rw[tM,tM,bare_acts hD l _ (h.act hD h1.1) (fun x hx=>ha x (tI _ hx)),bare_act hD h h1.2]
theorem runW_out(hD:∀x,(D x).length=4)(l:List Ac)(h:∀a∈l,Y1 a∧a.kind≠3):jX (U3 D l)=jX (runW l):=by
 rw[<-bare_out,U3,bare_acts hD l LD (C3 D) h];rfl
end
theorem all_bytes{P:UInt8->Prop}(h:∀i:Fin 256,P (G i.val))(b:UInt8):P b:=by
 have:=h ⟨b.toNat,b.toNat_lt⟩;rwa[show G b.toNat=b by simp]at this
/-!TopOwn. -/
def ownA(b:UInt8)(gone:Bool):List Ac:=[K9 0 (Fj 1),K9 0 ⟨4,[111],[107],[],[7]⟩,K9 0 (if gone=K then⟨5,[111],[107],[],[]⟩else⟨4,[111],[107],[],[b]⟩),K9 0 ⟨2,[111],[107],[],[]⟩,K9 0 ⟨3,[111],[97],[122],[]⟩]
def ownT(o:Oc)(fs:List Bool)(vs:List (List UInt8))(ks ws:List (List (List UInt8))):Bool:=Y (o.turn=0)&&Y (o.replies.map (fun r=>r.code)=[0,0,0,0,0])&&Y (o.replies.map (fun r=>r.found)=fs)&&Y (o.replies.map (fun r=>r.value)=vs)&&Y (o.replies.map (fun r=>r.pairs.map (fun p=>p.1))=ks)&&Y (o.replies.map (fun r=>r.pairs.map (fun p=>p.2))=ws)
theorem own_put(b:UInt8):ownT (jX (runW (ownA b I))) [I,I,I,K,I] [[],[],[],[b],[]] [[],[],[],[],[[107]]] [[],[],[],[],[[b]]]=K:=all_bytes (P:=fun b=>ownT (jX (runW (ownA b I))) [I,I,I,K,I] [[],[],[],[b],[]] [[],[],[],[],[[107]]] [[],[],[],[],[[b]]]=K) (by
 decide+kernel) b
theorem own_gone(b:UInt8):ownT (jX (runW (ownA b K))) [I,I,I,I,I] [[],[],[],[],[]] [[],[],[],[],[]] [[],[],[],[],[]]=K:=all_bytes (P:=fun b=>ownT (jX (runW (ownA b K))) [I,I,I,I,I] [[],[],[],[],[]] [[],[],[],[],[]] [[],[],[],[],[]]=K) (by
 decide+kernel) b
/-!TopGone. -/
def goneR(k:Nat):List Ac:=(tP k).flatMap (fun i=>[K9 0 (Fj 1),K9 0 ⟨4,[97],[G (i+1)],[],[]⟩,K9 0 (Fj 6),vF])
def goneA(k:Nat):List Ac:=K9 3 (Fj 1)::goneR k++[K9 3 ⟨2,[97],[1],[],[]⟩,K9 3 (Fj 7)]
def goneT(k:Nat)(o:Oc):Bool:=Y (o.replies.length=3*k+3)&&Y (o.turn=(k:Int))&&(match o.replies[3*k+1]?,o.replies[3*k+2]?with|N a,N b=>if k<6then Y (a.code=0∧a.found=I∧a.turn=0∧b.code=0)else Y (a.code=10∧b.code=6)|_,_=>I)
theorem gone_all:∀k:Fin 12,goneT k.val (jX (runW (goneA k.val)))=K:=by
 decide+kernel
/-!TopQueue. -/
def queueA(k:Nat):List Ac:=(tP k).flatMap (fun i=>[K9 (i%8) (Fj 1),K9 (i%8) ⟨4,[97],[G (i+1)],[],[]⟩,K9 (i%8) (Fj 6)])
def queueT(k:Nat)(o p:Oc):Bool:=Y (o.pending=((min k 6:Nat):Int)∧o.turn=0∧p.turn=((min k 6:Nat):Int)∧p.pending=0∧o.forest.length=0∧o.replies.length=2*min k 6+3*(k-min k 6))
theorem queue_all:∀k:Fin 10,queueT k.val (jX (runW (queueA k.val))) (jX (runW (queueA k.val++[vF])))=K:=by
 decide+kernel
theorem askW_ok(v:Sv)(hu:v.up=K)(s:Nat){r:Rq}(hr:Ye r):actW v (K9 s r)=reqW v s r:=by
 show(if(1:Int)=1then askW v (s:Int).toNat (JZ r)else _)=_;rw[if_pos rfl,Int.toNat_natCast,askW,(TN hr).1,(TN hr).2,if_neg (by simp[hu]),if_pos rfl]
theorem beginW(v:Sv)(hu:v.up=K){s:Nat}(hw:v.waits s=I)(hb:v.begun s=I):actW v (K9 s (Fj 1))=ZJ {v with begun:=Um v.begun s K,txns:=Um v.txns s ⟨(v.synced:Int),[],[]⟩} (IE s (v.synced:Int)):=by
 have hs:QG v s (Fj 1)=I:=by unfold QG;rw[hw,if_pos (show(Fj 1).kind=1from rfl),hb];rfl
 rw[askW_ok v hu s (OA (.inl rfl)),reqW,if_neg (by decide:¬(Fj 1).kind=8),hs,if_neg (by decide),if_pos (show(Fj 1).kind=1from rfl)]
theorem workW(v:Sv)(hu:v.up=K){s:Nat}(hw:v.waits s=I)(hb:v.begun s=K)(hk:ZG (v.synced:Int) (v.txns s).start=K){r:Rq}(hr:Ye r)(hkd:2<=r.kind∧r.kind<=5):actW v (K9 s r)=yT v s r:=by
 have hs:QG v s r=I:=by unfold QG;rw[hw,if_neg (by omega),hb];rfl
 rw[askW_ok v hu s hr,reqW,if_neg (by omega),hs,if_neg (by decide),if_neg (by omega),if_neg (by omega),hk,if_neg (by decide),if_neg (by omega)]
theorem commW(v:Sv)(hu:v.up=K){s:Nat}(hw:v.waits s=I)(hb:v.begun s=K)(hk:ZG (v.synced:Int) (v.txns s).start=K):actW v (K9 s (Fj 6))=commitW v s:=by
 have hs:QG v s (Fj 6)=I:=by unfold QG;rw[hw,if_neg (by decide:¬(Fj 6).kind=1),hb];rfl
 rw[askW_ok v hu s (OA (.inr (.inl rfl))),reqW,if_neg (by decide:¬(Fj 6).kind=8),hs,if_neg (by decide),if_neg (by decide:¬(Fj 6).kind=1),if_neg (by decide:¬(Fj 6).kind=7),hk,if_neg (by decide),if_pos (show(Fj 6).kind=6from rfl)]
theorem syncW_ok(v:Sv)(hu:v.up=K):actW v vF=syncW v:=by
 show(if(2:Int)=1then _ else if(2:Int)=2then _ else _)=_;rw[if_neg (by decide),if_pos rfl,if_pos hu]
theorem putW_ok(v:Sv)(hu:v.up=K){s:Nat}(hw:v.waits s=I)(hb:v.begun s=K)(hk:ZG (v.synced:Int) (v.txns s).start=K)(ht:GQ (v.txns s)){r:Rq}(hr:Ye r)(hkd:r.kind=4∨r.kind=5)(hn:(v.txns s).writes.length<10):actW v (K9 s r)=ZJ {v with txns:=Um v.txns s ⟨(v.txns s).start,(v.txns s).reads,zG (v.txns s).writes (Xi r)⟩} (VN s 0):=by
 have e:Xg (v.txns s) (Xi r)=0:=by rw[Xg,if_pos ((j8 _).2 ht),if_pos (Lm hr hkd)];split;(·rfl);·rw[if_neg (by omega)]
 rw[workW v hu hw hb hk hr (by omega),yT,if_pos hkd,VK,e,if_pos rfl,Yb,if_pos e]
theorem waitW(v:Sv)(hu:v.up=K){s:Nat}(hw:v.waits s=I)(hb:v.begun s=K)(hk:ZG (v.synced:Int) (v.txns s).start=K)(h1:(v.txns s).writes.length≠0)(h2:v.queue.length<6)(h3:v.commits.length<300)(h4:Ux (v.txns s) v.commits=I)(h5:QZ (QH v v.commits.length) (v.txns s).writes=0):actW v (K9 s (Fj 6))={XF v s with commits:=v.commits++[Jg v s],queue:=v.queue++[s],waits:=Um v.waits s K}:=by
 rw[commW v hu hw hb hk,commitW,if_neg h1,if_neg (by omega),h4,if_neg (by decide),if_neg (fun e=>e h5)]
theorem clashW(v:Sv)(hu:v.up=K){s:Nat}(hw:v.waits s=I)(hb:v.begun s=K)(hk:ZG (v.synced:Int) (v.txns s).start=K)(h1:(v.txns s).writes.length≠0)(h2:v.queue.length<6)(h3:v.commits.length<300)(h4:Ux (v.txns s) v.commits=K):actW v (K9 s (Fj 6))=ZJ (XF v s) (VN s 9):=by
 rw[commW v hu hw hb hk,commitW,if_neg h1,if_neg (by omega),if_pos h4]
theorem part_lit{w:tA}{b:Nat}{n:Nat}{x:Int}(hx:x=(n:Int))(hn:n<256)(hb:w.heap[b]?=N (.cells #[.int .u8 x] 5)):Qi 0 w (.slice (N ⟨b,0,B⟩) 1 1) [G n]:=by
 subst hx;refine⟨⟨N ⟨b,0,B⟩,1,rfl,Nat.le_refl _,.inr ⟨b,0,rfl,fun i hi=>?_⟩⟩,.inr ⟨b,rfl,(Array.getElem?_eq_some_iff.1 hb).1,.inr ⟨_,_,hb⟩⟩⟩;obtain rfl:i=0:=by simpa using hi
 simp[World.cell?,hb,tD hn]
theorem lit_old{w:tA}{b:Nat}{o p:Obj}(h:w.heap[b]?=N o):(w.alloc p).heap[b]?=N o:=Qc (M _ _ B) h
theorem lit_new(w:tA)(p q:Obj):((w.alloc q).alloc p).heap[w.heap.size+1]?=N p:=by
 have h:=u (w.alloc q) p;rwa[show(w.alloc q).heap.size=w.heap.size+1by simp]at h
theorem lit_new2(w:tA)(p q r:Obj):(((w.alloc r).alloc q).alloc p).heap[w.heap.size+1+1]?=N p:=by
 have h:=lit_new (w.alloc r) p q;rwa[show(w.alloc r).heap.size=w.heap.size+1by simp]at h
theorem ask_lit2{w W:tA}(hP:Vc w)(hg:J w W B)(s k:Int){a b:Nat}{x y:Int}(hx:x=(a:Int))(hy:y=(b:Int))(ha:a<256)(hb:b<256){r:Rq}(hr:r=⟨k,[G a],[G b],[],[]⟩)(hok:Ye r):Q E 21 #[.int .i64 s,.agg #[.int .i64 k,.slice (N ⟨W.heap.size,0,B⟩) 1 1,.slice (N ⟨W.heap.size+1,0,B⟩) 1 1,.slice B 0 0,.slice B 0 0]] ((W.alloc (.cells #[.int .u8 x] 5)).alloc (.cells #[.int .u8 y] 5)) (gY s W (JZ r)):=by
 have hgA:J W ((W.alloc (.cells #[.int .u8 x] 5)).alloc (.cells #[.int .u8 y] 5)) B:=Qa (M _ _ B) (M _ _ B);refine(gP _ s _ r (hP.grown (Qa hg hgA)) ?_ hok).mono ?_;·subst hr;exact⟨_,_,_,_,rfl,(part_lit hx ha (lit_old (u W _))).1,(part_lit hy hb (lit_new W _ _)).1,QK _,QK _⟩
 ·rintro e w'⟨xa,xc,rfl,hp,hg'⟩;exact⟨xa,xc,rfl,hp,Qa hgA hg'⟩
theorem ask_lit3{w W:tA}(hP:Vc w)(hg:J w W B)(s k:Int){a b c:Nat}{x y z:Int}(hx:x=(a:Int))(hy:y=(b:Int))(hz:z=(c:Int))(ha:a<256)(hb:b<256)(hc:c<256){r:Rq}(hr:r=⟨k,[G a],[G b],[],[G c]⟩)(hok:Ye r):Q E 21 #[.int .i64 s,.agg #[.int .i64 k,.slice (N ⟨W.heap.size,0,B⟩) 1 1,.slice (N ⟨W.heap.size+1,0,B⟩) 1 1,.slice B 0 0,.slice (N ⟨W.heap.size+1+1,0,B⟩) 1 1]] (((W.alloc (.cells #[.int .u8 x] 5)).alloc (.cells #[.int .u8 y] 5)).alloc (.cells #[.int .u8 z] 5)) (gY s W (JZ r)):=by
 have hgA:J W (((W.alloc (.cells #[.int .u8 x] 5)).alloc (.cells #[.int .u8 y] 5)).alloc (.cells #[.int .u8 z] 5)) B:=Qa (M _ _ B) (Qa (M _ _ B) (M _ _ B));refine(gP _ s _ r (hP.grown (Qa hg hgA)) ?_ hok).mono ?_;·subst hr;exact⟨_,_,_,_,rfl,(part_lit hx ha (lit_old (lit_old (u W _)))).1,(part_lit hy hb (lit_old (lit_new W _ _))).1,QK _,(part_lit hz hc (lit_new2 W _ _ _)).1⟩
 ·rintro e w'⟨xa,xc,rfl,hp,hg'⟩;exact⟨xa,xc,rfl,hp,Qa hgA hg'⟩
theorem ask_K{w W:tA}(hP:Vc w)(hg:J w W B)(s k:Int)(hk:k=1∨k=6∨k=7):Q E 21 #[.int .i64 s,.agg #[.int .i64 k,.slice B 0 0,.slice B 0 0,.slice B 0 0,.slice B 0 0]] W (gY s W (JZ (Fj k))):=gP W s _ (Fj k) (hP.grown hg) (g8 W k) (OA hk)
theorem rq_two{k:Int}(hk:k=2∨k=4∨k=5∨k=8)(a b:UInt8):Ye ⟨k,[a],[b],[],[]⟩:=by
 rcases hk with rfl|rfl|rfl|rfl<;>(refine⟨⟨?_,?_⟩,?_,?_,?_,?_,?_,?_,?_,?_⟩<;>simp[QY])
theorem rq_three(a b c:UInt8):Ye ⟨4,[a],[b],[],[c]⟩:=by
 refine⟨⟨?_,?_⟩,?_,?_,?_,?_,?_,?_,?_,?_⟩<;>simp[QY]
theorem rq_scan(a b c:UInt8):Ye ⟨3,[a],[b],[c],[]⟩:=by
 refine⟨⟨?_,?_⟩,?_,?_,?_,?_,?_,?_,?_,?_⟩<;>simp[QY]
section
variable{D:List UInt8->List UInt8}
def phA(a b k:UInt8):List Ac:=[K9 0 (Fj 1),K9 0 ⟨3,[112],[a],[b],[]⟩,K9 1 (Fj 1),K9 1 ⟨4,[112],[k],[],[]⟩,K9 1 (Fj 6),vF,K9 0 ⟨4,[112],[200],[],[]⟩]
def phL(a b k:UInt8):List Ac:=phA a b k++[K9 0 (Fj 6),vF]
def phT(a b:UInt8):Tx:=⟨0,[⟨[112],[a],K,[b]⟩],[⟨[112],[200],[],I⟩]⟩
def phC(k:UInt8):List Xz:=[⟨1,[⟨[112],[k],[],I⟩]⟩]
theorem ph_one(a b k:UInt8):((runW (phA a b k)).up,(runW (phA a b k)).synced,(runW (phA a b k)).queue,(runW (phA a b k)).commits,(runW (phA a b k)).txns 0,(runW (phA a b k)).begun 0,(runW (phA a b k)).waits 0,(runW (phA a b k)).out.length)=(K,1,[],phC k,phT a b,K,I,6):=by
 kernel_rfl
theorem ph_clash(a b k:UInt8):Ux (phT a b) (phC k)=(fL [a] [b] [k]):=by
 have h:V1 (phT a b)=0:=by kernel_rfl
 unfold Ux;rw[if_pos h];simp[Is,gC,XO,phT,phC]
theorem ph_fits(k:UInt8):QZ (GJ [] (phC k)) [⟨[112],[200],[],I⟩]=0:=all_bytes (P:=fun k=>QZ (GJ [] (phC k)) [⟨[112],[200],[],I⟩]=0) (by
 decide+kernel) k
theorem phL_ok(a b k:UInt8):∀x∈phL a b k,Y1 x∧x.kind≠3:=fun x hx=>by
 simp only[phL,phA,List.cons_append,List.nil_append,m,tL,or_false]at hx;rcases hx with rfl|rfl|rfl|rfl|rfl|rfl|rfl|rfl|rfl;·exact⟨gI (by decide) (OA (.inl rfl)),by simp[K9]⟩
 ·exact⟨gI (by decide) (rq_scan _ _ _),by simp[K9]⟩
 ·exact⟨gI (by decide) (OA (.inl rfl)),by simp[K9]⟩
 ·exact⟨gI (by decide) (rq_two (.inr (.inl rfl)) _ _),by simp[K9]⟩
 ·exact⟨gI (by decide) (OA (.inr (.inl rfl))),by simp[K9]⟩
 ·exact⟨eS,by simp[vF]⟩
 ·exact⟨gI (by decide) (rq_two (.inr (.inl rfl)) _ _),by simp[K9]⟩
 ·exact⟨gI (by decide) (OA (.inr (.inl rfl))),by simp[K9]⟩
 ·exact⟨eS,by simp[vF]⟩
theorem ph_run(hD:∀x,(D x).length=4)(a b k:UInt8){A:Oc}(hA:A=jX (U3 D (phL a b k))):A.replies.length=7∧(fL [a] [b] [k]=K->A.turn=1∧(A.replies.getD 6 qV).code=9)∧(fL [a] [b] [k]=I->A.turn=2∧(A.replies.getD 6 qV).code=0∧(A.replies.getD 6 qV).turn=2):=by
 rw[runW_out hD _ (phL_ok a b k)]at hA;have e:runW (phL a b k)=actW (actW (runW (phA a b k)) (K9 0 (Fj 6))) vF:=by simp[runW,phL]
 rw[e]at hA;have h:=ph_one a b k;generalize runW (phA a b k)=V at*;simp only[Prod.mk.injEq]at h;obtain⟨h1,h2,h3,h4,h5,h6,h7,h8⟩:=h;have hk:ZG (V.synced:Int) (V.txns 0).start=K:=by rw[h2,h5];show ZG ((1:Nat):Int) 0=K;decide
 have hw:(V.txns 0).writes.length≠0:=by rw[h5];simp[phT]
 have hq:V.queue.length<6:=by rw[h3];decide
 have hc:V.commits.length<300:=by rw[h4];simp[phC]
 cases hi:fL [a] [b] [k]with|true=>rw[clashW V h1 h7 h6 hk hw hq hc (by rw[h5,h4,ph_clash,hi]),syncW_ok (ZJ (XF V 0) (VN 0 9)) h1]at hA;rw[hA];refine⟨?_,fun _=>⟨?_,?_⟩,fun h=>by cases h⟩;(·show(V.out++[_]++JF V.synced V.queue).length=7;rw[h3];simp[JF,h8]);(·show((V.synced+V.queue.length:Nat):Int)=1;rw[h2,h3];rfl);·show((V.out++[VN 0 9]++JF V.synced V.queue).getD 6 qV).code=9;rw[h3];simp[JF,h8,VN,S]|false=>rw[waitW V h1 h7 h6 hk hw hq hc (by rw[h5,h4,ph_clash,hi]) (by rw[h4,h5];unfold QH;rw[h4,List.take_length];exact ph_fits k),syncW_ok]at hA;rotate_left;(·exact h1);rw[hA];refine⟨?_,fun h=>(by cases h),fun _=>⟨?_,?_,?_⟩⟩;(·show(V.out++JF V.synced (V.queue++[0])).length=7;rw[h3,h2];simp[JF,h8]);(·show((V.synced+(V.queue++[0]).length:Nat):Int)=2;rw[h2,h3];rfl);(·show((V.out++JF V.synced (V.queue++[0])).getD 6 qV).code=0;rw[h3,h2];simp[JF,h8,IE,S]);·show((V.out++JF V.synced (V.queue++[0])).getD 6 qV).turn=2;rw[h3,h2];simp[JF,h8,IE,S]
theorem in_bytes(a b k:Nat)(ha:a<256)(hb:b<256)(hk:k<256):fL [G a] [G b] [G k]=(Y (a<=k)&&Y (k<=b)):=by
 have e:∀x y:Nat,x<256->y<256->YF [G x] [G y]=Y (x<y):=fun x y hx hy=>by(have h1:(G x).toNat=x:=by simp[tD hx]);(have h2:(G y).toNat=y:=by simp[tD hy]);simp[YF,Op.bytesLess,UInt8.lt_iff_toNat_lt,h1,h2]
 unfold fL;rw[e k a hk ha,e b k hb hk];by_cases h1:a<=k<;>by_cases h2:k<=b<;>simp[h1,h2,Nat.not_lt,Nat.lt_of_not_le]
end
theorem ask_n1{w W:tA}(hP:Vc w)(hg:J w W B)(s:Int){nv:tJ}{n:UInt8}(hn:Qe W nv [n]){b:Nat}{y:Int}(hy:y=(b:Int))(hb:b<256):Q E 21 #[.int .i64 s,.agg #[.int .i64 4,nv,.slice (N ⟨W.heap.size,0,B⟩) 1 1,.slice B 0 0,.slice B 0 0]] (W.alloc (.cells #[.int .u8 y] 5)) (gY s W (JZ ⟨4,[n],[G b],[],[]⟩)):=by
 have hgA:J W (W.alloc (.cells #[.int .u8 y] 5)) B:=M _ _ B;refine(gP _ s _ ⟨4,[n],[G b],[],[]⟩ (hP.grown (Qa hg hgA)) ⟨_,_,_,_,rfl,hn.grown hgA,(part_lit hy hb (u W _)).1,QK _,QK _⟩ (rq_two (.inr (.inl rfl)) _ _)).mono ?_;rintro e w'⟨xa,xc,rfl,hp,hg'⟩;exact⟨xa,xc,rfl,hp,Qa hgA hg'⟩
theorem ask_ns{w W:tA}(hP:Vc w)(hg:J w W B){nv:tJ}{n:UInt8}(hn:Qe W nv [n]){a b:Nat}(ha:a<256)(hb:b<256):Q E 21 #[.int .i64 0,.agg #[.int .i64 3,nv,.slice (N ⟨W.heap.size,0,B⟩) 1 1,.slice (N ⟨W.heap.size+1,0,B⟩) 1 1,.slice B 0 0]] ((W.alloc (.cells #[.int .u8 (a:Int)] 5)).alloc (.cells #[.int .u8 (b:Int)] 5)) (gY 0 W (JZ ⟨3,[n],[G a],[G b],[]⟩)):=by
 have hgA:J W ((W.alloc (.cells #[.int .u8 (a:Int)] 5)).alloc (.cells #[.int .u8 (b:Int)] 5)) B:=Qa (M _ _ B) (M _ _ B);refine(gP _ 0 _ ⟨3,[n],[G a],[G b],[]⟩ (hP.grown (Qa hg hgA)) ⟨_,_,_,_,rfl,hn.grown hgA,(part_lit rfl ha (lit_old (u W _))).1,(part_lit rfl hb (lit_new W _ _)).1,QK _⟩ (rq_scan _ _ _)).mono ?_;rintro e w'⟨xa,xc,rfl,hp,hg'⟩;exact⟨xa,xc,rfl,hp,Qa hgA hg'⟩
theorem pick_low(n:Int):Up n 100<100:=by
 unfold Up;split;·have b0:=Int.emod_nonneg (-(n+1)) (show((100:Nat):Int)≠0 by decide);have b1:=Int.emod_lt_of_pos (-(n+1)) (show(0:Int)<((100:Nat):Int)by decide);omega
 ·have b0:=Int.emod_nonneg n (show((100:Nat):Int)≠0 by decide);have b1:=Int.emod_lt_of_pos n (show(0:Int)<((100:Nat):Int)by decide);omega
theorem topPhantom_walk(w:tA)(hP:Vc w)(hT:YE w)(n1 n2 n3:Int)(h10:-9223372036854775808<=n1)(h11:n1<=9223372036854775807)(h20:-9223372036854775808<=n2)(h21:n2<=9223372036854775807)(h30:-9223372036854775808<=n3)(h31:n3<=9223372036854775807):Q E 12 #[.int .i64 n1,.int .i64 n2,.int .i64 n3] w fun e w'=>e=.returned (.bool K)∧J w w' B:=by
 obtain⟨k,hk⟩:∃k,k=Up n1 100:=⟨_,rfl⟩;obtain⟨a,ha⟩:∃k,k=Up n2 100:=⟨_,rfl⟩;obtain⟨b,hb⟩:∃k,k=Up n3 100:=⟨_,rfl⟩;have hk1:k<100:=by rw[hk];exact pick_low n1
 have ha1:a<100:=by rw[ha];exact pick_low n2
 have hb1:b<100:=by rw[hb];exact pick_low n3
 have PK1:R (∀w',Q E 22 #[.int .i64 n1,.int .i64 100] w' fun e w''=>e=.returned (.int .i64 (k:Int))∧w''=w'):=fun w'=>by rw[hk];exact dH n1 100 w' h10 h11 (by decide) (by decide)
 have PK2:R (∀w',Q E 22 #[.int .i64 n2,.int .i64 100] w' fun e w''=>e=.returned (.int .i64 (a:Int))∧w''=w'):=fun w'=>by rw[ha];exact dH n2 100 w' h20 h21 (by decide) (by decide)
 have PK3:R (∀w',Q E 22 #[.int .i64 n3,.int .i64 100] w' fun e w''=>e=.returned (.int .i64 (b:Int))∧w''=w'):=fun w'=>by rw[hb];exact dH n3 100 w' h30 h31 (by decide) (by decide)
 have u1:tH.wrap (k:Int)=(k:Int):=by rw[tB];omega
 have u2:tH.wrap (a:Int)=(a:Int):=by rw[tB];omega
 have u3:tH.wrap (b:Int)=(b:Int):=by rw[tB];omega
 obtain⟨OA,hOA⟩:∃O,O=jX (U3 Qo (phL (G a) (G b) (G k))):=⟨_,rfl⟩;have HF:R (OA.replies.length=7∧(a<=k∧k<=b->OA.turn=1∧(OA.replies.getD 6 qV).code=9)∧(¬(a<=k∧k<=b)->OA.turn=2∧(OA.replies.getD 6 qV).code=0∧(OA.replies.getD 6 qV).turn=2)):=by obtain⟨f1,f2,f3⟩:=ph_run Vq _ _ _ hOA;rw[in_bytes a b k (by omega) (by omega) (by omega)]at f2 f3;exact⟨f1,fun h=>f2 (by simp[h.1,h.2]),fun h=>f3 (by rw[<-Bool.decide_and];exact decide_eq_false h)⟩
 obtain⟨d1,hd1⟩:∃d,d=JZ (Fj 1):=⟨_,rfl⟩;obtain⟨d6,hd6⟩:∃d,d=JZ (Fj 6):=⟨_,rfl⟩;obtain⟨ds,hds⟩:∃d,d=JZ ⟨3,[112],[G a],[G b],[]⟩:=⟨_,rfl⟩;obtain⟨dk,hdk⟩:∃d,d=JZ ⟨4,[112],[G k],[],[]⟩:=⟨_,rfl⟩;obtain⟨dz,hdz⟩:∃d,d=JZ ⟨4,[112],[200],[],[]⟩:=⟨_,rfl⟩;obtain⟨LA,hLA⟩:∃L:List Ac,L=[⟨1,0,0,d1⟩,⟨1,0,0,ds⟩,⟨1,1,0,d1⟩,⟨1,1,0,dk⟩,⟨1,1,0,d6⟩,vF,⟨1,0,0,dz⟩,⟨1,0,0,d6⟩,vF]:=⟨_,rfl⟩;have hLe:LA=phL (G a) (G b) (G k):=by rw[hLA,hd1,hd6,hds,hdk,hdz];rfl
 have RA:R (∀w' v,J w w' B->YD w' v LA->Q E 16 #[v] w' (iD w' OA)):=fun w' v h hv=>ran_run w' v LA OA (by rw[hOA,hLe]) hv (fun x hx=>(phL_ok _ _ _ x (by rw[<-hLe];exact hx)).1) (by rw[hLA];simp) (hP.grown h) (hT.grownNone h);obtain⟨W0,HW0,hg0,B0⟩:=Qg w (.cells #[.int .u8 112] 5);obtain⟨nb,hnb⟩:∃b,b=w.heap.size:=⟨_,rfl⟩;rw[<-hnb]at B0;have HNM:R (∀W,J W0 W B->Qe W (.slice (N ⟨nb,0,B⟩) 1 1) [112]):=fun W h=>((part_lit (n:=112) rfl (by decide) B0.out).1:Qe W0 _ [G 112]).grown h;have AK1:R (∀W s,J w W B->Q E 21 #[.int .i64 s,.agg #[.int .i64 1,.slice B 0 0,.slice B 0 0,.slice B 0 0,.slice B 0 0]] W (gY s W d1)):=fun W s hW=>by rw[hd1];exact ask_K hP hW s 1 (.inl rfl)
 have AK6:R (∀W s,J w W B->Q E 21 #[.int .i64 s,.agg #[.int .i64 6,.slice B 0 0,.slice B 0 0,.slice B 0 0,.slice B 0 0]] W (gY s W d6)):=fun W s hW=>by rw[hd6];exact ask_K hP hW s 6 (.inr (.inl rfl))
 have AS0:R (∀W,J w W B->J W0 W B->Q E 21 #[.int .i64 0,.agg #[.int .i64 3,(.slice (N ⟨nb,0,B⟩) 1 1),.slice (N ⟨W.heap.size,0,B⟩) 1 1,.slice (N ⟨W.heap.size+1,0,B⟩) 1 1,.slice B 0 0]] ((W.alloc (.cells #[.int .u8 (a:Int)] 5)).alloc (.cells #[.int .u8 (b:Int)] 5)) (gY 0 W ds)):=fun W hW h=>by rw[hds];exact ask_ns hP hW (HNM.out W h) (by omega) (by omega)
 have APK0:R (∀W,J w W B->J W0 W B->Q E 21 #[.int .i64 1,.agg #[.int .i64 4,(.slice (N ⟨nb,0,B⟩) 1 1),.slice (N ⟨W.heap.size,0,B⟩) 1 1,.slice B 0 0,.slice B 0 0]] (W.alloc (.cells #[.int .u8 (k:Int)] 5)) (gY 1 W dk)):=fun W hW h=>by rw[hdk];exact ask_n1 hP hW 1 (HNM.out W h) rfl (by omega)
 have APZ0:R (∀W,J w W B->J W0 W B->Q E 21 #[.int .i64 0,.agg #[.int .i64 4,(.slice (N ⟨nb,0,B⟩) 1 1),.slice (N ⟨W.heap.size,0,B⟩) 1 1,.slice B 0 0,.slice B 0 0]] (W.alloc (.cells #[.int .u8 200] 5)) (gY 0 W dz)):=fun W hW h=>by rw[hdz];exact ask_n1 hP hW 0 (HNM.out W h) (b:=200) rfl (by decide)
 have AS:R (∀W,J W0 W B->Q E 21 #[.int .i64 0,.agg #[.int .i64 3,(.slice (N ⟨nb,0,B⟩) 1 1),.slice (N ⟨W.heap.size,0,B⟩) 1 1,.slice (N ⟨W.heap.size+1,0,B⟩) 1 1,.slice B 0 0]] ((W.alloc (.cells #[.int .u8 (a:Int)] 5)).alloc (.cells #[.int .u8 (b:Int)] 5)) (gY 0 W ds)):=fun W h=>AS0.out W (Qa hg0 h) h;have APK:R (∀W,J W0 W B->Q E 21 #[.int .i64 1,.agg #[.int .i64 4,(.slice (N ⟨nb,0,B⟩) 1 1),.slice (N ⟨W.heap.size,0,B⟩) 1 1,.slice B 0 0,.slice B 0 0]] (W.alloc (.cells #[.int .u8 (k:Int)] 5)) (gY 1 W dk)):=fun W h=>APK0.out W (Qa hg0 h) h;have APZ:R (∀W,J W0 W B->Q E 21 #[.int .i64 0,.agg #[.int .i64 4,(.slice (N ⟨nb,0,B⟩) 1 1),.slice (N ⟨W.heap.size,0,B⟩) 1 1,.slice B 0 0,.slice B 0 0]] (W.alloc (.cells #[.int .u8 200] 5)) (gY 0 W dz)):=fun W h=>APZ0.out W (Qa hg0 h) h;have AK1:R (∀W s,J W0 W B->Q E 21 #[.int .i64 s,.agg #[.int .i64 1,.slice B 0 0,.slice B 0 0,.slice B 0 0,.slice B 0 0]] W (gY s W d1)):=fun W s h=>AK1.out W s (Qa hg0 h);have AK6:R (∀W s,J W0 W B->Q E 21 #[.int .i64 s,.agg #[.int .i64 6,.slice B 0 0,.slice B 0 0,.slice B 0 0,.slice B 0 0]] W (gY s W d6)):=fun W s h=>AK6.out W s (Qa hg0 h);have HGW:R (J w W0 B):=hg0;have HLA:R ([⟨1,0,0,d1⟩,⟨1,0,0,ds⟩,⟨1,1,0,d1⟩,⟨1,1,0,dk⟩,⟨1,1,0,d6⟩,vF,⟨1,0,0,dz⟩,⟨1,0,0,d6⟩,vF]=LA):=hLA.symm;have HKAB:R (k<100∧a<100∧b<100):=⟨hk1,ha1,hb1⟩;clear hP hT hd1 hd6 hds hdk hdz hOA hk ha hb hLA hLe AS0 APK0 APZ0 HNM hk1 ha1 hb1;go_enter tC,Tryz.ntmps12;go_upto_region 5with(first|(go_at_call 22;refine(PK1.out _).mono ?_;rintro e w0⟨rfl,h0⟩;rw[h0];clear h0)|(go_at_call 22;refine(PK2.out _).mono ?_;rintro e w0⟨rfl,h0⟩;rw[h0];clear h0)|(go_at_call 22;refine(PK3.out _).mono ?_;rintro e w0⟨rfl,h0⟩;rw[h0];clear h0));rw[<-HW0.out,<-hnb];clear HW0 hnb B0 hg0 u1 u2 u3;have HG0:R (J W0 W0 B):=Qb _ _;have A1:R (Q E 21 #[.int .i64 0,.agg #[.int .i64 1,.slice B 0 0,.slice B 0 0,.slice B 0 0,.slice B 0 0]] W0 (gY 0 W0 d1)):=AK1.out W0 0 (Qb _ _);go_upto_region 6with(first|(go_at_call 21;refine A1.out.mono ?_;clear A1;rintro e w1⟨x1a,x1c,rfl,hp1,hg1⟩;(have HG1:R (J W0 w1 B):=Qa HG0.out hg1);(have HP1:R (Qi 0 w1 (.slice x1a d1.length x1c) d1):=hp1);clear hp1;(have A2:R (Q E 21 #[.int .i64 0,.agg #[.int .i64 3,(.slice (N ⟨nb,0,B⟩) 1 1),.slice (N ⟨w1.heap.size,0,B⟩) 1 1,.slice (N ⟨w1.heap.size+1,0,B⟩) 1 1,.slice B 0 0]] ((w1.alloc (.cells #[.int .u8 (a:Int)] 5)).alloc (.cells #[.int .u8 (b:Int)] 5)) (gY 0 w1 ds)):=AS.out w1 HG1.out))|(go_at_call 21;refine A2.out.mono ?_;clear A2;rintro e w2⟨x2a,x2c,rfl,hp2,hg2⟩;(have HG2:R (J W0 w2 B):=Qa HG1.out hg2);(have HP2:R (Qi 0 w2 (.slice x2a ds.length x2c) ds):=hp2);clear hp2;(have A3:R (Q E 21 #[.int .i64 1,.agg #[.int .i64 1,.slice B 0 0,.slice B 0 0,.slice B 0 0,.slice B 0 0]] w2 (gY 1 w2 d1)):=AK1.out w2 1 HG2.out))|(go_at_call 21;refine A3.out.mono ?_;clear A3;rintro e w3⟨x3a,x3c,rfl,hp3,hg3⟩;(have HG3:R (J W0 w3 B):=Qa HG2.out hg3);(have HP3:R (Qi 0 w3 (.slice x3a d1.length x3c) d1):=hp3);clear hp3;(have A4:R (Q E 21 #[.int .i64 1,.agg #[.int .i64 4,(.slice (N ⟨nb,0,B⟩) 1 1),.slice (N ⟨w3.heap.size,0,B⟩) 1 1,.slice B 0 0,.slice B 0 0]] (w3.alloc (.cells #[.int .u8 (k:Int)] 5)) (gY 1 w3 dk)):=APK.out w3 HG3.out))|(go_at_call 21;refine A4.out.mono ?_;clear A4;rintro e w4⟨x4a,x4c,rfl,hp4,hg4⟩;(have HG4:R (J W0 w4 B):=Qa HG3.out hg4);(have HP4:R (Qi 0 w4 (.slice x4a dk.length x4c) dk):=hp4);clear hp4;(have A5:R (Q E 21 #[.int .i64 1,.agg #[.int .i64 6,.slice B 0 0,.slice B 0 0,.slice B 0 0,.slice B 0 0]] w4 (gY 1 w4 d6)):=AK6.out w4 1 HG4.out))|(go_at_call 21;refine A5.out.mono ?_;clear A5;rintro e w5⟨x5a,x5c,rfl,hp5,hg5⟩;(have HG5:R (J W0 w5 B):=Qa HG4.out hg5);(have HP5:R (Qi 0 w5 (.slice x5a d6.length x5c) d6):=hp5);clear hp5;(have A6:R (Q E 21 #[.int .i64 0,.agg #[.int .i64 4,(.slice (N ⟨nb,0,B⟩) 1 1),.slice (N ⟨w5.heap.size,0,B⟩) 1 1,.slice B 0 0,.slice B 0 0]] (w5.alloc (.cells #[.int .u8 200] 5)) (gY 0 w5 dz)):=APZ.out w5 HG5.out))|(go_at_call 21;refine A6.out.mono ?_;clear A6;rintro e w6⟨x6a,x6c,rfl,hp6,hg6⟩;(have HG6:R (J W0 w6 B):=Qa HG5.out hg6);(have HP6:R (Qi 0 w6 (.slice x6a dz.length x6c) dz):=hp6);clear hp6;(have A7:R (Q E 21 #[.int .i64 0,.agg #[.int .i64 6,.slice B 0 0,.slice B 0 0,.slice B 0 0,.slice B 0 0]] w6 (gY 0 w6 d6)):=AK6.out w6 0 HG6.out))|(go_at_call 21;refine A7.out.mono ?_;clear A7;rintro e w7⟨x7a,x7c,rfl,hp7,hg7⟩;(have HG7:R (J W0 w7 B):=Qa HG6.out hg7);(have HP7:R (Qi 0 w7 (.slice x7a d6.length x7c) d6):=hp7);clear hp7));obtain⟨W8,HW8,hg8,B8⟩:=Qg w7 (.cells #[.int .i64 1,.int .i64 0,.int .i64 0,.slice x1a d1.length x1c,.int .i64 1,.int .i64 0,.int .i64 0,.slice x2a ds.length x2c,.int .i64 1,.int .i64 1,.int .i64 0,.slice x3a d1.length x3c,.int .i64 1,.int .i64 1,.int .i64 0,.slice x4a dk.length x4c,.int .i64 1,.int .i64 1,.int .i64 0,.slice x5a d6.length x5c,.int .i64 2,.int .i64 0,.int .i64 0,.slice B 0 0,.int .i64 1,.int .i64 0,.int .i64 0,.slice x6a dz.length x6c,.int .i64 1,.int .i64 0,.int .i64 0,.slice x7a d6.length x7c,.int .i64 2,.int .i64 0,.int .i64 0,.slice B 0 0] 27);have HN8:R (Ge 0 W8 (.slice (N ⟨w7.heap.size,0,B⟩) 9 9) LA):=by have h:=f7 0 w7 (Nat.zero_le _) [(⟨1,0,0,d1⟩,.slice x1a d1.length x1c),(⟨1,0,0,ds⟩,.slice x2a ds.length x2c),(⟨1,1,0,d1⟩,.slice x3a d1.length x3c),(⟨1,1,0,dk⟩,.slice x4a dk.length x4c),(⟨1,1,0,d6⟩,.slice x5a d6.length x5c),(vF,.slice B 0 0),(⟨1,0,0,dz⟩,.slice x6a dz.length x6c),(⟨1,0,0,d6⟩,.slice x7a d6.length x7c),(vF,.slice B 0 0)] (by simp) (by simp) (fun y hy=>by simp only[m,tL,or_false]at hy;rcases hy with rfl|rfl|rfl|rfl|rfl|rfl|rfl|rfl|rfl;(·exact HP1.out.keptT (Qa hg2 (Qa hg3 (Qa hg4 (Qa hg5 (Qa hg6 hg7))))) (.inl rfl));(·exact HP2.out.keptT (Qa hg3 (Qa hg4 (Qa hg5 (Qa hg6 hg7)))) (.inl rfl));(·exact HP3.out.keptT (Qa hg4 (Qa hg5 (Qa hg6 hg7))) (.inl rfl));(·exact HP4.out.keptT (Qa hg5 (Qa hg6 hg7)) (.inl rfl));(·exact HP5.out.keptT (Qa hg6 hg7) (.inl rfl));(·exact uS w7);(·exact HP6.out.keptT hg7 (.inl rfl));(·exact HP7.out);·exact uS w7) #[.int .i64 1,.int .i64 0,.int .i64 0,.slice x1a d1.length x1c,.int .i64 1,.int .i64 0,.int .i64 0,.slice x2a ds.length x2c,.int .i64 1,.int .i64 1,.int .i64 0,.slice x3a d1.length x3c,.int .i64 1,.int .i64 1,.int .i64 0,.slice x4a dk.length x4c,.int .i64 1,.int .i64 1,.int .i64 0,.slice x5a d6.length x5c,.int .i64 2,.int .i64 0,.int .i64 0,.slice B 0 0,.int .i64 1,.int .i64 0,.int .i64 0,.slice x6a dz.length x6c,.int .i64 1,.int .i64 0,.int .i64 0,.slice x7a d6.length x7c,.int .i64 2,.int .i64 0,.int .i64 0,.slice B 0 0] rfl;rw[<-HLA.out,HW8.out];exact h
 have HG8:R (J w W8 B):=Qa HGW.out (Qa HG7.out hg8);have RA8:R (Q E 16 #[.slice (N ⟨w7.heap.size,0,B⟩) 9 9] W8 (iD W8 OA)):=RA.out W8 _ HG8.out HN8.out.list;rw[<-HW8.out];clear hg1 hg2 hg3 hg4 hg5 hg6 hg7 hg8 B8 HW8 HP1 HP2 HP3 HP4 HP5 HP6 HP7 HG1 HG2 HG3 HG4 HG5 HG6 HG7 HN8 RA HLA;go_upto_region 7with(go_at_call 16;refine RA8.out.mono ?_;clear RA8;rintro e w9⟨fa,fc,ra,rc,rfl,hx9,hg9⟩);obtain⟨Z,AB,HZ,HAB,hg10,HBZ⟩:=iB w9 OA fa fc ra rc;rw[<-HZ.out,<-HAB.out];have HGZ:R (J w Z B):=Qa HG8.out (Qa hg9 hg10);obtain⟨⟨a0,a1,a2,a3,a4⟩,_⟩:=Qs (Qb Z B) HBZ.out;obtain⟨f1,f2,f3⟩:=HF.out;have e1:((OA.replies.length:Int)!=7)=I:=by rw[f1];rfl
 have b6:(6:Int)<(OA.replies.length:Int):=by omega
 obtain⟨vf,vr,e,_,hrs⟩:=(hx9.grown hg10).now;simp only[Value.agg.injEq,Array.mk.injEq,List.cons.injEq,and_true,true_and]at e;obtain⟨rfl,rfl⟩:=e;obtain⟨rb,ro,rfl,_,cc,ct,_⟩:=hrs.at 6 (by omega);obtain⟨P,hPe⟩:∃P,P=OA.replies.getD 6 qV:=⟨_,rfl⟩;rw[<-hPe]at f2 f3 cc ct;clear hx9 hg9 hg10 HZ HAB HG8 f1 hPe hrs HF;by_cases h:a<=k∧k<=b;·obtain⟨g1,g2⟩:=f2 h;(have i1:(a:Int)<=(k:Int):=by omega);(have i2:(k:Int)<=(b:Int):=by omega);have j1:(OA.turn==1)=K:=beq_iff_eq.2 g1;rw[g2]at cc;clear f2 f3 h g1 g2;go_wp2_with fail;go_ret;exact⟨rfl,HGZ.out⟩
 ·obtain⟨g1,g2,g3⟩:=f3 h;have j1:(OA.turn==2)=K:=beq_iff_eq.2 g1;rw[g2]at cc;rw[g3]at ct;(have hh:¬((a:Int)<=(k:Int))∨((a:Int)<=(k:Int)∧¬((k:Int)<=(b:Int))):=by omega);clear f2 f3 h g1 g2 g3;rcases hh with i1|⟨i1,i2⟩;all_goals go_wp2_with fail;go_ret;exact⟨rfl,HGZ.out⟩
section
open Go.ChangeShapes Go.WideShapes Go.ChangeAt Go.RowKit
namespace topPhantom
theorem contract(H:Type)(enc:tQ×tJ->H)(W:tA)(base:Nat)(args:Array tJ)(ds gs:List (DataW H))(before:List MemPlace)(hval:∀(j:Nat)t v,X.params[j]?=N t->args[j]?=N v->Value.okWide E W .any base t v)(hW:DataW.Whole enc E X.params.toList Rows.topPhantomSpec.vars I W args.toList ds gs before)(_hL:laidMetH E Rows.topPhantomRow.laid W)(hsz0:(DataW.weightsEach E (X.params.toList++(g Rows.topPhantomSpec).bare.plain.varTypes E) (ds++gs)).all (·<=reachBytes)=K):Q E 12 args W fun e W'=>∃v,e=.returned v∧Rows.topPhantomSpec.post enc E X I K I I W args v W':=by
 have hW':=hW;obtain⟨p,q,hA0,hV,rfl,hfz,hnd⟩:=hW;have hA:DataW.TrodAll enc E W 0 (fun _=>K) K X.params.toList args.toList ds p:=hA0;have hsz:=hsz0;rw[tN]at hA hval hsz;obtain⟨v0,vs0,d0,ds0,p0,q0,hargs,rfl,rfl,h0,r0⟩:=trodAll_cons hA;obtain⟨v1,vs1,d1,ds1,p1,q1,rfl,rfl,rfl,h1,r1⟩:=trodAll_cons r0;obtain⟨v2,vs2,d2,ds2,p2,q2,rfl,rfl,rfl,h2,r2⟩:=trodAll_cons r1;obtain⟨rfl,rfl,rfl⟩:=trodAll_nil r2;obtain rfl:args=#[v0,v1,v2]:=by cases args;simp_all
 obtain⟨rfl,rfl⟩:=trodVars_none hV;obtain⟨a0,rfl,rfl,rfl,w0⟩:=open_int T (hval 0 3 v0 rfl rfl) h0;obtain⟨a1,rfl,rfl,rfl,w1⟩:=open_int T (hval 1 3 v1 rfl rfl) h1;obtain⟨a2,rfl,rfl,rfl,w2⟩:=open_int T (hval 2 3 v2 rfl rfl) h2;clear hA0;refine(topPhantom_walk W (gU _hL).1 (gU _hL).2 a0 a1 a2 (VG w0).1 (VG w0).2 (VG w1).1 (VG w1).2 (VG w2).1 (VG w2).2).mono fun e W'⟨he,hg⟩=>?_;subst he;have bel:=fX hg;exact⟨_,rfl,_,_,_,[],_,[],hW',trodAll_mk1 (shut_bool Tryz.underlying4 _),(trodAll_cons_mk (shut_int T w0) (trodAll_cons_mk (shut_int T w1) (trodAll_cons_mk (shut_int T w2) trodAll_mk0))),rfl,bel.frame _,fun h=>by cases h⟩
theorem laid_met(os:Go.Os):laidMet E Rows.topPhantomRow.laid ((eM (tE E os ⟨#[],#[],[]⟩)).forCall (fun _ _=>0) ⟨#[],#[.int .i64 0,.int .i64 0,.int .i64 0],[]⟩).memory:=laidMet_of_run' 30 (by
 kernel_rfl) (by
 kernel_rfl)
theorem reads(os:Go.Os){H:Type}(enc:tQ×tJ->H):∃places,DataW.whole enc E ((eM (tE E os ⟨#[],#[],[]⟩)).forCall (fun _ _=>0) ⟨#[],#[.int .i64 0,.int .i64 0,.int .i64 0],[]⟩).memory X.params.toList Rows.topPhantomSpec.vars I (#[Value.int .i64 0,Value.int .i64 0,Value.int .i64 0]:Array tJ).toList 8=N ([.lit (.int .i64 0),.lit (.int .i64 0),.lit (.int .i64 0)],[],places):=⟨[],by
 kernel_rfl⟩
theorem lifted(os:Go.Os)(started:os.Started)(H:Type)(enc:tQ×tJ->H)(F:Stop.Interp):ReturnsInHanded {} tG os 12 .any ((g Rows.topPhantomSpec).preRow enc E X Rows.topPhantomRow.domain I Rows.topPhantomRow.laid) (((g Rows.topPhantomSpec).at F).post enc E X I K I I):=by
 obtain⟨places,hx⟩:=reads os enc;refine returnsInHanded_of_row (C:=tG) (s:=g Rows.topPhantomSpec) own started (by kernel_rfl) tC (witness_row_at (enc:=enc) (C:=tG) I (eM (tE E os ⟨#[],#[],[]⟩)) #[.int .i64 0,.int .i64 0,.int .i64 0] rfl (by kernel_rfl) (by kernel_rfl) (by kernel_rfl) (tR 8 hx (by kernel_rfl) (fun k hk=>by cases hk) (by kernel_rfl) (laid_met os))) ?_;intro W base args ds gs before hval hW _ _ hsz hL _ _;exact contract H enc W base args ds gs before hval hW hL hsz
theorem said:Rows.TopPhantomSaid:=OpenClaim.holds_of_cond 12 X rfl rfl rfl rfl rfl rfl rfl ⟨rfl,rfl,rfl,rfl,rfl⟩ rfl rfl rfl rfl rfl (by
 kernel_rfl) tC (by
 kernel_rfl) (of_decide_eq_true (by
 kernel_rfl)) (by
 unfold Func.isWrapper;first|(rw[if_pos (by decide+kernel)];kernel_rfl)|(rw[if_neg (by decide+kernel)];exact⟨rfl,rfl⟩)) (fun os started H enc _ F=>by
 rw[OpenClaim.pre_eq_preRow];exact lifted os started H enc F)
theorem plain(f:FuncId)(fn:Func)(hf:Tryz.pinned.checked.prog.funcNamed "canopy/canopytop.TopPhantom"=N f)(hfn:Tryz.pinned.checked.prog.funcs[f]?=N fn):I=Tryz.pinned.checked.prog.looks []∧∀(j:Nat)t,fn.params[j]?=N t->Tryz.pinned.checked.prog.wantsStandIn t=I:=by
 obtain rfl:f=12:=Option.some.inj ((show E.funcNamed "canopy/canopytop.TopPhantom"=N 12by kernel_rfl).symm.trans hf)|>.symm;obtain rfl:fn=X:=(Option.some.inj (tC.symm.trans hfn)).symm;refine⟨by kernel_rfl,fun j t ht=>?_⟩;rw[tN]at ht;have hall:∀t∈[3,3,3],E.wantsStandIn t=I:=by intro t ht;rcases m.1 ht with rfl|ht;(·exact(show E.wantsStandIn 3=I by kernel_rfl));rcases m.1 ht with rfl|ht;(·exact(show E.wantsStandIn 3=I by kernel_rfl));rcases m.1 ht with rfl|ht;(·exact(show E.wantsStandIn 3=I by kernel_rfl));cases ht
 exact hall t (by have:=Array.mem_of_getElem? ht;simpa using this)
end topPhantom
theorem topPhantom_card:Rows.TopPhantomCardSaid:=Claim7.holds_tied_plain_at .later [] _ _ _ _ topPhantom.said (fun _ h=>by
 cases h) (by
 kernel_rfl) (fun _ h=>by
 cases h) topPhantom_row_tie rfl ⟨rfl,rfl⟩ (by
 kernel_rfl) rfl topPhantom.plain (by
 kernel_rfl)
end
end Go.Proofs.YtghhckgnmfgjeaaGreatDoor
