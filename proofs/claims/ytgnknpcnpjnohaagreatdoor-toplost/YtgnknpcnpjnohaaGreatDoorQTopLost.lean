/-
  canopytop.TopLost returns true at every argument and leaves its arguments as they were: the tied card. Conditions: those of the card alone (the listed variables start as the program's text lays them).
  Texts of this proof, joined, with few blanks: SrvW, SrvX, TLit, LostF, LTpLost, TopLost.
-/
import Derived.Test.YtgnknpcnpjnohaaGreatDoorQ52
set_option maxRecDepth 100000
set_option maxHeartbeats 8000000
open Bool renaming false->I,true->J
open Decidable renaming decide->Y
open Go renaming Calls->X,heap_alloc_new->Z9,World->tA,Value->tI,TypeId->tM
open Go.OpenSpec renaming ofChange->T,preRow_of_cond->tN
open Go.Proofs.Tryz renaming prog->B,f9->R,underlying3->u,func9->tB,checked->tD,params9->tJ
open Go.RowKit renaming Hid->S
open Go.World renaming grownBy_alloc->K,grownBy->Q,holding->tC
open List renaming getD_eq_getElem?_getD->M,mem_cons->g,getElem?_eq_getElem->m,not_mem_nil->SC,foldl_cons->EA,mem_cons_of_mem->tE,mem_cons_self->tG,getElem?_map->tH,length->tK,range->tL
open Option renaming none->E,some->N
open UInt8 renaming ofNat->G
namespace Go.Proofs.YtgnknpcnpjnohaaGreatDoor
open Go.RowKit
section
variable{D:List UInt8->List UInt8}{v:Sv}
theorem flat_le(hD:∀x,(D x).length=4):∀(cs:List XG),(∀c∈cs,Zc c=0)->(Q7 D cs).length<=600*cs.length|[],_=>by simp[Q7]|c::cs,h=>by have h1:=(Bo hD (h c tG)).2;have h2:=flat_le hD cs (fun x hx=>h x (tE _ hx));(have e:Q7 D (c::cs)=ZM D c++Q7 D cs:=by simp[Q7]);rw[e,List.length_append,List.length_cons];omega
theorem Za.each(h:Za D v):∀c∈v.commits,Zc c=0:=fun c hc=>by
 obtain⟨i,hi,e⟩:=List.getElem_of_mem hc;have:=(h.goes.at i hi).1;rw[M,m hi,e]at this;exact this
theorem app_fits(hD:∀x,(D x).length=4)(h:Za D v){s:Nat}(hb:v.begun s=J)(hw:¬(v.txns s).writes.length=0):VF D v.tape (Y5 v s)=0:=by
 have hm:=h.many;have hc:Zc (Y5 v s)=0:=Cv (h.tx s hb).1 hw v.commits.length hm;have h1:=(Bo hD hc).2;have h2:=flat_le hD v.commits h.each;have hd:=h.data;rw[VF,if_pos h.may,if_pos hc,if_neg (by rw[hd];omega)]
def commitW(v:Sv)(s:Nat):Sv:=if(v.txns s).writes.length=0then ZD (XD v s) (aS s (v.txns s).start)else if v.queue.length=6∨v.commits.length=300then ZD v (Ga s 11)else if UU (v.txns s) v.commits=J then ZD (XD v s) (Ga s 9)else if Q5 (QE v v.commits.length) (v.txns s).writes≠0then ZD (XD v s) (Ga s (Q5 (QE v v.commits.length) (v.txns s).writes))else{XD v s with commits:=v.commits++[Y5 v s],queue:=v.queue++[s],waits:=JW v.waits s J}
def reqW(v:Sv)(s:Nat)(r:Rq):Sv:=if r.kind=8then Rt v s r else if QD v s r=J then ZD v (Ga s 6)else if r.kind=1then ZD {v with begun:=JW v.begun s J,txns:=JW v.txns s ⟨(v.synced:Int),[],[]⟩} (aS s (v.synced:Int))else if r.kind=7then ZD (XD v s) (Ga s 0)else if ZJ (v.synced:Int) (v.txns s).start=I then ZD (XD v s) (Ga s 10)else if r.kind=6then commitW v s else qD v s r
def askW(v:Sv)(s:Nat)(data:List UInt8):Sv:=if v.up=I then ZD v (Ga s 13)else if QJ data=0then reqW v s (Qu data)else ZD v (Ga s (QJ data))
def syncW(v:Sv):Sv:={v with synced:=v.synced+v.queue.length,waits:=JZ v.waits v.queue,queue:=[],out:=v.out++Y1 v.synced v.queue}
def actW(v:Sv)(a:Ac):Sv:=if a.kind=1then askW v a.sess.toNat a.data else if a.kind=2then(if v.up=J then syncW v else v)else{v with up:=J}
def runW(l:List Ac):Sv:=l.foldl actW WI
def bare(v:Sv):Sv:={v with tape:=Gi}
theorem bare_tell(v:Sv)(r:Rp):bare (ZD v r)=ZD (bare v) r:=rfl
theorem bare_out(v:Sv):GI (bare v)=GI v:=rfl
theorem bare_note(v:Sv)(s:Nat)(x:Rd)(o:Rp):bare (KG v s x o)=KG (bare v) s x o:=by
 unfold KG;show bare (if Xi (v.txns s) x=0then _ else _)=if Xi (v.txns s) x=0then _ else _;split<;>rfl
theorem bare_work(v:Sv)(s:Nat)(r:Rq):bare (qD v s r)=qD (bare v) s r:=by
 unfold qD;split;·unfold UH;show bare (ZD (if Xk (v.txns s) _=0then _ else _) _)=ZD (if Xk (v.txns s) _=0then _ else _) _;split<;>rfl
 ·split;(·unfold Er;show bare (if VS (QE v (v.txns s).start.toNat) (v.txns s) r.name r.key=J then _ else _)=if VS (QE v (v.txns s).start.toNat) (v.txns s) r.name r.key=J then _ else _;split;(·rfl);·exact bare_note v s _ _);·unfold jX;show bare (if KJ (QE v (v.txns s).start.toNat) (v.txns s) r.name r.key r.last=0then _ else _)=if KJ (QE v (v.txns s).start.toNat) (v.txns s) r.name r.key r.last=0then _ else _;split;(·exact bare_note v s _ _);·rfl
theorem bare_commit(hD:∀x,(D x).length=4)(h:Za D v){s:Nat}(hb:v.begun s=J):bare (YV D v s)=commitW (bare v) s:=by
 unfold YV commitW;show bare (if(v.txns s).writes.length=0then _ else if v.queue.length=6∨v.commits.length=300then _ else if UU (v.txns s) v.commits=J then _ else if Q5 (QE v v.commits.length) (v.txns s).writes≠0then _ else _)=if(v.txns s).writes.length=0then _ else if v.queue.length=6∨v.commits.length=300then _ else if UU (v.txns s) v.commits=J then _ else if Q5 (QE v v.commits.length) (v.txns s).writes≠0then _ else _;by_cases h1:(v.txns s).writes.length=0;·rw[if_pos h1,if_pos h1];rfl
 ·rw[if_neg h1,if_neg h1];by_cases h2:v.queue.length=6∨v.commits.length=300;(·rw[if_pos h2,if_pos h2];rfl);·rw[if_neg h2,if_neg h2];by_cases h3:UU (v.txns s) v.commits=J;(·rw[if_pos h3,if_pos h3];rfl);·rw[if_neg h3,if_neg h3];by_cases h4:Q5 (QE v v.commits.length) (v.txns s).writes≠0;(·rw[if_pos h4,if_pos h4];rfl);·rw[if_neg h4,if_neg h4,if_neg (fun e=>e (app_fits hD h hb h1))];rfl
theorem bare_req(hD:∀x,(D x).length=4)(h:Za D v)(s:Nat)(r:Rq):bare (YY D v s r)=reqW (bare v) s r:=by
 unfold YY reqW;have es:QD (bare v) s r=QD v s r:=rfl;rw[es];by_cases h1:r.kind=8;·rw[if_pos h1,if_pos h1];rfl
 ·rw[if_neg h1,if_neg h1];by_cases h2:QD v s r=J;(·rw[if_pos h2,if_pos h2];rfl);·rw[if_neg h2,if_neg h2];by_cases h3:r.kind=1;(·rw[if_pos h3,if_pos h3];rfl);·rw[if_neg h3,if_neg h3];(have hb:v.begun s=J:=by unfold QD at h2;rw[if_neg h3]at h2;cases hw:v.waits s<;>cases hv:v.begun s<;>simp[hw,hv]at h2⊢);by_cases h4:r.kind=7;(·rw[if_pos h4,if_pos h4];rfl);·rw[if_neg h4,if_neg h4];show bare (if ZJ (v.synced:Int) (v.txns s).start=I then _ else _)=if ZJ (v.synced:Int) (v.txns s).start=I then _ else _;by_cases h5:ZJ (v.synced:Int) (v.txns s).start=I;(·rw[if_pos h5,if_pos h5];rfl);·rw[if_neg h5,if_neg h5];by_cases h6:r.kind=6;(·rw[if_pos h6,if_pos h6];exact bare_commit hD h hb);·rw[if_neg h6,if_neg h6];exact bare_work v s r
theorem bare_act(hD:∀x,(D x).length=4)(h:Za D v){a:Ac}(ha:a.kind≠3):bare (QU D v a)=actW (bare v) a:=by
 unfold QU actW;by_cases h1:a.kind=1;·rw[if_pos h1,if_pos h1];unfold ZZ askW;show bare (if v.up=I then _ else _)=if v.up=I then _ else _;split;(·rfl);·split;(·exact bare_req hD h _ _);·rfl
 ·rw[if_neg h1,if_neg h1];by_cases h2:a.kind=2;(·rw[if_pos h2,if_pos h2];show bare (if v.up=J then _ else _)=if v.up=J then _ else _;split<;>rfl);·rw[if_neg h2,if_neg h2,if_neg ha];rfl
theorem bare_acts(hD:∀x,(D x).length=4):∀(l:List Ac)(v:Sv),Za D v->(∀a∈l,XH a∧a.kind≠3)->bare (l.foldl (QU D) v)=l.foldl actW (bare v)|[],_,_,_=>rfl|a::l,v,h,ha=>by have h1:=ha a tG;rw[EA,EA,bare_acts hD l _ (h.act hD h1.1) (fun x hx=>ha x (tE _ hx)),bare_act hD h h1.2]
theorem runW_out(hD:∀x,(D x).length=4)(l:List Ac)(h:∀a∈l,XH a∧a.kind≠3):GI (Xm D l)=GI (runW l):=by
 rw[<-bare_out,Xm,bare_acts hD l WI (Ar D) h];rfl
end
theorem all_bytes{P:UInt8->Prop}(h:∀i:Fin 256,P (G i.val))(b:UInt8):P b:=by
 have:=h ⟨b.toNat,b.toNat_lt⟩;rwa[show G b.toNat=b by simp]at this
/-!TopOwn. -/
def ownA(b:UInt8)(gone:Bool):List Ac:=[Us 0 (F7 1),Us 0 ⟨4,[111],[107],[],[7]⟩,Us 0 (if gone=J then⟨5,[111],[107],[],[]⟩else⟨4,[111],[107],[],[b]⟩),Us 0 ⟨2,[111],[107],[],[]⟩,Us 0 ⟨3,[111],[97],[122],[]⟩]
def ownT(o:Oc)(fs:List Bool)(vs:List (List UInt8))(ks ws:List (List (List UInt8))):Bool:=Y (o.turn=0)&&Y (o.replies.map (fun r=>r.code)=[0,0,0,0,0])&&Y (o.replies.map (fun r=>r.found)=fs)&&Y (o.replies.map (fun r=>r.value)=vs)&&Y (o.replies.map (fun r=>r.pairs.map (fun p=>p.1))=ks)&&Y (o.replies.map (fun r=>r.pairs.map (fun p=>p.2))=ws)
theorem own_put(b:UInt8):ownT (GI (runW (ownA b I))) [I,I,I,J,I] [[],[],[],[b],[]] [[],[],[],[],[[107]]] [[],[],[],[],[[b]]]=J:=all_bytes (P:=fun b=>ownT (GI (runW (ownA b I))) [I,I,I,J,I] [[],[],[],[b],[]] [[],[],[],[],[[107]]] [[],[],[],[],[[b]]]=J) (by
 decide+kernel) b
theorem own_gone(b:UInt8):ownT (GI (runW (ownA b J))) [I,I,I,I,I] [[],[],[],[],[]] [[],[],[],[],[]] [[],[],[],[],[]]=J:=all_bytes (P:=fun b=>ownT (GI (runW (ownA b J))) [I,I,I,I,I] [[],[],[],[],[]] [[],[],[],[],[]] [[],[],[],[],[]]=J) (by
 decide+kernel) b
/-!TopGone. -/
def goneR(k:Nat):List Ac:=(tL k).flatMap (fun i=>[Us 0 (F7 1),Us 0 ⟨4,[97],[G (i+1)],[],[]⟩,Us 0 (F7 6),Pn])
def goneA(k:Nat):List Ac:=Us 3 (F7 1)::goneR k++[Us 3 ⟨2,[97],[1],[],[]⟩,Us 3 (F7 7)]
def goneT(k:Nat)(o:Oc):Bool:=Y (o.replies.length=3*k+3)&&Y (o.turn=(k:Int))&&(match o.replies[3*k+1]?,o.replies[3*k+2]?with|N a,N b=>if k<6then Y (a.code=0∧a.found=I∧a.turn=0∧b.code=0)else Y (a.code=10∧b.code=6)|_,_=>I)
theorem gone_all:∀k:Fin 12,goneT k.val (GI (runW (goneA k.val)))=J:=by
 decide+kernel
/-!TopQueue. -/
def queueA(k:Nat):List Ac:=(tL k).flatMap (fun i=>[Us (i%8) (F7 1),Us (i%8) ⟨4,[97],[G (i+1)],[],[]⟩,Us (i%8) (F7 6)])
def queueT(k:Nat)(o p:Oc):Bool:=Y (o.pending=((min k 6:Nat):Int)∧o.turn=0∧p.turn=((min k 6:Nat):Int)∧p.pending=0∧o.forest.length=0∧o.replies.length=2*min k 6+3*(k-min k 6))
theorem queue_all:∀k:Fin 10,queueT k.val (GI (runW (queueA k.val))) (GI (runW (queueA k.val++[Pn])))=J:=by
 decide+kernel
theorem part_lit{w:tA}{b:Nat}{n:Nat}{x:Int}(hx:x=(n:Int))(hn:n<256)(hb:w.heap[b]?=N (.cells #[.int .u8 x] 5)):Qi 0 w (.slice (N ⟨b,0,E⟩) 1 1) [G n]:=by
 subst hx;refine⟨⟨N ⟨b,0,E⟩,1,rfl,Nat.le_refl _,.inr ⟨b,0,rfl,fun i hi=>?_⟩⟩,.inr ⟨b,rfl,(Array.getElem?_eq_some_iff.1 hb).1,.inr ⟨_,_,hb⟩⟩⟩;obtain rfl:i=0:=by simpa using hi
 simp[World.cell?,hb,Nat.mod_eq_of_lt hn]
theorem lit_old{w:tA}{b:Nat}{o p:Obj}(h:w.heap[b]?=N o):(w.alloc p).heap[b]?=N o:=Qd (K _ _ E) h
theorem lit_new(w:tA)(p q:Obj):((w.alloc q).alloc p).heap[w.heap.size+1]?=N p:=by
 have h:=Z9 (w.alloc q) p;rwa[show(w.alloc q).heap.size=w.heap.size+1by simp]at h
theorem lit_new2(w:tA)(p q r:Obj):(((w.alloc r).alloc q).alloc p).heap[w.heap.size+1+1]?=N p:=by
 have h:=lit_new (w.alloc r) p q;rwa[show(w.alloc r).heap.size=w.heap.size+1by simp]at h
theorem ask_lit2{w W:tA}(hP:UJ w)(hg:Q w W E)(s k:Int){a b:Nat}{x y:Int}(hx:x=(a:Int))(hy:y=(b:Int))(ha:a<256)(hb:b<256){r:Rq}(hr:r=⟨k,[G a],[G b],[],[]⟩)(hok:X0 r):X B 20 #[.int .i64 s,.agg #[.int .i64 k,.slice (N ⟨W.heap.size,0,E⟩) 1 1,.slice (N ⟨W.heap.size+1,0,E⟩) 1 1,.slice E 0 0,.slice E 0 0]] ((W.alloc (.cells #[.int .u8 x] 5)).alloc (.cells #[.int .u8 y] 5)) (nF s W (Ki r)):=by
 have hgA:Q W ((W.alloc (.cells #[.int .u8 x] 5)).alloc (.cells #[.int .u8 y] 5)) E:=Qa (K _ _ E) (K _ _ E);refine(m8 _ s _ r (hP.grown (Qa hg hgA)) ?_ hok).mono ?_;·subst hr;exact⟨_,_,_,_,rfl,(part_lit hx ha (lit_old (Z9 W _))).1,(part_lit hy hb (lit_new W _ _)).1,Qx _,Qx _⟩
 ·rintro e w'⟨xa,xc,rfl,hp,hg'⟩;exact⟨xa,xc,rfl,hp,Qa hgA hg'⟩
theorem ask_lit3{w W:tA}(hP:UJ w)(hg:Q w W E)(s k:Int){a b c:Nat}{x y z:Int}(hx:x=(a:Int))(hy:y=(b:Int))(hz:z=(c:Int))(ha:a<256)(hb:b<256)(hc:c<256){r:Rq}(hr:r=⟨k,[G a],[G b],[],[G c]⟩)(hok:X0 r):X B 20 #[.int .i64 s,.agg #[.int .i64 k,.slice (N ⟨W.heap.size,0,E⟩) 1 1,.slice (N ⟨W.heap.size+1,0,E⟩) 1 1,.slice E 0 0,.slice (N ⟨W.heap.size+1+1,0,E⟩) 1 1]] (((W.alloc (.cells #[.int .u8 x] 5)).alloc (.cells #[.int .u8 y] 5)).alloc (.cells #[.int .u8 z] 5)) (nF s W (Ki r)):=by
 have hgA:Q W (((W.alloc (.cells #[.int .u8 x] 5)).alloc (.cells #[.int .u8 y] 5)).alloc (.cells #[.int .u8 z] 5)) E:=Qa (K _ _ E) (Qa (K _ _ E) (K _ _ E));refine(m8 _ s _ r (hP.grown (Qa hg hgA)) ?_ hok).mono ?_;·subst hr;exact⟨_,_,_,_,rfl,(part_lit hx ha (lit_old (lit_old (Z9 W _)))).1,(part_lit hy hb (lit_old (lit_new W _ _))).1,Qx _,(part_lit hz hc (lit_new2 W _ _ _)).1⟩
 ·rintro e w'⟨xa,xc,rfl,hp,hg'⟩;exact⟨xa,xc,rfl,hp,Qa hgA hg'⟩
theorem ask_K{w W:tA}(hP:UJ w)(hg:Q w W E)(s k:Int)(hk:k=1∨k=6∨k=7):X B 20 #[.int .i64 s,.agg #[.int .i64 k,.slice E 0 0,.slice E 0 0,.slice E 0 0,.slice E 0 0]] W (nF s W (Ki (F7 k))):=m8 W s _ (F7 k) (hP.grown hg) (nH W k) (dF hk)
theorem rq_two{k:Int}(hk:k=2∨k=4∨k=5∨k=8)(a b:UInt8):X0 ⟨k,[a],[b],[],[]⟩:=by
 rcases hk with rfl|rfl|rfl|rfl<;>(refine⟨⟨?_,?_⟩,?_,?_,?_,?_,?_,?_,?_,?_⟩<;>simp[QW])
theorem rq_three(a b c:UInt8):X0 ⟨4,[a],[b],[],[c]⟩:=by
 refine⟨⟨?_,?_⟩,?_,?_,?_,?_,?_,?_,?_,?_⟩<;>simp[QW]
theorem rq_scan(a b c:UInt8):X0 ⟨3,[a],[b],[c],[]⟩:=by
 refine⟨⟨?_,?_⟩,?_,?_,?_,?_,?_,?_,?_,?_⟩<;>simp[QW]
section
variable{D:List UInt8->List UInt8}
def lostA(b:UInt8):List Ac:=[Us 0 (F7 1),Us 0 ⟨4,[97],[107],[],[b]⟩,Us 0 (F7 6)]
def lostT(b:UInt8):Bool:=Y ((runW (lostA b)).up=J∧(runW (lostA b)).synced=0∧(runW (lostA b)).out.length=2∧(runW (lostA b)).commits.length=1∧(V2 [] (runW (lostA b)).commits).map (fun t=>t.2.map (fun p=>p.2))=[[[b]]])
theorem lost_all(b:UInt8):lostT b=J:=all_bytes (P:=fun b=>lostT b=J) (by
 decide+kernel) b
theorem rq_put(b:UInt8):X0 ⟨4,[97],[107],[],[b]⟩:=by
 refine⟨⟨?_,?_⟩,?_,?_,?_,?_,?_,?_,?_,?_⟩<;>simp[QW]
theorem lostA_ok(b:UInt8):∀a∈lostA b,XH a∧a.kind≠3:=fun a ha=>by
 simp only[lostA,g,SC,or_false]at ha;rcases ha with rfl|rfl|rfl;·exact⟨mT (by decide) (dF (.inl rfl)),by simp[Us]⟩
 ·exact⟨mT (by decide) (rq_put b),by simp[Us]⟩
 ·exact⟨mT (by decide) (dF (.inr (.inl rfl))),by simp[Us]⟩
theorem lost_tell{V:Sv}{b:UInt8}(e:bare V=runW (lostA b)):V.up=J∧V.synced=0∧V.out.length=2∧V.commits.length=1∧(V2 [] V.commits).map (fun t=>t.2.map (fun p=>p.2))=[[[b]]]:=by
 have ht:=of_decide_eq_true (lost_all b);rw[<-e]at ht;exact ht
theorem lost_run(hD:∀x,(D x).length=4)(b:UInt8){k:Int}(hk:0<=k){A:Oc}(hA:A=GI (Xm D (lostA b++[Zj k,Zh,Pn,Us 0 (F7 1)]))):A.replies.length=3∧A.pending=0∧(A.replies.getD 2 zX).code=0∧(A.replies.getD 2 zX).turn=A.turn∧((A.turn=0∧A.forest.length=0)∨(A.turn=1∧A.forest.map (fun t=>t.2.map (fun p=>p.2))=[[[b]]])):=by
 have hG:=xE hD (lostA b) fun a ha=>(lostA_ok b a ha).1;have e:=bare_acts hD (lostA b) WI (xE hD [] (by simp)) (lostA_ok b);obtain⟨t1,t2,t3,t4,t5⟩:=lost_tell (V:=Xm D (lostA b)) e;rw[Gh]at hA;simp only[EA,List.foldl_nil]at hA;generalize Xm D (lostA b)=V at*;obtain⟨j,h1,h2,h3,_⟩:=Uv hD hG hk;rw[yQ,if_pos t1,h3,jM,aQ,if_pos rfl,uG _ 0 (dF (.inl rfl))]at hA;rw[hA];have hj:j=0∨j=1:=by omega
 have hl:(V.commits.take j).length=j:=by rw[List.length_take];omega
 refine⟨?_,rfl,?_,?_,?_⟩;·show(V.out++[]++[_]).length=3;simp[t3]
 ·show((V.out++[]++[aS 0 _]).getD 2 zX).code=0;simp[t3,aS,M]
 ·show((V.out++[]++[aS 0 (((V.commits.take j).length+0:Nat):Int)]).getD 2 zX).turn=(((V.commits.take j).length+0:Nat):Int);simp[t3,aS,M]
 ·show((((V.commits.take j).length+0:Nat):Int)=0∧(V2 [] ((V.commits.take j).take ((V.commits.take j).length+0))).length=0)∨((((V.commits.take j).length+0:Nat):Int)=1∧(V2 [] ((V.commits.take j).take ((V.commits.take j).length+0))).map (fun t=>t.2.map (fun p=>p.2))=[[[b]]]);rw[hl,Nat.add_zero,List.take_take,Nat.min_self];rcases hj with rfl|rfl;(·exact .inl ⟨rfl,rfl⟩);·exact .inr ⟨rfl,by rw[<-t4,List.take_length];exact t5⟩
end
theorem topLost_walk(w:tA)(hP:UJ w)(hT:YK w)(n v:Int)(hn0:-9223372036854775808<=n)(hn1:n<=9223372036854775807):X B 9 #[.int .i64 n,.int .i64 v] w fun e w'=>e=.returned (.bool J)∧Q w w' E:=by
 obtain⟨k,hk⟩:∃k,k=YM n 60:=⟨_,rfl⟩;have hk60:k<60:=by rw[hk];exact Uz n (by decide)
 have PK:S (∀w',X B 18 #[.int .i64 n,.int .i64 60] w' fun e w''=>e=.returned (.int .i64 (k:Int))∧w''=w'):=fun w'=>by rw[hk];exact Ja n 60 w' hn0 hn1 (by decide) (by decide)
 obtain⟨c,hc⟩:∃c,c=(IntKind.u8.wrap v).toNat:=⟨_,rfl⟩;have hw0:0<=IntKind.u8.wrap v∧IntKind.u8.wrap v<256:=by rw[IntKind.wrap_u8];omega
 have hcv:IntKind.u8.wrap v=(c:Int):=by omega
 have hc256:c<256:=by omega
 obtain⟨OA,hOA⟩:∃O,O=GI (Xm Qo (lostA (G c)++[Zj (k:Int),Zh,Pn,Us 0 (F7 1)])):=⟨_,rfl⟩;have HF:S (OA.replies.length=3∧OA.pending=0∧(OA.replies.getD 2 zX).code=0∧(OA.replies.getD 2 zX).turn=OA.turn∧((OA.turn=0∧OA.forest.length=0)∨(OA.turn=1∧OA.forest.map (fun t=>t.2.map (fun p=>p.2))=[[[G c]]]))):=lost_run U2 (G c) (k:=(k:Int)) (by omega) hOA;obtain⟨d1,hd1⟩:∃d,d=Ki (F7 1):=⟨_,rfl⟩;obtain⟨d6,hd6⟩:∃d,d=Ki (F7 6):=⟨_,rfl⟩;obtain⟨dp,hdp⟩:∃d,d=Ki ⟨4,[97],[107],[],[G c]⟩:=⟨_,rfl⟩;obtain⟨LA,hLA⟩:∃L:List Ac,L=[⟨1,0,0,d1⟩,⟨1,0,0,dp⟩,⟨1,0,0,d6⟩,Zj (k:Int),Zh,Pn,⟨1,0,0,d1⟩]:=⟨_,rfl⟩;have hLe:LA=lostA (G c)++[Zj (k:Int),Zh,Pn,Us 0 (F7 1)]:=by rw[hLA,hd1,hd6,hdp];rfl
 have RA:S (∀w' v,Q w w' E->Yg w' v LA->X B 16 #[v] w' (cR w' OA)):=fun w' v h hv=>Lk w' v LA OA (by rw[hOA,hLe]) hv (fun a ha=>by rw[hLe]at ha;rcases List.mem_append.1 ha with h|h;(·exact(lostA_ok _ a h).1);·simp only[g,SC,or_false]at h;rcases h with rfl|rfl|rfl|rfl;(·exact uA (by omega) (by omega));(·exact qX);(·exact lK);·exact mT (by decide) (dF (.inl rfl))) (by rw[hLA];simp) (hP.grown h) (hT.grownNone h);have AK1:S (∀W,Q w W E->X B 20 #[.int .i64 0,.agg #[.int .i64 1,.slice E 0 0,.slice E 0 0,.slice E 0 0,.slice E 0 0]] W (nF 0 W d1)):=fun W hW=>by rw[hd1];exact ask_K hP hW 0 1 (.inl rfl)
 have AK6:S (∀W,Q w W E->X B 20 #[.int .i64 0,.agg #[.int .i64 6,.slice E 0 0,.slice E 0 0,.slice E 0 0,.slice E 0 0]] W (nF 0 W d6)):=fun W hW=>by rw[hd6];exact ask_K hP hW 0 6 (.inr (.inl rfl))
 have AP:S (∀W,Q w W E->X B 20 #[.int .i64 0,.agg #[.int .i64 4,.slice (N ⟨W.heap.size,0,E⟩) 1 1,.slice (N ⟨W.heap.size+1,0,E⟩) 1 1,.slice E 0 0,.slice (N ⟨W.heap.size+1+1,0,E⟩) 1 1]] (((W.alloc (.cells #[.int .u8 97] 5)).alloc (.cells #[.int .u8 107] 5)).alloc (.cells #[.int .u8 (c:Int)] 5)) (nF 0 W dp)):=fun W hW=>by rw[hdp];exact ask_lit3 hP hW 0 4 (a:=97) (b:=107) (c:=c) rfl rfl rfl (by decide) (by decide) hc256 rfl (rq_three _ _ _)
 have HLA:S ([⟨1,0,0,d1⟩,⟨1,0,0,dp⟩,⟨1,0,0,d6⟩,Zj (k:Int),Zh,Pn,⟨1,0,0,d1⟩]=LA):=hLA.symm;have hLl:LA.length=7:=by rw[hLA];rfl
 have HLl:S (LA.length=7):=hLl;have HC:S (c<256):=hc256;clear hP hT hd1 hd6 hdp hOA hk hLA hLe hc hw0 hLl;go_enter tB,Tryz.ntmps9;have A1:S (X B 20 #[.int .i64 0,.agg #[.int .i64 1,.slice E 0 0,.slice E 0 0,.slice E 0 0,.slice E 0 0]] w (nF 0 w d1)):=AK1.out w (Qb _ _);go_upto_region 2with(first|(go_at_call 18;refine(PK.out _).mono ?_;rintro e w0⟨rfl,h0⟩;rw[h0];clear h0)|(go_at_call 20;refine A1.out.mono ?_;clear A1;rintro e w1⟨xa,xc,rfl,hp1,hg1⟩;(have HG1:S (Q w w1 E):=hg1);(have HP1:S (Qi 0 w1 (.slice xa d1.length xc) d1):=hp1);(have A2:S (X B 20 #[.int .i64 0,.agg #[.int .i64 4,.slice (N ⟨w1.heap.size,0,E⟩) 1 1,.slice (N ⟨w1.heap.size+1,0,E⟩) 1 1,.slice E 0 0,.slice (N ⟨w1.heap.size+1+1,0,E⟩) 1 1]] (((w1.alloc (.cells #[.int .u8 97] 5)).alloc (.cells #[.int .u8 107] 5)).alloc (.cells #[.int .u8 (c:Int)] 5)) (nF 0 w1 dp)):=AP.out w1 hg1);clear hp1 AP)|(go_at_call 20;refine A2.out.mono ?_;clear A2;rintro e w2⟨ya,yc,rfl,hp2,hg2⟩;(have HG2:S (Q w w2 E):=Qa HG1.out hg2);(have HP2:S (Qi 0 w2 (.slice ya dp.length yc) dp):=hp2);(have A3:S (X B 20 #[.int .i64 0,.agg #[.int .i64 6,.slice E 0 0,.slice E 0 0,.slice E 0 0,.slice E 0 0]] w2 (nF 0 w2 d6)):=AK6.out w2 HG2.out);clear hp2)|(go_at_call 20;refine A3.out.mono ?_;clear A3;rintro e w3⟨za,zc,rfl,hp3,hg3⟩;(have HG3:S (Q w w3 E):=Qa HG2.out hg3);(have HP3:S (Qi 0 w3 (.slice za d6.length zc) d6):=hp3);(have A4:S (X B 20 #[.int .i64 0,.agg #[.int .i64 1,.slice E 0 0,.slice E 0 0,.slice E 0 0,.slice E 0 0]] w3 (nF 0 w3 d1)):=AK1.out w3 HG3.out);clear hp3)|(go_at_call 20;refine A4.out.mono ?_;clear A4;rintro e w4⟨ta,tc,rfl,hp4,hg4⟩));have HG4:S (Q w w4 E):=Qa HG3.out hg4;obtain⟨W5,HW5,hg5,B5⟩:=Qg w4 (.cells #[.int .i64 1,.int .i64 0,.int .i64 0,.slice xa d1.length xc,.int .i64 1,.int .i64 0,.int .i64 0,.slice ya dp.length yc,.int .i64 1,.int .i64 0,.int .i64 0,.slice za d6.length zc,.int .i64 3,.int .i64 0,.int .i64 (k:Int),.slice E 0 0,.int .i64 4,.int .i64 0,.int .i64 0,.slice E 0 0,.int .i64 2,.int .i64 0,.int .i64 0,.slice E 0 0,.int .i64 1,.int .i64 0,.int .i64 0,.slice ta d1.length tc] 39);have HN5:S (UI w.heap.size W5 (.slice (N ⟨w4.heap.size,0,E⟩) 7 7) LA):=by have h:=mI w.heap.size w4 HG4.out.size [(⟨1,0,0,d1⟩,.slice xa d1.length xc),(⟨1,0,0,dp⟩,.slice ya dp.length yc),(⟨1,0,0,d6⟩,.slice za d6.length zc),(Zj (k:Int),.slice E 0 0),(Zh,.slice E 0 0),(Pn,.slice E 0 0),(⟨1,0,0,d1⟩,.slice ta d1.length tc)] (by simp) (by simp) (fun y hy=>by simp only[g,SC,or_false]at hy;rcases hy with rfl|rfl|rfl|rfl|rfl|rfl|rfl;(·exact HP1.out.keptT (Qa hg2 (Qa hg3 hg4)) (.inl rfl));(·exact HP2.out.keptT (Qa hg3 hg4) (.inl rfl));(·exact HP3.out.keptT hg4 (.inl rfl));(·exact vX w4);(·exact vX w4);(·exact vX w4);·exact hp4) #[.int .i64 1,.int .i64 0,.int .i64 0,.slice xa d1.length xc,.int .i64 1,.int .i64 0,.int .i64 0,.slice ya dp.length yc,.int .i64 1,.int .i64 0,.int .i64 0,.slice za d6.length zc,.int .i64 3,.int .i64 0,.int .i64 (k:Int),.slice E 0 0,.int .i64 4,.int .i64 0,.int .i64 0,.slice E 0 0,.int .i64 2,.int .i64 0,.int .i64 0,.slice E 0 0,.int .i64 1,.int .i64 0,.int .i64 0,.slice ta d1.length tc] rfl;rw[<-HLA.out,HW5.out];exact h
 have HG5:S (Q w W5 E):=Qa HG4.out hg5;have RA5:S (X B 16 #[.slice (N ⟨w4.heap.size,0,E⟩) 7 7] W5 (cR W5 OA)):=RA.out W5 _ HG5.out HN5.out.list;rw[<-HW5.out];clear hp4 hg1 hg2 hg3 hg4 hg5 B5 HW5 PK HP1 HP2 HP3 HG1 HG2 HG3 HG4 HN5 RA HLA;go_upto_region 3with(go_at_call 16;refine RA5.out.mono ?_;clear RA5;rintro e w6⟨fa,fc,ra,rc,rfl,hx6,hg6⟩);obtain⟨W7,AB,HW7,HAB,hg7,HB7⟩:=bT w6 OA fa fc ra rc;rw[<-HW7.out,<-HAB.out];have HG7:S (Q w W7 E):=Qa HG5.out (Qa hg6 hg7);have HXA:S (Jy W7 (fun w=>Pa w (.agg #[.bool OA.up,.int .i64 OA.turn,.int .i64 OA.pending,.slice fa OA.forest.length fc,.slice ra OA.replies.length rc]) OA)):=hx6.grown hg7;obtain⟨⟨a0,a1,a2,a3,a4⟩,_⟩:=Qp (Qb W7 E) HB7.out;obtain⟨f1,f2,f3,f4,f5⟩:=HF.out;have e1:((OA.replies.length:Int)!=3)=I:=by rw[f1];rfl
 have e2:(OA.pending !=0)=I:=by rw[f2];rfl
 have b2:(2:Int)<(OA.replies.length:Int):=by omega
 obtain⟨vf,vr,e,hfs,hrs⟩:=HXA.out.now;simp only[Value.agg.injEq,Array.mk.injEq,List.cons.injEq,and_true,true_and]at e;obtain⟨rfl,rfl⟩:=e;have HFS:S (ZC W7 (.slice fa OA.forest.length fc) OA.forest):=hfs;obtain⟨rb,ro,ua4,uc4,ua5,uc5,ua6,uc6,ua8,uc8,ua9,uc9,ua10,uc10,ua12,uc12,ua13,uc13,ua14,uc14,rfl,x0,x1,x2,x3,x4,x5,x6,x7,x8,x9,x10,x11,x12,x13,x14,_⟩:=hrs.all 2 (by omega);obtain⟨P,hPe⟩:∃P,P=OA.replies.getD 2 zX:=⟨_,rfl⟩;rw[<-hPe]at f3 f4 x0 x1 x2 x3 x4 x5 x6 x7 x8 x9 x10 x11 x12 x13 x14;have HFP:S (P.code=0∧P.turn=OA.turn):=⟨f3,f4⟩;have HFF:S ((OA.turn=0∧OA.forest.length=0)∨(OA.turn=1∧OA.forest.map (fun t=>t.2.map (fun p=>p.2))=[[[G c]]])):=f5;obtain⟨W8,HW8,hg8,B8⟩:=Qg W7 (.cells #[.int .i64 P.sess,.int .i64 P.code,.int .i64 P.turn,.bool P.found,.slice ua4 P.value.length uc4,.slice ua5 P.pairs.length uc5,.slice ua6 (Pv P).length uc6,.bool (KU P).empty,.slice ua8 (KU P).steps.length uc8,.slice ua9 (KU P).pair.1.length uc9,.slice ua10 (KU P).pair.2.length uc10,.bool (KT P).empty,.slice ua12 (KT P).steps.length uc12,.slice ua13 (KT P).pair.1.length uc13,.slice ua14 (KT P).pair.2.length uc14] 48);clear hx6 hg6 hg7 HW7 HAB HG5 f1 f2 f3 f4 f5 hPe hfs hrs HF;go_upto_region 6with fail;rw[<-HW8.out];obtain⟨c8,hc8⟩:∃b,b=W7.heap.size:=⟨_,rfl⟩;rw[<-hc8]at B8⊢;have HG8:S (Q w W8 E):=Qa HG7.out hg8;have HB8:S (_):=Qd hg8 HB7.out;clear x0 x1 x2 x3 x4 x5 x6 x7 x8 x9 x10 x11 x12 x13 x14 a0 a1 a2 a3 a4 hc8 HW8 e1 e2 b2;obtain⟨⟨a0,a1,a2,a3,a4⟩,_⟩:=Qp (Qb W8 E) HB8.out;obtain⟨p0,p1,p2,p3,_⟩:=QI B8.out;obtain⟨g1,g2⟩:=HFP.out;rw[g1]at p1;rw[g2]at p2;have e1:(OA.turn !=OA.turn)=I:=by simp
 clear g1 g2 HFP;rcases HFF.out with⟨t1,t2⟩|⟨t1,t2⟩;·have j1:(OA.turn==0)=J:=beq_iff_eq.2 t1;have j2:((OA.forest.length:Int)==0)=J:=beq_iff_eq.2 (by omega);clear t1 t2 HFF;go_wp2_with fail;go_ret;exact⟨rfl,HG8.out⟩
 ·(have j1:(OA.turn==0)=I:=by rw[t1];rfl);(have j2:(OA.turn==1)=J:=by rw[t1];rfl);(have hl:OA.forest.length=1:=by have h:=congrArg tK t2;simpa using h);have j3:((OA.forest.length:Int)==1)=J:=beq_iff_eq.2 (by omega);(have j4:0<OA.forest.length:=by omega);obtain⟨tb,tO,rfl,vn,vp,z0,z1,_,hps⟩:=(HFS.out.grown hg8).at 0 (by omega);obtain⟨F0,hF0⟩:∃F,F=OA.forest.getD 0 ([],[]):=⟨_,rfl⟩;rw[<-hF0]at hps;(have hfm:F0.2.map (fun p=>p.2)=[[G c]]:=by have h:=congrArg (fun l=>l.getD 0 []) t2;simp only[M,tH]at h hF0;rw[m (by omega)]at h hF0;rw[hF0];simpa using h);(have hpl:F0.2.length=1:=by have h:=congrArg tK hfm;simpa using h);obtain⟨qa,qc,rfl⟩:=hps.shape;obtain⟨qb,qo,rfl,vk,vw,y0,y1,_,hvw⟩:=hps.at 0 (by omega);(have hval:(F0.2.getD 0 ([],[])).2=[G c]:=by have h:=congrArg (fun l=>l.getD 0 []) hfm;simp only[M,tH]at h⊢;rw[m (by omega)]at h⊢;simpa using h);rw[hval]at hvw;(have j5:0<F0.2.length:=by omega);clear t1 t2 HFF hF0 hfm hval hl hpl;obtain⟨va,vc,rfl⟩:=hvw.shape;rw[show[G c].length=1from rfl]at y1 hvw;have hgL:=K W8 (.cells #[.int .u8 (c:Int)] 5) E;have cv1:=qN W8.drew _ _ hvw.drew;have cv2:=qN (W8.alloc (.cells #[.int .u8 (c:Int)] 5)).drew _ _ (hvw.grown hgL).drew;have cv3:=qN (W8.alloc (.cells #[.int .u8 (c:Int)] 5)).drew (.slice (N ⟨W8.heap.size,0,E⟩) 1 1) [G c] ((part_lit rfl HC.out (Z9 W8 _)).1.drew);have k1:(W8.alloc (.cells #[.int .u8 (c:Int)] 5)).drew.cell? ⟨AB,3,E⟩=N (.slice (N ⟨tb,tO,E⟩) OA.forest.length fc):=hgL.cell a3 (by simp);have k2:(W8.alloc (.cells #[.int .u8 (c:Int)] 5)).drew.cell? ⟨tb,tO+0*2+1,E⟩=N (.slice (N ⟨qb,qo,E⟩) F0.2.length qc):=hgL.cell z1 (by simp);have k3:(W8.alloc (.cells #[.int .u8 (c:Int)] 5)).drew.cell? ⟨qb,qo+0*2+1,E⟩=N (.slice va 1 vc):=hgL.cell y1 (by simp);rw[Nat.zero_mul,Nat.add_zero]at z1 y1 k2 k3;clear hvw hps z0 y0;go_upto_region 10with fail;go_region;all_goals(go_wp2_with fail;go_ret;refine⟨rfl,Qa HG8.out ?_⟩;first|exact Ql (Qb _ _)|exact Ql hgL)
section
open Go.ChangeShapes Go.WideShapes Go.ChangeAt Go.RowKit
namespace topLost
theorem contract(H:Type)(enc:tM×tI->H)(W:tA)(base:Nat)(args:Array tI)(ds gs:List (DataW H))(before:List MemPlace)(hval:∀(j:Nat)t v,R.params[j]?=N t->args[j]?=N v->Value.okWide B W .any base t v)(hW:DataW.Whole enc B R.params.toList Rows.topLostSpec.vars I W args.toList ds gs before)(_hL:laidMetH B Rows.topLostRow.laid W)(hsz0:(DataW.weightsEach B (R.params.toList++(T Rows.topLostSpec).bare.plain.varTypes B) (ds++gs)).all (·<=reachBytes)=J):X B 9 args W fun e W'=>∃v,e=.returned v∧Rows.topLostSpec.post enc B R I J I I W args v W':=by
 have hW':=hW;obtain⟨p,q,hA0,hV,rfl,hfz,hnd⟩:=hW;have hA:DataW.TrodAll enc B W 0 (fun _=>J) J R.params.toList args.toList ds p:=hA0;have hsz:=hsz0;rw[tJ]at hA hval hsz;obtain⟨v0,vs0,d0,ds0,p0,q0,hargs,rfl,rfl,h0,r0⟩:=trodAll_cons hA;obtain⟨v1,vs1,d1,ds1,p1,q1,rfl,rfl,rfl,h1,r1⟩:=trodAll_cons r0;obtain⟨rfl,rfl,rfl⟩:=trodAll_nil r1;obtain rfl:args=#[v0,v1]:=by cases args;simp_all
 obtain⟨rfl,rfl⟩:=trodVars_none hV;obtain⟨a0,rfl,rfl,rfl,w0⟩:=open_int u (hval 0 3 v0 rfl rfl) h0;obtain⟨a1,rfl,rfl,rfl,w1⟩:=open_int u (hval 1 3 v1 rfl rfl) h1;clear hA0;refine(topLost_walk W (LX _hL).1 (LX _hL).2 a0 a1 (JB w0).1 (JB w0).2).mono fun e W'⟨he,hg⟩=>?_;subst he;have bel:=aT hg;exact⟨_,rfl,_,_,_,[],_,[],hW',trodAll_mk1 (shut_bool Tryz.underlying4 _),(trodAll_cons_mk (shut_int u w0) (trodAll_cons_mk (shut_int u w1) trodAll_mk0)),rfl,bel.frame _,fun h=>by cases h⟩
theorem aK(os:Os):laidMet B Rows.topLostRow.laid ((Pp (tC B os ⟨#[],#[],[]⟩)).forCall (fun _ _=>0) ⟨#[],#[.int .i64 0,.int .i64 0],[]⟩).memory:=laidMet_of_run' 30 (by
 kernel_rfl) (by
 kernel_rfl)
theorem reads(os:Os){H:Type}(enc:tM×tI->H):∃places,DataW.whole enc B ((Pp (tC B os ⟨#[],#[],[]⟩)).forCall (fun _ _=>0) ⟨#[],#[.int .i64 0,.int .i64 0],[]⟩).memory R.params.toList Rows.topLostSpec.vars I (#[Value.int .i64 0,Value.int .i64 0]:Array tI).toList 8=N ([.lit (.int .i64 0),.lit (.int .i64 0)],[],places):=⟨[],by
 kernel_rfl⟩
theorem iK(os:Os)(started:os.Started)(H:Type)(enc:tM×tI->H)(F:Stop.Interp):ReturnsInHanded {} tD os 9 .any ((T Rows.topLostSpec).preRow enc B R Rows.topLostRow.domain I Rows.topLostRow.laid) (((T Rows.topLostSpec).at F).post enc B R I J I I):=by
 obtain⟨places,hx⟩:=reads os enc;refine returnsInHanded_of_row (C:=tD) (s:=T Rows.topLostSpec) own started (by kernel_rfl) tB (witness_row_at (enc:=enc) (C:=tD) I (Pp (tC B os ⟨#[],#[],[]⟩)) #[.int .i64 0,.int .i64 0] rfl (by kernel_rfl) (by kernel_rfl) (by kernel_rfl) (tN 8 hx (by kernel_rfl) (fun k hk=>by cases hk) (by kernel_rfl) (aK os))) ?_;intro W base args ds gs before hval hW _ _ hsz hL _ _;exact contract H enc W base args ds gs before hval hW hL hsz
theorem said:Rows.TopLostSaid:=OpenClaim.holds_of_cond 9 R rfl rfl rfl rfl rfl rfl rfl ⟨rfl,rfl,rfl,rfl,rfl⟩ rfl rfl rfl rfl rfl (by
 kernel_rfl) tB (by
 kernel_rfl) (of_decide_eq_true (by
 kernel_rfl)) (by
 unfold Func.isWrapper;first|(rw[if_pos (by decide+kernel)];kernel_rfl)|(rw[if_neg (by decide+kernel)];exact⟨rfl,rfl⟩)) (fun os started H enc _ F=>by
 rw[OpenClaim.pre_eq_preRow];exact iK os started H enc F)
theorem plain(f:FuncId)(fn:Func)(hf:Tryz.pinned.checked.prog.funcNamed "canopy/canopytop.TopLost"=N f)(hfn:Tryz.pinned.checked.prog.funcs[f]?=N fn):I=Tryz.pinned.checked.prog.looks []∧∀(j:Nat)t,fn.params[j]?=N t->Tryz.pinned.checked.prog.wantsStandIn t=I:=by
 obtain rfl:f=9:=Option.some.inj ((show B.funcNamed "canopy/canopytop.TopLost"=N 9by kernel_rfl).symm.trans hf)|>.symm;obtain rfl:fn=R:=(Option.some.inj (tB.symm.trans hfn)).symm;refine⟨by kernel_rfl,fun j t ht=>?_⟩;rw[tJ]at ht;have hall:∀t∈[3,3],B.wantsStandIn t=I:=by intro t ht;rcases g.1 ht with rfl|ht;(·exact(show B.wantsStandIn 3=I by kernel_rfl));rcases g.1 ht with rfl|ht;(·exact(show B.wantsStandIn 3=I by kernel_rfl));cases ht
 exact hall t (by have:=Array.mem_of_getElem? ht;simpa using this)
end topLost
theorem topLost_card:Rows.TopLostCardSaid:=Claim7.holds_tied_plain_at .later [] _ _ _ _ topLost.said (fun _ h=>by
 cases h) (by
 kernel_rfl) (fun _ h=>by
 cases h) topLost_row_tie rfl ⟨rfl,rfl⟩ (by
 kernel_rfl) rfl topLost.plain (by
 kernel_rfl)
end
end Go.Proofs.YtgnknpcnpjnohaaGreatDoor
