/-
  canopytop.TopQueue returns true at every argument and leaves its arguments as they were: the tied card. Conditions: those of the card alone (the listed variables start as the program's text lays them).
  Texts of this proof, joined, with few blanks: SrvW, SrvX, TLit, AcCut, QueueF, LTpQueue, TopQueue.
-/
import Derived.ArgAppend
import Derived.Test.YtgnknpcnpjnohaaGreatDoorQ52
set_option maxRecDepth 100000
set_option maxHeartbeats 8000000
open Bool renaming false->I,true->N
open Decidable renaming decide->tB
open Go renaming Calls->X,World->tA,Value->tI,heap_alloc_new->tK,TypeId->tU,sliced->tW
open Go.IntKind renaming wrap_i64->S,i64->Z9,u8->tY,wrap_u8->tZ
open Go.OpenSpec renaming ofChange->SC,preRow_of_cond->tX
open Go.Proofs.Tryz renaming prog->E,f12->V,func12->tE,checked->tJ,underlying3->tN,params12->tR
open Go.RowKit renaming Hid->T
open Go.Value.slice renaming injEq->Y
open Go.World renaming grownBy_alloc->J,grownBy->M,holding->tH,cell?->tS
open List renaming mem_cons->EA,not_mem_nil->tC,length_append->tD,mem_append->tG,mem_cons_of_mem->tL,mem_cons_self->tM,foldl_cons->tP,range_succ->tQ,range->tV
open Option renaming none->G,some->R
open UInt8 renaming ofNat->K
namespace Go.Proofs.YtgnknpcnpjnohaaGreatDoor
open Go.RowKit
section
variable{D:List UInt8->List UInt8}{v:Sv}
theorem flat_le(hD:∀x,(D x).length=4):∀(cs:List XG),(∀c∈cs,Zc c=0)->(Q7 D cs).length<=600*cs.length|[],_=>by simp[Q7]|c::cs,h=>by have h1:=(Bo hD (h c tM)).2;have h2:=flat_le hD cs (fun x hx=>h x (tL _ hx));(have e:Q7 D (c::cs)=ZM D c++Q7 D cs:=by simp[Q7]);rw[e,tD,List.length_cons];omega
theorem Za.each(h:Za D v):∀c∈v.commits,Zc c=0:=fun c hc=>by
 obtain⟨i,hi,e⟩:=List.getElem_of_mem hc;have:=(h.goes.at i hi).1;rw[List.getD_eq_getElem?_getD,List.getElem?_eq_getElem hi,e]at this;exact this
theorem app_fits(hD:∀x,(D x).length=4)(h:Za D v){s:Nat}(hb:v.begun s=N)(hw:¬(v.txns s).writes.length=0):VF D v.tape (Y5 v s)=0:=by
 have hm:=h.many;have hc:Zc (Y5 v s)=0:=Cv (h.tx s hb).1 hw v.commits.length hm;have h1:=(Bo hD hc).2;have h2:=flat_le hD v.commits h.each;have hd:=h.data;rw[VF,if_pos h.may,if_pos hc,if_neg (by rw[hd];omega)]
def commitW(v:Sv)(s:Nat):Sv:=if(v.txns s).writes.length=0then ZD (XD v s) (aS s (v.txns s).start)else if v.queue.length=6∨v.commits.length=300then ZD v (Ga s 11)else if UU (v.txns s) v.commits=N then ZD (XD v s) (Ga s 9)else if Q5 (QE v v.commits.length) (v.txns s).writes≠0then ZD (XD v s) (Ga s (Q5 (QE v v.commits.length) (v.txns s).writes))else{XD v s with commits:=v.commits++[Y5 v s],queue:=v.queue++[s],waits:=JW v.waits s N}
def reqW(v:Sv)(s:Nat)(r:Rq):Sv:=if r.kind=8then Rt v s r else if QD v s r=N then ZD v (Ga s 6)else if r.kind=1then ZD {v with begun:=JW v.begun s N,txns:=JW v.txns s ⟨(v.synced:Int),[],[]⟩} (aS s (v.synced:Int))else if r.kind=7then ZD (XD v s) (Ga s 0)else if ZJ (v.synced:Int) (v.txns s).start=I then ZD (XD v s) (Ga s 10)else if r.kind=6then commitW v s else qD v s r
def askW(v:Sv)(s:Nat)(data:List UInt8):Sv:=if v.up=I then ZD v (Ga s 13)else if QJ data=0then reqW v s (Qu data)else ZD v (Ga s (QJ data))
def syncW(v:Sv):Sv:={v with synced:=v.synced+v.queue.length,waits:=JZ v.waits v.queue,queue:=[],out:=v.out++Y1 v.synced v.queue}
def actW(v:Sv)(a:Ac):Sv:=if a.kind=1then askW v a.sess.toNat a.data else if a.kind=2then(if v.up=N then syncW v else v)else{v with up:=N}
def runW(l:List Ac):Sv:=l.foldl actW WI
def bare(v:Sv):Sv:={v with tape:=Gi}
theorem bare_tell(v:Sv)(r:Rp):bare (ZD v r)=ZD (bare v) r:=rfl
theorem bare_out(v:Sv):GI (bare v)=GI v:=rfl
theorem bare_note(v:Sv)(s:Nat)(x:Rd)(o:Rp):bare (KG v s x o)=KG (bare v) s x o:=by
 unfold KG;show bare (if Xi (v.txns s) x=0then _ else _)=if Xi (v.txns s) x=0then _ else _;split<;>rfl
theorem bare_work(v:Sv)(s:Nat)(r:Rq):bare (qD v s r)=qD (bare v) s r:=by
 unfold qD;split;·unfold UH;show bare (ZD (if Xk (v.txns s) _=0then _ else _) _)=ZD (if Xk (v.txns s) _=0then _ else _) _;split<;>rfl
 ·split;(·unfold Er;show bare (if VS (QE v (v.txns s).start.toNat) (v.txns s) r.name r.key=N then _ else _)=if VS (QE v (v.txns s).start.toNat) (v.txns s) r.name r.key=N then _ else _;split;(·rfl);·exact bare_note v s _ _);·unfold jX;show bare (if KJ (QE v (v.txns s).start.toNat) (v.txns s) r.name r.key r.last=0then _ else _)=if KJ (QE v (v.txns s).start.toNat) (v.txns s) r.name r.key r.last=0then _ else _;split;(·exact bare_note v s _ _);·rfl
theorem bare_commit(hD:∀x,(D x).length=4)(h:Za D v){s:Nat}(hb:v.begun s=N):bare (YV D v s)=commitW (bare v) s:=by
 unfold YV commitW;show bare (if(v.txns s).writes.length=0then _ else if v.queue.length=6∨v.commits.length=300then _ else if UU (v.txns s) v.commits=N then _ else if Q5 (QE v v.commits.length) (v.txns s).writes≠0then _ else _)=if(v.txns s).writes.length=0then _ else if v.queue.length=6∨v.commits.length=300then _ else if UU (v.txns s) v.commits=N then _ else if Q5 (QE v v.commits.length) (v.txns s).writes≠0then _ else _;by_cases h1:(v.txns s).writes.length=0;·rw[if_pos h1,if_pos h1];rfl
 ·rw[if_neg h1,if_neg h1];by_cases h2:v.queue.length=6∨v.commits.length=300;(·rw[if_pos h2,if_pos h2];rfl);·rw[if_neg h2,if_neg h2];by_cases h3:UU (v.txns s) v.commits=N;(·rw[if_pos h3,if_pos h3];rfl);·rw[if_neg h3,if_neg h3];by_cases h4:Q5 (QE v v.commits.length) (v.txns s).writes≠0;(·rw[if_pos h4,if_pos h4];rfl);·rw[if_neg h4,if_neg h4,if_neg (fun e=>e (app_fits hD h hb h1))];rfl
theorem bare_req(hD:∀x,(D x).length=4)(h:Za D v)(s:Nat)(r:Rq):bare (YY D v s r)=reqW (bare v) s r:=by
 unfold YY reqW;have es:QD (bare v) s r=QD v s r:=rfl;rw[es];by_cases h1:r.kind=8;·rw[if_pos h1,if_pos h1];rfl
 ·rw[if_neg h1,if_neg h1];by_cases h2:QD v s r=N;(·rw[if_pos h2,if_pos h2];rfl);·rw[if_neg h2,if_neg h2];by_cases h3:r.kind=1;(·rw[if_pos h3,if_pos h3];rfl);·rw[if_neg h3,if_neg h3];(have hb:v.begun s=N:=by unfold QD at h2;rw[if_neg h3]at h2;cases hw:v.waits s<;>cases hv:v.begun s<;>simp[hw,hv]at h2⊢);by_cases h4:r.kind=7;(·rw[if_pos h4,if_pos h4];rfl);·rw[if_neg h4,if_neg h4];show bare (if ZJ (v.synced:Int) (v.txns s).start=I then _ else _)=if ZJ (v.synced:Int) (v.txns s).start=I then _ else _;by_cases h5:ZJ (v.synced:Int) (v.txns s).start=I;(·rw[if_pos h5,if_pos h5];rfl);·rw[if_neg h5,if_neg h5];by_cases h6:r.kind=6;(·rw[if_pos h6,if_pos h6];exact bare_commit hD h hb);·rw[if_neg h6,if_neg h6];exact bare_work v s r
theorem bare_act(hD:∀x,(D x).length=4)(h:Za D v){a:Ac}(ha:a.kind≠3):bare (QU D v a)=actW (bare v) a:=by
 unfold QU actW;by_cases h1:a.kind=1;·rw[if_pos h1,if_pos h1];unfold ZZ askW;show bare (if v.up=I then _ else _)=if v.up=I then _ else _;split;(·rfl);·split;(·exact bare_req hD h _ _);·rfl
 ·rw[if_neg h1,if_neg h1];by_cases h2:a.kind=2;(·rw[if_pos h2,if_pos h2];show bare (if v.up=N then _ else _)=if v.up=N then _ else _;split<;>rfl);·rw[if_neg h2,if_neg h2,if_neg ha];rfl
theorem bare_acts(hD:∀x,(D x).length=4):∀(l:List Ac)(v:Sv),Za D v->(∀a∈l,XH a∧a.kind≠3)->bare (l.foldl (QU D) v)=l.foldl actW (bare v)|[],_,_,_=>rfl|a::l,v,h,ha=>by have h1:=ha a tM;rw[tP,tP,bare_acts hD l _ (h.act hD h1.1) (fun x hx=>ha x (tL _ hx)),bare_act hD h h1.2]
theorem runW_out(hD:∀x,(D x).length=4)(l:List Ac)(h:∀a∈l,XH a∧a.kind≠3):GI (Xm D l)=GI (runW l):=by
 rw[<-bare_out,Xm,bare_acts hD l WI (Ar D) h];rfl
end
theorem all_bytes{P:UInt8->Prop}(h:∀i:Fin 256,P (K i.val))(b:UInt8):P b:=by
 have:=h ⟨b.toNat,b.toNat_lt⟩;rwa[show K b.toNat=b by simp]at this
/-!TopOwn. -/
def ownA(b:UInt8)(gone:Bool):List Ac:=[Us 0 (F7 1),Us 0 ⟨4,[111],[107],[],[7]⟩,Us 0 (if gone=N then⟨5,[111],[107],[],[]⟩else⟨4,[111],[107],[],[b]⟩),Us 0 ⟨2,[111],[107],[],[]⟩,Us 0 ⟨3,[111],[97],[122],[]⟩]
def ownT(o:Oc)(fs:List Bool)(vs:List (List UInt8))(ks ws:List (List (List UInt8))):Bool:=tB (o.turn=0)&&tB (o.replies.map (fun r=>r.code)=[0,0,0,0,0])&&tB (o.replies.map (fun r=>r.found)=fs)&&tB (o.replies.map (fun r=>r.value)=vs)&&tB (o.replies.map (fun r=>r.pairs.map (fun p=>p.1))=ks)&&tB (o.replies.map (fun r=>r.pairs.map (fun p=>p.2))=ws)
theorem own_put(b:UInt8):ownT (GI (runW (ownA b I))) [I,I,I,N,I] [[],[],[],[b],[]] [[],[],[],[],[[107]]] [[],[],[],[],[[b]]]=N:=all_bytes (P:=fun b=>ownT (GI (runW (ownA b I))) [I,I,I,N,I] [[],[],[],[b],[]] [[],[],[],[],[[107]]] [[],[],[],[],[[b]]]=N) (by
 decide+kernel) b
theorem own_gone(b:UInt8):ownT (GI (runW (ownA b N))) [I,I,I,I,I] [[],[],[],[],[]] [[],[],[],[],[]] [[],[],[],[],[]]=N:=all_bytes (P:=fun b=>ownT (GI (runW (ownA b N))) [I,I,I,I,I] [[],[],[],[],[]] [[],[],[],[],[]] [[],[],[],[],[]]=N) (by
 decide+kernel) b
/-!TopGone. -/
def goneR(k:Nat):List Ac:=(tV k).flatMap (fun i=>[Us 0 (F7 1),Us 0 ⟨4,[97],[K (i+1)],[],[]⟩,Us 0 (F7 6),Pn])
def goneA(k:Nat):List Ac:=Us 3 (F7 1)::goneR k++[Us 3 ⟨2,[97],[1],[],[]⟩,Us 3 (F7 7)]
def goneT(k:Nat)(o:Oc):Bool:=tB (o.replies.length=3*k+3)&&tB (o.turn=(k:Int))&&(match o.replies[3*k+1]?,o.replies[3*k+2]?with|R a,R b=>if k<6then tB (a.code=0∧a.found=I∧a.turn=0∧b.code=0)else tB (a.code=10∧b.code=6)|_,_=>I)
theorem gone_all:∀k:Fin 12,goneT k.val (GI (runW (goneA k.val)))=N:=by
 decide+kernel
/-!TopQueue. -/
def queueA(k:Nat):List Ac:=(tV k).flatMap (fun i=>[Us (i%8) (F7 1),Us (i%8) ⟨4,[97],[K (i+1)],[],[]⟩,Us (i%8) (F7 6)])
def queueT(k:Nat)(o p:Oc):Bool:=tB (o.pending=((min k 6:Nat):Int)∧o.turn=0∧p.turn=((min k 6:Nat):Int)∧p.pending=0∧o.forest.length=0∧o.replies.length=2*min k 6+3*(k-min k 6))
theorem queue_all:∀k:Fin 10,queueT k.val (GI (runW (queueA k.val))) (GI (runW (queueA k.val++[Pn])))=N:=by
 decide+kernel
theorem part_lit{w:tA}{b:Nat}{n:Nat}{x:Int}(hx:x=(n:Int))(hn:n<256)(hb:w.heap[b]?=R (.cells #[.int .u8 x] 5)):Qi 0 w (.slice (R ⟨b,0,G⟩) 1 1) [K n]:=by
 subst hx;refine⟨⟨R ⟨b,0,G⟩,1,rfl,Nat.le_refl _,.inr ⟨b,0,rfl,fun i hi=>?_⟩⟩,.inr ⟨b,rfl,(Array.getElem?_eq_some_iff.1 hb).1,.inr ⟨_,_,hb⟩⟩⟩;obtain rfl:i=0:=by simpa using hi
 simp[tS,hb,Nat.mod_eq_of_lt hn]
theorem lit_old{w:tA}{b:Nat}{o p:Obj}(h:w.heap[b]?=R o):(w.alloc p).heap[b]?=R o:=Qd (J _ _ G) h
theorem lit_new(w:tA)(p q:Obj):((w.alloc q).alloc p).heap[w.heap.size+1]?=R p:=by
 have h:=tK (w.alloc q) p;rwa[show(w.alloc q).heap.size=w.heap.size+1by simp]at h
theorem lit_new2(w:tA)(p q r:Obj):(((w.alloc r).alloc q).alloc p).heap[w.heap.size+1+1]?=R p:=by
 have h:=lit_new (w.alloc r) p q;rwa[show(w.alloc r).heap.size=w.heap.size+1by simp]at h
theorem ask_lit2{w W:tA}(hP:UJ w)(hg:M w W G)(s k:Int){a b:Nat}{x y:Int}(hx:x=(a:Int))(hy:y=(b:Int))(ha:a<256)(hb:b<256){r:Rq}(hr:r=⟨k,[K a],[K b],[],[]⟩)(hok:X0 r):X E 20 #[.int .i64 s,.agg #[.int .i64 k,.slice (R ⟨W.heap.size,0,G⟩) 1 1,.slice (R ⟨W.heap.size+1,0,G⟩) 1 1,.slice G 0 0,.slice G 0 0]] ((W.alloc (.cells #[.int .u8 x] 5)).alloc (.cells #[.int .u8 y] 5)) (nF s W (Ki r)):=by
 have hgA:M W ((W.alloc (.cells #[.int .u8 x] 5)).alloc (.cells #[.int .u8 y] 5)) G:=Qa (J _ _ G) (J _ _ G);refine(m8 _ s _ r (hP.grown (Qa hg hgA)) ?_ hok).mono ?_;·subst hr;exact⟨_,_,_,_,rfl,(part_lit hx ha (lit_old (tK W _))).1,(part_lit hy hb (lit_new W _ _)).1,Qx _,Qx _⟩
 ·rintro e w'⟨xa,xc,rfl,hp,hg'⟩;exact⟨xa,xc,rfl,hp,Qa hgA hg'⟩
theorem ask_lit3{w W:tA}(hP:UJ w)(hg:M w W G)(s k:Int){a b c:Nat}{x y z:Int}(hx:x=(a:Int))(hy:y=(b:Int))(hz:z=(c:Int))(ha:a<256)(hb:b<256)(hc:c<256){r:Rq}(hr:r=⟨k,[K a],[K b],[],[K c]⟩)(hok:X0 r):X E 20 #[.int .i64 s,.agg #[.int .i64 k,.slice (R ⟨W.heap.size,0,G⟩) 1 1,.slice (R ⟨W.heap.size+1,0,G⟩) 1 1,.slice G 0 0,.slice (R ⟨W.heap.size+1+1,0,G⟩) 1 1]] (((W.alloc (.cells #[.int .u8 x] 5)).alloc (.cells #[.int .u8 y] 5)).alloc (.cells #[.int .u8 z] 5)) (nF s W (Ki r)):=by
 have hgA:M W (((W.alloc (.cells #[.int .u8 x] 5)).alloc (.cells #[.int .u8 y] 5)).alloc (.cells #[.int .u8 z] 5)) G:=Qa (J _ _ G) (Qa (J _ _ G) (J _ _ G));refine(m8 _ s _ r (hP.grown (Qa hg hgA)) ?_ hok).mono ?_;·subst hr;exact⟨_,_,_,_,rfl,(part_lit hx ha (lit_old (lit_old (tK W _)))).1,(part_lit hy hb (lit_old (lit_new W _ _))).1,Qx _,(part_lit hz hc (lit_new2 W _ _ _)).1⟩
 ·rintro e w'⟨xa,xc,rfl,hp,hg'⟩;exact⟨xa,xc,rfl,hp,Qa hgA hg'⟩
theorem ask_K{w W:tA}(hP:UJ w)(hg:M w W G)(s k:Int)(hk:k=1∨k=6∨k=7):X E 20 #[.int .i64 s,.agg #[.int .i64 k,.slice G 0 0,.slice G 0 0,.slice G 0 0,.slice G 0 0]] W (nF s W (Ki (F7 k))):=m8 W s _ (F7 k) (hP.grown hg) (nH W k) (dF hk)
theorem rq_two{k:Int}(hk:k=2∨k=4∨k=5∨k=8)(a b:UInt8):X0 ⟨k,[a],[b],[],[]⟩:=by
 rcases hk with rfl|rfl|rfl|rfl<;>(refine⟨⟨?_,?_⟩,?_,?_,?_,?_,?_,?_,?_,?_⟩<;>simp[QW])
theorem rq_three(a b c:UInt8):X0 ⟨4,[a],[b],[],[c]⟩:=by
 refine⟨⟨?_,?_⟩,?_,?_,?_,?_,?_,?_,?_,?_⟩<;>simp[QW]
theorem rq_scan(a b c:UInt8):X0 ⟨3,[a],[b],[c],[]⟩:=by
 refine⟨⟨?_,?_⟩,?_,?_,?_,?_,?_,?_,?_,?_⟩<;>simp[QW]
theorem row_cells{w:tA}{g k:Nat}{cur:Array tI}{t:tU}{xs:List tI}(hg:w.heap[g]?=R (.cells cur t (0,0)))(hl:xs.length=k)(ht:cur.toList.take k=xs):∀j u,xs[j]?=R u->w.cell? ⟨g,0+j,G⟩=R u:=by
 intro j u hj;have hlt:j<k:=by have:=(List.getElem?_eq_some_iff.1 hj).1;omega
 have e2:(cur.toList.take k)[j]?=xs[j]?:=by rw[ht]
 rw[List.getElem?_take,if_pos hlt,hj]at e2;simp[tS,hg];simpa using e2
theorem acut_run(a:Option Addr)(cap:Nat)(l:List Ac)(hc:l.length<=cap)(ha:∀x,a=R x->x.add 0=x)(W:tA):(Instr.slice 24 (.slice a l.length cap) G (R (.int .i64 (l.length:Int))) (R (.int .i64 (l.length:Int)))).run E W=.ok (.slice a l.length l.length) W:=by
 rw[run_slice_any _ _ _ _ _ (by kernel_rfl)];simp only[Instr.sliceBounds,Sem.run_bind,Sem.run_pure,Result.andThen];have hb:∀(y:Nat)(code:BoundsCode),l.length<=y->(Instr.sliceBound (.int .i64 (l.length:Int)) y code).run E W=.ok l.length W:=fun y code hy=>by rw[run_sliceBound _ _ _ _ _ (by omega) (by omega)];simp
 have hs:(sizeOf (E.elem 24)).run E W=.ok 4 W:=by kernel_rfl
 cases a with|none=>simp[hb,hs,tW,hc]|some x=>simp[hb,hs,tW,hc,ha x rfl]
theorem wpList_append_cut{w:tA}{ops:Array Oper}{rest:List Oper}{o:Oper}{a:Act}{Q:Exit->Act->tA->Prop}(hgd:o.guard=G)(s x:Operand)(ho:o.op=.call {callee:=.builtin .append,args:=#[s,x],argTypes:=#[24,24]})(rb:Nat)(ad:Option Addr)(cap:Nat)(l:List Ac)(hs:a.eval s=.slice ad l.length l.length)(hown:UI rb w (.slice ad l.length cap) l)(r2:Nat)(u:tI)(m:List Ac)(hx:a.eval x=u)(hsrc:Jp r2 w u m)(hm:0<m.length)(hl:l.length+m.length<=1000)(h:∀v' w',UI w.heap.size w' v' (l++m)->M w w' G->wpList E ops Q rest (a.put o.dst v') w'):wpList E ops Q (o::rest) a w:=by
 by_cases h0:l=[];·subst h0;have e:=hown.2 rfl;simp only[Y]at e;obtain⟨rfl,_,_⟩:=e;exact UF hgd s x ho w.heap.size (.slice G 0 0) [] hs (Ce _ _) r2 u m hx hsrc (by simpa using hl) (Nat.le_refl _) fun v' w' ha=>h v' w' ha.own ha.grown
 ·obtain⟨us,hul,hr,hp⟩:=hown.1;obtain⟨ms,hml,hmr,hmp⟩:=hsrc;rcases hr.2with⟨e,e0⟩|⟨g,cap',cur,e,hb,hg,hn,hmx,hcs,ht⟩;(·exact absurd (List.eq_nil_of_length_eq_zero e0) h0);·simp only[Y]at e;obtain⟨rfl,_,rfl⟩:=e;rcases hmr.2with⟨_,e0⟩|⟨g2,cap2,cur2,rfl,hb2,hg2,hn2,hmx2,hcs2,ht2⟩;(·omega);·obtain⟨i0,hi,hz0,hz1,hz2⟩:=info_parts M7;refine wpList_append_arg w hgd s x 24 ho 39 i0 (.agg #[.int .i64 0,.int .i64 0,.int .i64 0,.slice G 0 0]) 4 48 Tryz.underlying24 hi hz0 hz1 hz2 rfl (by decide) g 0 l.length l.length (Y6 us) hs hr.1 (row_cells hg hr.1 ht) ⟨g2,0,G⟩ m.length cap2 (Y6 ms) hx hmr.1 (fun j y hj=>by rw[ZW];exact row_cells hg2 hmr.1 ht2 j y hj) (fun y hy=>?_) (fun e=>by omega) (by unfold maxLen;omega) (by omega) (fun e=>by omega) (fun _ v' w' q1 q2=>h v' w' ⟨⟨us++ms,by simp[hul,hml],by rw[vN,tD];exact q1,fun y hy=>?_⟩,fun e=>by simp[h0]at e⟩ q2);(·obtain⟨p,hp1,hp2⟩:=List.mem_flatMap.1 hy;have:=hmp p hp1;simp only[EA,tC,or_false]at hp2;rcases hp2 with rfl|rfl|rfl|rfl;(·rfl);(·rfl);(·rfl);·exact Zz this);·rcases tG.1 hy with hy|hy;(·exact(hp y hy).keptT q2 (.inl rfl));·exact(hmp y hy).keptT q2 (.inl rfl)
section
variable{D:List UInt8->List UInt8}
theorem queueA_step(m:Nat)(hm:m<8):queueA (m+1)=queueA m++[Us m (F7 1),Us m ⟨4,[97],[K (m+1)],[],[]⟩,Us m (F7 6)]:=by
 simp[queueA,tQ,Nat.mod_eq_of_lt hm]
theorem queueA_step'(m:Nat):queueA (m+1)=queueA m++[Us (m%8) (F7 1),Us (m%8) ⟨4,[97],[K (m+1)],[],[]⟩,Us (m%8) (F7 6)]:=by
 simp[queueA,tQ]
theorem queueA_len(m:Nat):(queueA m).length=3*m:=by
 induction m with|zero=>rfl|succ m ih=>rw[queueA_step',tD,ih];simp;omega
theorem queueA_ok(m:Nat):∀a∈queueA m,XH a∧a.kind≠3:=by
 induction m with|zero=>intro a ha;simp[queueA]at ha|succ m ih=>intro a ha;rw[queueA_step']at ha;(have h8:m%8<=7:=by omega);rcases tG.1 ha with h|h;(·exact ih a h);·simp only[EA,tC,or_false]at h;rcases h with rfl|rfl|rfl;(·exact⟨mT h8 (dF (.inl rfl)),by simp[Us]⟩);(·exact⟨mT h8 (rq_two (.inr (.inl rfl)) _ _),by simp[Us]⟩);·exact⟨mT h8 (dF (.inr (.inl rfl))),by simp[Us]⟩
theorem queueB_ok(m:Nat):∀a∈queueA m++[Pn],XH a∧a.kind≠3:=fun a ha=>by
 rcases tG.1 ha with h|h;·exact queueA_ok m a h
 ·simp only[EA,tC,or_false]at h;subst h;exact⟨lK,by simp[Pn]⟩
theorem queue_run(hD:∀x,(D x).length=4){k:Nat}(hk:k<10){A B:Oc}(hA:A=GI (Xm D (queueA k)))(hB:B=GI (Xm D (queueA k++[Pn]))):A.pending=((min k 6:Nat):Int)∧A.turn=0∧B.turn=((min k 6:Nat):Int)∧B.pending=0∧A.forest.length=0∧A.replies.length=2*min k 6+3*(k-min k 6):=by
 rw[runW_out hD _ (queueA_ok k)]at hA;rw[runW_out hD _ (queueB_ok k)]at hB;have h:=queue_all ⟨k,hk⟩;rw[<-hA,<-hB]at h;exact of_decide_eq_true h
end
theorem UI.addr{rb:Nat}{w:tA}{a:Option Addr}{n cap:Nat}{l:List Ac}(h:UI rb w (.slice a n cap) l):l.length<=cap∧∀x,a=R x->x.add 0=x:=by
 obtain⟨us,hul,hr,hp⟩:=h.1;rcases hr.2with⟨e,e0⟩|⟨g,cap',cur,e,hb,hg,hn,_⟩;·simp only[Y]at e;obtain⟨rfl,_,rfl⟩:=e;exact⟨by omega,fun x hx=>by cases hx⟩
 ·simp only[Y]at e;obtain⟨rfl,_,rfl⟩:=e;exact⟨hn,fun x hx=>by cases hx;rw[ZW]⟩
theorem topQueue_walk(w:tA)(hP:UJ w)(hT:YK w)(n:Int)(hn0:-9223372036854775808<=n)(hn1:n<=9223372036854775807):X E 12 #[.int .i64 n] w fun e w'=>e=.returned (.bool N)∧M w w' G:=by
 obtain⟨k,hk⟩:∃k,k=YM n 10:=⟨_,rfl⟩;have hk10:k<10:=by rw[hk];exact Uz n (by decide)
 have PK:T (∀w',X E 18 #[.int .i64 n,.int .i64 10] w' fun e w''=>e=.returned (.int .i64 (k:Int))∧w''=w'):=fun w'=>by rw[hk];exact Ja n 10 w' hn0 hn1 (by decide) (by decide)
 obtain⟨OA,hOA⟩:∃O,O=GI (Xm Qo (queueA k)):=⟨_,rfl⟩;obtain⟨OB,hOB⟩:∃O,O=GI (Xm Qo (queueA k++[Pn])):=⟨_,rfl⟩;have HF:T (OA.pending=((min k 6:Nat):Int)∧OA.turn=0∧OB.turn=((min k 6:Nat):Int)∧OB.pending=0∧OA.forest.length=0∧OA.replies.length=2*min k 6+3*(k-min k 6)):=queue_run U2 hk10 hOA hOB;have hLA:(queueA k).length<=30:=by rw[queueA_len];omega
 obtain⟨LA,hLAe⟩:∃L,L=queueA k:=⟨_,rfl⟩;obtain⟨LB,hLBe⟩:∃L,L=LA++[Pn]:=⟨_,rfl⟩;have RA:T (∀w' v,M w w' G->Yg w' v LA->X E 16 #[v] w' (cR w' OA)):=fun w' v h hv=>Lk w' v LA OA (by rw[hOA,hLAe]) hv (fun a ha=>(queueA_ok k a (by rw[<-hLAe];exact ha)).1) (by rw[hLAe];omega) (hP.grown h) (hT.grownNone h);have RB:T (∀w' v,M w w' G->Yg w' v LB->X E 16 #[v] w' (cR w' OB)):=fun w' v h hv=>Lk w' v LB OB (by rw[hOB,hLBe,hLAe]) hv (fun a ha=>(queueB_ok k a (by rw[<-hLAe,<-hLBe];exact ha)).1) (by rw[hLBe,hLAe];simp;omega) (hP.grown h) (hT.grownNone h);obtain⟨d1,hd1⟩:∃d,d=Ki (F7 1):=⟨_,rfl⟩;obtain⟨d6,hd6⟩:∃d,d=Ki (F7 6):=⟨_,rfl⟩;have AP:T (∀W(m s:Nat),m<10->M w W G->X E 20 #[.int .i64 (s:Int),.agg #[.int .i64 4,.slice (R ⟨W.heap.size,0,G⟩) 1 1,.slice (R ⟨W.heap.size+1,0,G⟩) 1 1,.slice G 0 0,.slice G 0 0]] ((W.alloc (.cells #[.int .u8 97] 5)).alloc (.cells #[.int .u8 ((m:Int)+1)] 5)) (nF (s:Int) W (Ki ⟨4,[97],[K (m+1)],[],[]⟩))):=fun W m s hm hW=>ask_lit2 hP hW (s:Int) 4 (a:=97) (b:=m+1) rfl (by omega) (by decide) (by omega) rfl (rq_two (.inr (.inl rfl)) _ _);have HST:T (∀m,queueA m++[⟨1,((m%8:Nat):Int),0,d1⟩,⟨1,((m%8:Nat):Int),0,Ki ⟨4,[97],[K (m+1)],[],[]⟩⟩,⟨1,((m%8:Nat):Int),0,d6⟩]=queueA (m+1)):=fun m=>by rw[queueA_step',hd1,hd6];rfl
 have AK1:T (∀W(s:Nat),M w W G->X E 20 #[.int .i64 (s:Int),.agg #[.int .i64 1,.slice G 0 0,.slice G 0 0,.slice G 0 0,.slice G 0 0]] W (nF (s:Int) W d1)):=fun W s hW=>by rw[hd1];exact ask_K hP hW (s:Int) 1 (.inl rfl)
 have AK6:T (∀W(s:Nat),M w W G->X E 20 #[.int .i64 (s:Int),.agg #[.int .i64 6,.slice G 0 0,.slice G 0 0,.slice G 0 0,.slice G 0 0]] W (nF (s:Int) W d6)):=fun W s hW=>by rw[hd6];exact ask_K hP hW (s:Int) 6 (.inr (.inl rfl))
 have HLA:T (LA=queueA k):=hLAe;have HLB:T (LA++[Pn]=LB):=hLBe.symm;clear hP hT hd1 hd6 hOA hOB hk hLAe hLBe hLA;go_enter tE,Tryz.ntmps12;go_wp2_with(go_at_call 18;refine(PK.out _).mono ?_;rintro e w0⟨rfl,h0⟩;rw[h0];clear h0);go_loopw[4,5](fun lv iv wr=>∃m:Nat,m<=k∧iv=.int .i64 (m:Int)∧UI w.heap.size wr lv (queueA m)∧M w wr G)(fun _ iv _=>k-(intOf iv).toNat);case atStart=>exact⟨0,by omega,rfl,Ce _ _,Qb _ _⟩
 case round=>obtain⟨m,hm,rfl,hown,hg⟩:=hrel;obtain⟨oa,oc,rfl⟩:=hown.shape;obtain⟨L,hL⟩:∃L,L=queueA m:=⟨_,rfl⟩;(have hLl:L.length<=30:=by rw[hL,queueA_len];omega);have HL:T (L=queueA m):=hL;rw[<-hL]at hown⊢;have HON:T (UI w.heap.size wr (.slice oa L.length oc) L):=hown;have HG:T (M w wr G):=hg;clear hown hL;by_cases hc:m<k;(·(have i1:(m:Int)<(k:Int):=by omega);(have u1:Z9.wrap ((m:Int)+1)=(m:Int)+1:=by rw[S];omega);(have u2:tY.wrap ((m:Int)+1)=(m:Int)+1:=by rw[tZ];omega);obtain⟨s,hs⟩:∃s,s=m%8:=⟨_,rfl⟩;(have u3:(m:Int).tmod 8=(s:Int):=by rw[Int.tmod_eq_emod_of_nonneg (by omega)];omega);(have u4:Z9.wrap (s:Int)=(s:Int):=by rw[S];omega);(have HS1:T (L++[⟨1,(s:Int),0,d1⟩,⟨1,(s:Int),0,Ki ⟨4,[97],[K (m+1)],[],[]⟩⟩,⟨1,(s:Int),0,d6⟩]=queueA (m+1)):=by have h:=HST.out m;rw[<-HL.out,<-hs]at h;exact h);have AP1:T (∀W,M w W G->X E 20 #[.int .i64 (s:Int),.agg #[.int .i64 4,.slice (R ⟨W.heap.size,0,G⟩) 1 1,.slice (R ⟨W.heap.size+1,0,G⟩) 1 1,.slice G 0 0,.slice G 0 0]] ((W.alloc (.cells #[.int .u8 97] 5)).alloc (.cells #[.int .u8 ((m:Int)+1)] 5)) (nF (s:Int) W (Ki ⟨4,[97],[K (m+1)],[],[]⟩))):=fun W hW=>AP.out W m s (by omega) hW;obtain⟨dm,hdm⟩:∃d,d=Ki ⟨4,[97],[K (m+1)],[],[]⟩:=⟨_,rfl⟩;rw[<-hdm]at AP1 HS1;have A1:T (X E 20 #[.int .i64 (s:Int),.agg #[.int .i64 1,.slice G 0 0,.slice G 0 0,.slice G 0 0,.slice G 0 0]] wr (nF (s:Int) wr d1)):=AK1.out wr s hg;clear hdm hg hs;go_upto_region 5with(first|(go_at_call 20;refine A1.out.mono ?_;clear A1;rintro e w1⟨xa,xc,rfl,hp1,hg1⟩;(have HG1:T (M w w1 G):=Qa HG.out hg1);(have HP1:T (Qi 0 w1 (.slice xa d1.length xc) d1):=hp1);(have A2:T (X E 20 #[.int .i64 (s:Int),.agg #[.int .i64 4,.slice (R ⟨w1.heap.size,0,G⟩) 1 1,.slice (R ⟨w1.heap.size+1,0,G⟩) 1 1,.slice G 0 0,.slice G 0 0]] ((w1.alloc (.cells #[.int .u8 97] 5)).alloc (.cells #[.int .u8 ((m:Int)+1)] 5)) (nF (s:Int) w1 dm)):=AP1.out w1 HG1.out);clear hp1 AP1)|(go_at_call 20;refine A2.out.mono ?_;clear A2;rintro e w2⟨ya,yc,rfl,hp2,hg2⟩;(have HG2:T (M w w2 G):=Qa HG1.out hg2);(have HP2:T (Qi 0 w2 (.slice ya dm.length yc) dm):=hp2);(have A3:T (X E 20 #[.int .i64 (s:Int),.agg #[.int .i64 6,.slice G 0 0,.slice G 0 0,.slice G 0 0,.slice G 0 0]] w2 (nF (s:Int) w2 d6)):=AK6.out w2 s HG2.out);clear hp2)|(go_at_call 20;refine A3.out.mono ?_;clear A3;rintro e w3⟨za,zc,rfl,hp3,hg3⟩;(have HG3:T (M w w3 G):=Qa HG2.out hg3);(have HN3:T (UI w.heap.size w3 (.slice oa L.length oc) L):=HON.out.grown (Qa hg1 (Qa hg2 hg3)));(have hs3:=HG3.out.size);(have OL3:=mI 0 w3 (Nat.zero_le _) [(⟨1,(s:Int),0,d1⟩,.slice xa d1.length xc),(⟨1,(s:Int),0,dm⟩,.slice ya dm.length yc),(⟨1,(s:Int),0,d6⟩,.slice za d6.length zc)] (by simp) (by simp) (fun y hy=>by(simp only[EA,tC,or_false]at hy;rcases hy with rfl|rfl|rfl;exact HP1.out.keptT (Qa hg2 hg3) (.inl rfl);exact HP2.out.keptT hg3 (.inl rfl);exact hp3)) #[.int .i64 1,.int .i64 (s:Int),.int .i64 0,.slice xa d1.length xc,.int .i64 1,.int .i64 (s:Int),.int .i64 0,.slice ya dm.length yc,.int .i64 1,.int .i64 (s:Int),.int .i64 0,.slice za d6.length zc] rfl);(have HOL3:T (_):=OL3);clear hp3 OL3)|(at_builtin;refine UF rfl _ _ rfl w.heap.size (.slice oa L.length oc) L rfl (HN3.out.grown (J _ _ G)) 0 (.slice (R ⟨w3.heap.size,0,G⟩) 3 3) [⟨1,(s:Int),0,d1⟩,⟨1,(s:Int),0,dm⟩,⟨1,(s:Int),0,d6⟩] rfl HOL3.out.1 (by simp;omega) (by simp;omega) ?_;intro v4 w4 ha4;rw[HS1.out]at ha4));have hgA:=J w3 (.cells #[.int .i64 1,.int .i64 (s:Int),.int .i64 0,.slice xa d1.length xc,.int .i64 1,.int .i64 (s:Int),.int .i64 0,.slice ya dm.length yc,.int .i64 1,.int .i64 (s:Int),.int .i64 0,.slice za d6.length zc] 39) G;have HFI:T (UI w.heap.size w4 v4 (queueA (m+1))∧M w w4 G):=⟨ha4.own,TI (Qa HG3.out hgA) (HN3.out.grown hgA) (Nat.le_refl _) ha4.grown⟩;clear ha4 hgA hg1 hg2 hg3 HG1 HG2 HG3 HN3 HP1 HP2 HOL3 hs3;go_wp2_with fail;go_roundw;(case rel=>exact⟨m+1,by omega,by go_num,HFI.out⟩);case measure=>simp[intOf];omega);·(obtain rfl:m=k:=by omega);(have i1:¬((m:Int)<(m:Int)):=by omega);(have HLL:T (L=LA):=by show L=LA;rw[HL.out,HLA.out]);(have HLB1:T (L++[Pn]=LB):=by show L++[Pn]=LB;rw[HLL.out];exact HLB.out);have RA1:T (X E 16 #[.slice oa L.length oc] wr (cR wr OA)):=RA.out wr _ hg (by rw[<-HLL.out];exact HON.out.list);obtain⟨ac1,ac2⟩:=HON.out.addr;have hcut:∀W,(Instr.slice 24 (.slice oa L.length oc) G (R (.int .i64 (L.length:Int))) (R (.int .i64 (L.length:Int)))).run E W=.ok (.slice oa L.length L.length) W:=acut_run oa oc L ac1 ac2;clear hc hg RA ac1 ac2;go_upto_region 8with(go_at_call 16;refine RA1.out.mono ?_;clear RA1;rintro e w4⟨fa,fc,ra,rc,rfl,hx4,hg4⟩);obtain⟨W5,AB,HW5,HAB,hg5,HB5⟩:=bT w4 OA fa fc ra rc;rw[<-HW5.out,<-HAB.out];have hg45:=Qa hg4 hg5;have HG5:T (M w W5 G):=Qa HG.out hg45;have HN5:T (UI w.heap.size W5 (.slice oa L.length oc) L):=HON.out.grown hg45;obtain⟨q,hq⟩:∃q,q=min m 6:=⟨_,rfl⟩;(have hmin:min (m:Int) 6=(q:Int):=by omega);have HQ:T (q=min m 6):=hq;clear hq hx4 hg4 hg5 hg45 HW5 HAB HON HG;go_upto_region 10with(first|(at_builtin;refine wpList_append_cut rfl _ _ rfl w.heap.size oa oc L rfl (HN5.out.grown (J _ _ G)) 0 (.slice (R ⟨W5.heap.size,0,G⟩) 1 1) [Pn] rfl (mE W5) (by simp) (by simp;omega) ?_;intro v6 w6 ho6 hg6;rw[HLB1.out]at ho6;obtain⟨pa,pc,rfl⟩:=ho6.shape;(have hg56:=Qa (J W5 (.cells #[.int .i64 2,.int .i64 0,.int .i64 0,.slice G 0 0] 39) G) hg6);(have RB6:T (X E 16 #[.slice pa LB.length pc] w6 (cR w6 OB)):=RB.out w6 _ (Qa HG5.out hg56) ho6.list);clear ho6 hg6)|(go_at_call 16;refine RB6.out.mono ?_;clear RB6;rintro e w7⟨ga,gc,qa,qc,rfl,hx7,hg7⟩));obtain⟨W8,BB,HW8,HBB,hg8,HB8⟩:=bT w7 OB ga gc qa qc;rw[<-HW8.out,<-HBB.out];have hg58:=Qa hg56 (Qa hg7 hg8);have HG8:T (M w W8 G):=Qa HG5.out hg58;have HA8:T (_):=Qd hg58 HB5.out;obtain⟨⟨a0,a1,a2,a3,a4⟩,_⟩:=Qp (Qb W8 G) HA8.out;obtain⟨⟨b0,b1,b2,b3,b4⟩,_⟩:=Qp (Qb W8 G) HB8.out;obtain⟨f1,f2,f3,f4,f5,f6⟩:=HF.out;have hq:=HQ.out;rw[<-hq]at f1 f3 f6;have e1:(OA.pending==(q:Int))=N:=beq_iff_eq.2 f1;have e2:(OA.turn==0)=N:=beq_iff_eq.2 f2;have e3:(OB.turn==(q:Int))=N:=beq_iff_eq.2 f3;have e4:(OB.pending==0)=N:=beq_iff_eq.2 f4;have e5:((OA.forest.length:Int)==0)=N:=beq_iff_eq.2 (by omega);(have u1:Z9.wrap (2*(q:Int))=2*(q:Int):=by rw[S];omega);(have u2:Z9.wrap ((m:Int)-(q:Int))=(m:Int)-(q:Int):=by rw[S];omega);(have u3:Z9.wrap (3*((m:Int)-(q:Int)))=3*((m:Int)-(q:Int)):=by rw[S];omega);(have u4:Z9.wrap (2*(q:Int)+3*((m:Int)-(q:Int)))=2*(q:Int)+3*((m:Int)-(q:Int)):=by rw[S];omega);have e6:((OA.replies.length:Int)==2*(q:Int)+3*((m:Int)-(q:Int)))=N:=beq_iff_eq.2 (by omega);clear f1 f2 f3 f4 f5 f6 hq hmin hx7 hg7 hg8 hg56 hg58 HW8 HBB HN5 HF hcut;go_wp2_with fail;go_ret;exact⟨rfl,HG8.out⟩
section
open Go.ChangeShapes Go.WideShapes Go.ChangeAt Go.RowKit
namespace topQueue
theorem contract(H:Type)(enc:tU×tI->H)(W:tA)(base:Nat)(args:Array tI)(ds gs:List (DataW H))(before:List MemPlace)(hval:∀(j:Nat)t v,V.params[j]?=R t->args[j]?=R v->Value.okWide E W .any base t v)(hW:DataW.Whole enc E V.params.toList Rows.topQueueSpec.vars I W args.toList ds gs before)(_hL:laidMetH E Rows.topQueueRow.laid W)(hsz0:(DataW.weightsEach E (V.params.toList++(SC Rows.topQueueSpec).bare.plain.varTypes E) (ds++gs)).all (·<=reachBytes)=N):X E 12 args W fun e W'=>∃v,e=.returned v∧Rows.topQueueSpec.post enc E V I N I I W args v W':=by
 have hW':=hW;obtain⟨p,q,hA0,hV,rfl,hfz,hnd⟩:=hW;have hA:DataW.TrodAll enc E W 0 (fun _=>N) N V.params.toList args.toList ds p:=hA0;have hsz:=hsz0;rw[tR]at hA hval hsz;obtain⟨v0,vs0,d0,ds0,p0,q0,hargs,rfl,rfl,h0,r0⟩:=trodAll_cons hA;obtain⟨rfl,rfl,rfl⟩:=trodAll_nil r0;obtain rfl:args=#[v0]:=by cases args;simp_all
 obtain⟨rfl,rfl⟩:=trodVars_none hV;obtain⟨a0,rfl,rfl,rfl,w0⟩:=open_int tN (hval 0 3 v0 rfl rfl) h0;clear hA0;refine(topQueue_walk W (LX _hL).1 (LX _hL).2 a0 (JB w0).1 (JB w0).2).mono fun e W'⟨he,hg⟩=>?_;subst he;have bel:=aT hg;exact⟨_,rfl,_,_,_,[],_,[],hW',trodAll_mk1 (shut_bool Tryz.underlying4 _),(trodAll_cons_mk (shut_int tN w0) trodAll_mk0),rfl,bel.frame _,fun h=>by cases h⟩
theorem aK(os:Os):laidMet E Rows.topQueueRow.laid ((Pp (tH E os ⟨#[],#[],[]⟩)).forCall (fun _ _=>0) ⟨#[],#[.int .i64 0],[]⟩).memory:=laidMet_of_run' 30 (by
 kernel_rfl) (by
 kernel_rfl)
theorem reads(os:Os){H:Type}(enc:tU×tI->H):∃places,DataW.whole enc E ((Pp (tH E os ⟨#[],#[],[]⟩)).forCall (fun _ _=>0) ⟨#[],#[.int .i64 0],[]⟩).memory V.params.toList Rows.topQueueSpec.vars I (#[Value.int .i64 0]:Array tI).toList 8=R ([.lit (.int .i64 0)],[],places):=⟨[],by
 kernel_rfl⟩
theorem iK(os:Os)(started:os.Started)(H:Type)(enc:tU×tI->H)(F:Stop.Interp):ReturnsInHanded {} tJ os 12 .any ((SC Rows.topQueueSpec).preRow enc E V Rows.topQueueRow.domain I Rows.topQueueRow.laid) (((SC Rows.topQueueSpec).at F).post enc E V I N I I):=by
 obtain⟨places,hx⟩:=reads os enc;refine returnsInHanded_of_row (C:=tJ) (s:=SC Rows.topQueueSpec) own started (by kernel_rfl) tE (witness_row_at (enc:=enc) (C:=tJ) I (Pp (tH E os ⟨#[],#[],[]⟩)) #[.int .i64 0] rfl (by kernel_rfl) (by kernel_rfl) (by kernel_rfl) (tX 8 hx (by kernel_rfl) (fun k hk=>by cases hk) (by kernel_rfl) (aK os))) ?_;intro W base args ds gs before hval hW _ _ hsz hL _ _;exact contract H enc W base args ds gs before hval hW hL hsz
theorem said:Rows.TopQueueSaid:=OpenClaim.holds_of_cond 12 V rfl rfl rfl rfl rfl rfl rfl ⟨rfl,rfl,rfl,rfl,rfl⟩ rfl rfl rfl rfl rfl (by
 kernel_rfl) tE (by
 kernel_rfl) (of_decide_eq_true (by
 kernel_rfl)) (by
 unfold Func.isWrapper;first|(rw[if_pos (by decide+kernel)];kernel_rfl)|(rw[if_neg (by decide+kernel)];exact⟨rfl,rfl⟩)) (fun os started H enc _ F=>by
 rw[OpenClaim.pre_eq_preRow];exact iK os started H enc F)
theorem plain(f:FuncId)(fn:Func)(hf:Tryz.pinned.checked.prog.funcNamed "canopy/canopytop.TopQueue"=R f)(hfn:Tryz.pinned.checked.prog.funcs[f]?=R fn):I=Tryz.pinned.checked.prog.looks []∧∀(j:Nat)t,fn.params[j]?=R t->Tryz.pinned.checked.prog.wantsStandIn t=I:=by
 obtain rfl:f=12:=Option.some.inj ((show E.funcNamed "canopy/canopytop.TopQueue"=R 12by kernel_rfl).symm.trans hf)|>.symm;obtain rfl:fn=V:=(Option.some.inj (tE.symm.trans hfn)).symm;refine⟨by kernel_rfl,fun j t ht=>?_⟩;rw[tR]at ht;have hall:∀t∈[3],E.wantsStandIn t=I:=by intro t ht;rcases EA.1 ht with rfl|ht;(·exact(show E.wantsStandIn 3=I by kernel_rfl));cases ht
 exact hall t (by have:=Array.mem_of_getElem? ht;simpa using this)
end topQueue
theorem topQueue_card:Rows.TopQueueCardSaid:=Claim7.holds_tied_plain_at .later [] _ _ _ _ topQueue.said (fun _ h=>by
 cases h) (by
 kernel_rfl) (fun _ h=>by
 cases h) topQueue_row_tie rfl ⟨rfl,rfl⟩ (by
 kernel_rfl) rfl topQueue.plain (by
 kernel_rfl)
end
end Go.Proofs.YtgnknpcnpjnohaaGreatDoor
