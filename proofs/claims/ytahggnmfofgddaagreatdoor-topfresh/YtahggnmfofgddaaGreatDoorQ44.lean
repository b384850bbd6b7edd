/-
  Texts of this proof, joined, with few blanks: AcN, TAskQ, TLit, FreshF, SvFr.
-/
import Derived.Test.YtahggnmfofgddaaGreatDoorQ43
import Derived.Laws.Tables
set_option maxRecDepth 100000
set_option maxHeartbeats 8000000
open Go renaming Value->J,World->L,TypeId->V,Oper->Y,Operand->p,yielded->z
open Go.IntKind renaming i64->I
open Go.Proofs.Tryz renaming prog->M
open Go.Region renaming wanted->O,ready->T,Mode->m
open Go.Value renaming slice->C,int->H,bool->P,agg->X
open Nat renaming min_eq_left->N
open Option renaming none->F,some->G
namespace Go.Proofs.YtahggnmfofgddaaGreatDoor
open Go.RowKit
def iD(rb:Nat)(w:L)(v:J)(l:List Ac):Prop:=Iw rb w v l∧(l=[]->v=C F 0 0)
theorem iD.list{rb:Nat}{w:L}{v:J}{l:List Ac}(h:iD rb w v l):Jh w v l:=h.1.list
def iP(s:Int)(w:L)(d:List UInt8)(e:Ending)(w':L):Prop:=∃xa xc,e=.returned (X #[H I 1,H I s,H I 0,C xa d.length xc])∧Qh 0 w' (C xa d.length xc) d∧w.grownBy w' F
theorem dL(w:L)(s:Int)(v:J)(r:Rq)(hT:Vw w)(hv:X8 w v r)(hr:Y6 r):Calls M 7 #[H I s,v] w (iP s w (KH r)):=by
 refine(aL w s v r hT hv (uM hr)).mono ?_;rintro e w'⟨x,rfl,hx,hg⟩;rw[gH hr]at hx;obtain⟨xa,xc,rfl⟩:=hx.slice.shape;exact⟨xa,xc,rfl,hx,hg⟩
theorem aU(rb:Nat)(W:L)(hrb:rb<=W.heap.size)(l:List (Ac×J))(h0:l≠[])(hl:l.length<=1000)(hp:∀y∈l,Qh 0 W y.2 y.1.data)(cs:Array J)(hcs:cs.toList=GF l):iD rb (W.alloc (.cells cs 35)) (C (G ⟨W.heap.size,0,F⟩) l.length l.length) (l.map (fun y=>y.1)):=by
 obtain rfl:cs=⟨GF l⟩:=by rw[<-hcs]
 exact⟨aC (w:=W.alloc _) rb W.heap.size l (heap_alloc_new W _) hrb hl fun y hy=>(hp y hy).keptT (World.grownBy_alloc _ _ F) (.inl rfl),fun e=>absurd (List.map_eq_nil_iff.1 e) h0⟩
theorem Em.all{w:L}{a:Option Addr}{n cap:Nat}{l:List Rp}(h:Em w (C a n cap) l)(i:Nat)(hi:i<l.length):∃b o a4 c4 a5 c5 a6 c6 a8 c8 a9 c9 a10 c10 a12 c12 a13 c13 a14 c14,a=G ⟨b,o,F⟩∧w.cell? ⟨b,o+i*15,F⟩=G (H I (l.getD i xJ).sess)∧w.cell? ⟨b,o+i*15+1,F⟩=G (H I (l.getD i xJ).code)∧w.cell? ⟨b,o+i*15+2,F⟩=G (H I (l.getD i xJ).turn)∧w.cell? ⟨b,o+i*15+3,F⟩=G (P (l.getD i xJ).found)∧w.cell? ⟨b,o+i*15+4,F⟩=G (C a4 (l.getD i xJ).value.length c4)∧w.cell? ⟨b,o+i*15+5,F⟩=G (C a5 (l.getD i xJ).pairs.length c5)∧w.cell? ⟨b,o+i*15+6,F⟩=G (C a6 (J6 (l.getD i xJ)).length c6)∧w.cell? ⟨b,o+i*15+7,F⟩=G (P (Xy (l.getD i xJ)).empty)∧w.cell? ⟨b,o+i*15+8,F⟩=G (C a8 (Xy (l.getD i xJ)).steps.length c8)∧w.cell? ⟨b,o+i*15+9,F⟩=G (C a9 (Xy (l.getD i xJ)).pair.1.length c9)∧w.cell? ⟨b,o+i*15+10,F⟩=G (C a10 (Xy (l.getD i xJ)).pair.2.length c10)∧w.cell? ⟨b,o+i*15+11,F⟩=G (P (Xx (l.getD i xJ)).empty)∧w.cell? ⟨b,o+i*15+12,F⟩=G (C a12 (Xx (l.getD i xJ)).steps.length c12)∧w.cell? ⟨b,o+i*15+13,F⟩=G (C a13 (Xx (l.getD i xJ)).pair.1.length c13)∧w.cell? ⟨b,o+i*15+14,F⟩=G (C a14 (Xx (l.getD i xJ)).pair.2.length c14)∧Qe w (C a4 (l.getD i xJ).value.length c4) (l.getD i xJ).value∧Qq w (C a5 (l.getD i xJ).pairs.length c5) (l.getD i xJ).pairs∧Qe w (C a6 (J6 (l.getD i xJ)).length c6) (J6 (l.getD i xJ))∧Xw w (X #[P (Xy (l.getD i xJ)).empty,C a8 (Xy (l.getD i xJ)).steps.length c8,C a9 (Xy (l.getD i xJ)).pair.1.length c9,C a10 (Xy (l.getD i xJ)).pair.2.length c10]) (Xy (l.getD i xJ))∧Xw w (X #[P (Xx (l.getD i xJ)).empty,C a12 (Xx (l.getD i xJ)).steps.length c12,C a13 (Xx (l.getD i xJ)).pair.1.length c13,C a14 (Xx (l.getD i xJ)).pair.2.length c14]) (Xx (l.getD i xJ)):=by
 obtain⟨a',cap',e,_,h⟩:=h;simp only[Value.slice.injEq]at e;obtain⟨rfl,_,_⟩:=e;rcases h with rfl|⟨b,o,rfl,h⟩;·simp at hi
 ·obtain⟨cs,h1,h2,vv,vp,vr,oe,os,ok,ov,ie,is,ik,iv,e,h4,h5,h6,h7,h8⟩:=h i hi;simp only[Value.agg.injEq,Array.mk.injEq]at e;subst e;obtain⟨a4,c4,rfl⟩:=h4.shape;obtain⟨a5,c5,rfl⟩:=h5.shape;obtain⟨a6,c6,rfl⟩:=h6.shape;have h7':=h7;have h8':=h8;obtain⟨vs,vk,vw,e7,k1,k2,k3⟩:=h7;obtain⟨us,uk,uw,e8,m1,m2,m3⟩:=h8;simp only[Value.agg.injEq,Array.mk.injEq,List.cons.injEq,and_true]at e7 e8;obtain⟨rfl,rfl,rfl,rfl⟩:=e7;obtain⟨rfl,rfl,rfl,rfl⟩:=e8;obtain⟨a8,c8,rfl⟩:=k1.shape;obtain⟨a9,c9,rfl⟩:=k2.shape;obtain⟨a10,c10,rfl⟩:=k3.shape;obtain⟨a12,c12,rfl⟩:=m1.shape;obtain⟨a13,c13,rfl⟩:=m2.shape;obtain⟨a14,c14,rfl⟩:=m3.shape;exact⟨b,o,a4,c4,a5,c5,a6,c6,a8,c8,a9,c9,a10,c10,a12,c12,a13,c13,a14,c14,rfl,h2 0 (by decide),h2 1 (by decide),h2 2 (by decide),h2 3 (by decide),h2 4 (by decide),h2 5 (by decide),h2 6 (by decide),h2 7 (by decide),h2 8 (by decide),h2 9 (by decide),h2 10 (by decide),h2 11 (by decide),h2 12 (by decide),h2 13 (by decide),h2 14 (by decide),h4,h5,h6,h7',h8'⟩
theorem OO{k:Int}(hk:k=2∨k=4∨k=5∨k=8)(a b:UInt8):Y6 ⟨k,[a],[b],[],[]⟩:=by
 rcases hk with rfl|rfl|rfl|rfl<;>(refine⟨⟨?_,?_⟩,?_,?_,?_,?_,?_,?_,?_,?_⟩<;>simp[QY])
section
variable{D:List UInt8->List UInt8}
def l9(a b:UInt8):Rp:=⟨0,0,0,false,[],[],G ([],[a],[b])⟩
theorem iE(a b:UInt8){A:Oc}(hA:A=Bf (Gq D [Fs 0 ⟨8,[a],[b],[],[]⟩])):A.replies=[l9 a b]:=by
 have e:Gq D [Fs 0 ⟨8,[a],[b],[],[]⟩]=VA D A9 (Fs 0 ⟨8,[a],[b],[],[]⟩):=rfl;rw[hA,e,II A9 0 (OO (.inr (.inr (.inr rfl))) a b) rfl,if_neg (by decide)];rfl
theorem bL(a b:UInt8):J6 (l9 a b)=Zq (Zb [])∧Xy (l9 a b)=Z5 (Zb []) [a]∧Xx (l9 a b)=Z5 (YE [] [a]) [b]:=by
 obtain⟨_,h2,h3⟩:=Ib (l:=[]) ((Xb []).1 (by decide)) [a] [b] ⟨by simp,by simp⟩ ⟨by simp,by simp⟩;exact⟨by rfl,h2,h3⟩
end
theorem zJ{w w':L}{g:Nat}(h:w.grownBy w' (G g))(cs:Array J):w.grownBy (w'.setRow g cs) (G g):=⟨h.os,h.tape,h.output,by
 rw[size_setRow];exact h.size,fun i hi hn=>by
 rw[setRow_other _ _ _ _ (fun e=>hn (by rw[e]))];exact h.block i hi hn⟩
def Jm(up:Bool)(d:J)(ts:Int)(c f:J)(n:Int)(u:J):Array J:=#[P up,d,H I ts,c,f,H I n,C F 0 0,H I 0,H I 0,C F 0 0,C F 0 0,H I 0,H I 0,C F 0 0,C F 0 0,H I 0,H I 0,C F 0 0,C F 0 0,H I 0,H I 0,C F 0 0,C F 0 0,H I 0,H I 0,C F 0 0,C F 0 0,H I 0,H I 0,C F 0 0,C F 0 0,H I 0,H I 0,C F 0 0,C F 0 0,H I 0,H I 0,C F 0 0,C F 0 0,u]
theorem Y9.fresh{R B:Nat}{w:L}{up:Bool}{t:Gm}{cs:List XO}{o:List Rp}{d c f u:J}(hd:Zf 0 w (fun w=>Qe w d t.data))(hc:KD B w c cs)(hf:Kd B w f (Zu (Gp up t cs o)))(hu:Yy B w u o)(hr:∀g,u.ownBlock=G g->g<R):Y9 R B w (Gp up t cs o) (Jm up d t.synced c f (cs.length:Int) u):=by
 refine⟨rfl,rfl,⟨d,rfl,hd⟩,rfl,⟨c,rfl,hc⟩,⟨f,rfl,hf⟩,rfl,⟨C F 0 0,rfl,Pb _ _ _ _ _⟩,fun s hs=>?_,⟨u,rfl,hu,hr⟩⟩;refine⟨F6,C F 0 0,C F 0 0,?_,?_,?_,?_,fun w' _=>xU w',fun h=>by cases h⟩;all_goals(obtain rfl|rfl|rfl|rfl|rfl|rfl|rfl|rfl:s=0∨s=1∨s=2∨s=3∨s=4∨s=5∨s=6∨s=7:=by omega)
 all_goals rfl
theorem IA(v:Sv){j:Nat}(hj:j<=v.commits.length)(up:Bool)(t:Gm)(o:List Rp):(Zu v).take (j+1)=Zu (Gp up t (v.commits.take j) o):=by
 unfold Zu QH Gp;simp only[List.length_take,N hj];rw[<-List.map_take,List.take_range,N (by omega)];apply List.map_congr_left;intro n hn;rw[List.mem_range]at hn;rw[List.take_take,N (by omega)]
theorem eD{base B:Nat}{w:L}{v:J}{l:List XO}(h:Je base w v l)(hB:B<=base):KD B w v l:=by
 obtain⟨us,h1,h2,h3,h4⟩:=h;refine⟨us.map fun x=>([H I x.1.turn,x.2],x.1),?_,?_,h3,fun x hx=>?_⟩;·rw[<-h1];simp
 ·(have:(us.map fun x=>(([H I x.1.turn,x.2]:List J),x.1)).flatMap (·.1)=kI us:=by simp[kI,List.flatMap_map]);rw[this];refine⟨h2.1,?_⟩;rcases h2.2with h|⟨g,cap,cur,e,hb,rest⟩;(·exact .inl h);·exact .inr ⟨g,cap,cur,e,Nat.le_trans hB hb,rest⟩
 ·obtain⟨y,hy,rfl⟩:=List.mem_map.1 hx;have hw:=h4 y hy;obtain⟨a,cap,e,_⟩:=id hw;refine⟨rfl,fun u hu=>?_,fun q hq=>by simp at hq,(Ez hw).mono fun w' h=>⟨_,rfl,h⟩⟩;simp only[List.mem_cons,List.not_mem_nil,or_false]at hu;rcases hu with rfl|rfl;(·rfl);·rw[e];rfl
theorem Lc{D:List UInt8->List UInt8}{v:Sv}(h:Zp D v){k:Int}(hk:0<=k):yN (XC v.tape k):=by
 have hm:=h.may;obtain⟨m1,m2,m3⟩:=(KP _).1 hm;have hce:Uw v.tape k=0:=by rw[Uw,if_pos hm,if_neg (by omega)]
 have hcn:XE v.tape k<=v.tape.data.length:=by rw[XE];split<;>omega
 rw[XC,if_pos hce];refine⟨?_,?_⟩;·simp only[List.length_take];omega
 ·simp only;omega
theorem yJ{ops:Array Y}{o:Y}{a:Act}{w:L}{K:Act->L->Prop}{Q:Exit->Act->L->Prop}{E:Prop}(hgd:o.guard=F)(ty:V)(x y:p)(ho:o.op=.store ty x y)(g:Nat)(cells:Array J)(hx:a.eval x=.pointer (G ⟨g,0,F⟩))(hy:a.eval y=X cells)(t:V)(old:Array J)(hg:w.heap[g]?=G (.cells old t (0,0)))(hi:(M.info? ty).map (·.size)=G cells.size)(hold:old.size=cells.size)(h1:cells.all (·.oneCell')=true)(h:K (a.put o.dst undef) (w.setRow g cells)):if O o (z ops a.tmps)=true then Oper.wp M o a w K Q else E:=by
 have hw:O o (z ops a.tmps)=true:=by simp[O,hgd]
 rw[if_pos hw];exact wp_store_row ty x y ho g cells hx hy t old hg hi hold h1 h
theorem Gd{ops:Array Y}{Q:Exit->Act->L->Prop}{md:m}{S:L->Prop}{k n:Nat}{done:Array Bool}{a:Act}{w:L}{o:Y}(hr:T md ops done=[k])(ho:ops[k]?=G o)(hgd:o.guard=F){ty:V}{x y:p}(hop:o.op=.store ty x y)(g:Nat)(cells:Array J)(hx:a.eval x=.pointer (G ⟨g,0,F⟩))(hy:a.eval y=X cells)(t:V)(old:Array J)(hg:w.heap[g]?=G (.cells old t (0,0)))(hi:(M.info? ty).map (·.size)=G cells.size)(hold:old.size=cells.size)(h1:cells.all (·.oneCell')=true)(hd:T md ops (done.setIfInBounds k true)=[])(h:Q .normal (a.put o.dst undef) (w.setRow g cells)):ZH M md ops Q S k (n+1) done a w:=UO hr ho fun _ hK=>yJ hgd ty x y hop g cells hx hy t old hg hi hold h1 (hK _ _ (wpAny_done hd h _))
end Go.Proofs.YtahggnmfofgddaaGreatDoor
