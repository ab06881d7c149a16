/-
  Laws that the proof stands on.
-/
import Derived.Test.YtmmikiikddokgaaGreatDoorU4
import Derived.Maps.RangeWalk
import Derived.Maps.OwnSet
import Derived.Deep.RegionHeld
namespace Go.Proofs.YtmmikiikddokgaaGreatDoor
open Go.RowKit Go.Sort
set_option linter.unusedVariables false
set_option linter.unusedSimpArgs false
set_option maxRecDepth 4000
set_option maxHeartbeats 8000000
variable {D:DataW Value}{bs:List ByteArray}{xs kn:List Nat}{p N sz B j:Nat}{S:Nat->Bool}{f:Nat->Nat×Nat}{vs:Nat->Value}{w w':World}
def CX:Value->Option (DataW Value×List MemPlace)
 | .slice a n c=>some (.held (.slice a n c),[])
 |_=>none
theorem LH{v:Value}{y:DataW Value×List MemPlace}(h:CX v=some y):∃a n c,v=.slice a n c/\y=(.held v,[]):=by
 cases v<;>simp[CX]at h;exact⟨_,_,_,rfl,h.symm⟩
theorem II:Maps.Keyed Tryz.prog 3:=Maps.int_keyed Tryz.underlying3
theorem OO(w:World):(zeroValue 40).run Tryz.prog w=.ok (.slice none 0 0) w:=by kernel_rfl
theorem Zm(h:p<=9223372036854775807):(Lit.int .i64 (p:Int)).wf=true:=by
 exact WalkArith.wf_i64 (by omega)
theorem KV(h:p<=9223372036854775807):keyOf Tryz.prog 3 (.int .i64 (p:Int))=some (.int .i64 (p:Int)):=Maps.keyOf_int_mk Tryz.underlying3 (Zm h)
theorem Mw{q:Nat}(h:Lit.int .i64 (p:Int)=Lit.int .i64 (q:Int)):p=q:=by
 injection h with _ h;omega
theorem Q6(p:Nat):WideAt.IsKeyLit (.int .i64 (p:Int)):=trivial
theorem rF(p q:Nat):(Lit.int .i64 (p:Int)).sameKey (.int .i64 (q:Int))=decide (p=q):=by
 by_cases e:p=q
 ·subst e;rw[WideAt.sameKey_self (Q6 p)];simp
 ·rw[Maps.sameKey_ne (fun h=>e (Mw h)),decide_eq_false e]
def A6(D:DataW Value)(S:Nat->Bool)(vs:Nat->Value):Prop:=
 (∀b,Maps.has D b=true->∃p:Nat,S p=true/\b=.int .i64 (p:Int))/\∀p:Nat,S p=true->∀z,D.atKey (.int .i64 (p:Int)) z=.held (vs p)
theorem A6.has(h:A6 D S vs)(p:Nat):Maps.has D (.int .i64 (p:Int))=S p:=by
 cases b:S p
 ·cases d:Maps.has D (.int .i64 (p:Int))
  ·rfl
  ·obtain⟨q,g,e⟩:=h.1 _ d
   rw[Mw e,g]at b;cases b
 ·exact Maps.has_true_of_atKey (h.2 p b)
theorem A6.empty(vs:Nat->Value):A6 (.map []) (fun _=>false) vs:=⟨fun b h=>by simp[Maps.has]at h,fun p h=>by cases h⟩
theorem A6.put(h:A6 D S vs)(i:Maps.IsMap D){p:Nat}(v:Value):
  A6 (D.put (.int .i64 (p:Int)) (.held v)) (fun q=>decide (q=p)||S q) (fun q=>if q=p then v else vs q):=by
 refine⟨fun g d=>?_,fun q b z=>?_⟩
 ·by_cases e:g=.int .i64 (p:Int)
  ·exact⟨p,by simp,e⟩
  ·rw[Maps.has_put_other e]at d
   obtain⟨q,b,rfl⟩:=h.1 g d;exact⟨q,by simp[b],rfl⟩
 ·by_cases e:q=p
  ·subst e
   rw[Maps.atKey_put_same i (Q6 q)];simp
  ·rw[Maps.atKey_put_other (fun h=>e (Mw h))]
   simp only[e,if_false];exact h.2 q (by simpa [e]using b) z
theorem A6.del(h:A6 D S vs)(p:Nat):A6 (D.del (.int .i64 (p:Int))) (fun q=>S q&& !decide (q=p)) vs:=by
 refine⟨fun g d=>?_,fun q b z=>?_⟩
 ·by_cases e:g=.int .i64 (p:Int)
  ·rw[e,Maps.has_del_same]at d;cases d
  ·rw[Maps.has_del_other e]at d
   obtain⟨q,b,rfl⟩:=h.1 g d;have:q≠p:=fun h=>e (by rw[h]);exact⟨q,by simp[b,this],rfl⟩
 ·rw[Bool.and_eq_true]at b
  have:q≠p:=by simpa using b.2
  rw[Maps.atKey_del_other (fun h=>this (Mw h))];exact h.2 q b.1 z
theorem A6.congr{d:Nat->Bool}{b:Nat->Value}(h:A6 D S vs)(g:∀p,S p=d p)(l:∀p,S p=true->vs p=b p):A6 D d b:=by
 refine⟨fun m i=>?_,fun p hp z=>?_⟩
 ·obtain⟨p,hp,e⟩:=h.1 m i
  exact⟨p,by rw[<-g];exact hp,e⟩
 ·rw[<-g]at hp
  rw[<-l p hp];exact h.2 p hp z
section
variable {w:World} {ops:Array Oper} {rest:List Oper} {o:Oper} {act:Act} {Q:Exit->Act->World->Prop}
def Ej(sz:Nat)(f:Nat->Nat×Nat)(p:Nat):Value:=.slice (some ⟨(f p).1,0,none⟩) sz (f p).2
theorem bV(R:o.guard=none)(it:Operand)(u:o.op=Op.next it false)(bm r N sz:Nat)(D:DataW Value)(left:Lit->Bool)(cnt:Nat)(S:Nat->Bool)(f:Nat->Nat×Nat)(P:A6 D S (Ej sz f))
  (q:act.eval it=.pointer (some ⟨r,0,none⟩)) (h:w.ranges Tryz.prog 3 CX bm r N D left cnt)
  (g:(∀O,left O=false)->wpList Tryz.prog ops Q rest (act.put o.dst (.tuple #[.bool false])) w)
  (i:∀(p E A:Nat) (w':World) (b:Nat),f p=(E,A)->S p=true->left (.int .i64 (p:Int))=true->w'.ranges Tryz.prog 3 CX bm r N D (fun z=>left z&& !z.sameKey (.int .i64 (p:Int))) b->b<cnt->
   w.grownBy w' (some r)->(Instr.entry (.pointer (some ⟨r,0,none⟩))).run Tryz.prog w'=.ok (.tuple #[.int .i64 (p:Int),.slice (some ⟨E,0,none⟩) sz A]) w'->wpList Tryz.prog ops Q rest (act.put o.dst (.tuple #[.bool true,.int .i64 (p:Int),.slice (some ⟨E,0,none⟩) sz A])) w'):
  wpList Tryz.prog ops Q (o::rest) act w:=by
 refine wpList_plain R fun Z l=>?_;unfold Oper.wp;rcases h.next II o.type with⟨h0,T,d⟩|⟨Y,v,O,y,w',b,s,I,W,m,d,L,J,H,V,G⟩
 ·simp[execOp,u,q,d,Result.andThen]
  exact l _ _ (g T)
 ·obtain⟨p,hp,rfl⟩:=P.1 O (Maps.has_true_of_atKey m)
  obtain⟨x,rfl,C,X⟩:=Maps.keyOf_int_inv Tryz.underlying3 s;injection C with _ C;subst C;obtain⟨a,n,c,rfl,rfl⟩:=LH W;have e:=m (.held (.slice none 0 0));rw[P.2 p hp]at e;simp only[DataW.held.injEq,Ej,Value.slice.injEq]at e;obtain⟨rfl,rfl,rfl⟩:=e;simp[execOp,u,q,d,Result.andThen];exact l _ _ (i p (f p).1 (f p).2 w' b rfl hp I L J H G)
end
theorem XU{bm:Nat}(h:w.ownsMap Tryz.prog 3 CX bm N D)(g:A6 D S (Ej sz f))(hp:S p=true)(d:p<=9223372036854775807):
  (Instr.lookup 394 (.map (some bm)) (.int .i64 (p:Int)) false).run Tryz.prog w=.ok (.slice (some ⟨(f p).1,0,none⟩) sz (f p).2) w:=by
 obtain⟨v,ps,b,i⟩:=h.lookup II Tryz.underlying394 (OO w) (zd:=.held (.slice none 0 0)) (zp:=[]) rfl (KV d);obtain⟨a,n,c,rfl,e⟩:=LH i;rw[g.2 p hp]at e;simp only[Prod.mk.injEq,DataW.held.injEq,Ej,Value.slice.injEq]at e;obtain⟨⟨rfl,rfl,rfl⟩,_⟩:=e;exact b
theorem fG{bm:Nat}(h:w.ownsMap Tryz.prog 3 CX bm N D)(g:A6 D S (Ej sz f))(hp:S p=true)(d:p<=9223372036854775807):
  (Instr.lookup 394 (.map (some bm)) (.int .i64 (p:Int)) true).run Tryz.prog w=.ok (.tuple #[.slice (some ⟨(f p).1,0,none⟩) sz (f p).2,.bool true]) w:=by
 obtain⟨v,ps,b,i⟩:=h.look_ok II Tryz.underlying394 (OO w) (zd:=.held (.slice none 0 0)) (zp:=[]) rfl (KV d);obtain⟨a,n,c,rfl,e⟩:=LH i;rw[g.2 p hp]at e;simp only[Prod.mk.injEq,DataW.held.injEq,Ej,Value.slice.injEq]at e;obtain⟨⟨rfl,rfl,rfl⟩,_⟩:=e;rw[g.has p,hp]at b;exact b
theorem fo{bm:Nat}(h:w.ownsMap Tryz.prog 3 CX bm N D)(g:A6 D S (Ej sz f))(hp:S p=false)(d:p<=9223372036854775807):
  ∃a n c,(Instr.lookup 394 (.map (some bm)) (.int .i64 (p:Int)) true).run Tryz.prog w=.ok (.tuple #[.slice a n c,.bool false]) w:=by
 obtain⟨v,ps,b,i⟩:=h.look_ok II Tryz.underlying394 (OO w) (zd:=.held (.slice none 0 0)) (zp:=[]) rfl (KV d);obtain⟨a,n,c,rfl,e⟩:=LH i;rw[g.has p,hp]at b;exact⟨a,n,c,b⟩
structure Lf(w:World)(B sz:Nat)(S:Nat->Bool)(f:Nat->Nat×Nat)(cs:Nat->List Nat):Prop where
 own:∀p,S p=true->Own w B (.slice (some ⟨(f p).1,0,none⟩) sz (f p).2) (cs p)/\(cs p).length=sz
 two:∀p q,S p=true->S q=true->p≠q->(f p).1≠(f q).1
theorem Lf.below{cs:Nat->List Nat}(h:Lf w B sz S f cs)(b:Below w.heap.size w w'):Lf w' B sz S f cs:=⟨fun p hp=>⟨(h.own p hp).1.below b,(h.own p hp).2⟩,h.two⟩
theorem Lf.kept{cs:Nat->List Nat}{g:Nat}(h:Lf w B sz S f cs)(b:w.grownBy w' (some g))(d:∀p,S p=true->(f p).1≠g):Lf w' B sz S f cs:=
 ⟨fun p hp=>⟨(h.own p hp).1.kept b (.inr fun e=>d p hp (by simpa [Value.ownBlock]using e)),(h.own p hp).2⟩,h.two⟩
theorem Kx{g n c bm:Nat}(h:Own w B (.slice (some ⟨g,0,none⟩) n c) xs)(q:w.ownsMap Tryz.prog 3 CX bm N D):g≠bm:=by
 rcases h.2.2 with⟨e,_⟩|⟨g',cap,l,e,_,m,_⟩
 ·cases e
 ·simp only[Value.slice.injEq,Option.some.injEq,Addr.mk.injEq,and_true]at e
  obtain⟨s,b,i,_⟩:=q;intro d;rw[<-d,e.1,m]at i;cases i
theorem N4{g n c bm r cnt:Nat}{left:Lit->Bool}(h:Own w B (.slice (some ⟨g,0,none⟩) n c) xs)(s:w.ranges Tryz.prog 3 CX bm r N D left cnt):g≠r:=by
 rcases h.2.2 with⟨e,_⟩|⟨g',cap,m,e,_,q,_⟩
 ·cases e
 ·simp only[Value.slice.injEq,Option.some.injEq,Addr.mk.injEq,and_true]at e
  obtain⟨u,b,i,seen,c0,_,_,_,_,l,_⟩:=s;intro d;rw[<-d,e.1,q]at l;cases l
structure PV where
 g:Nat
 a:Option Addr
 n:Nat
 c:Nat
 kg:Nat
 kc:Nat
 bg:Nat
 bc:Nat
 bm:Nat
structure A1(w:World)(B:Nat)(v:PV)(kn:List Nat)(bs:List ByteArray):Prop where
 box:w.heap[v.g]? =some (.cells #[.slice v.a v.n v.c,.slice (some ⟨v.kg,0,none⟩) kn.length v.kc,.slice (some ⟨v.bg,0,none⟩) bs.length v.bc,.map (some v.bm)] 396 (0,0))
 known:Own w B (.slice (some ⟨v.kg,0,none⟩) kn.length v.kc) kn
 blocks:Ar w B (.slice (some ⟨v.bg,0,none⟩) bs.length v.bc) bs
theorem A1.cells{v:PV}(h:A1 w B v kn bs):
  w.cell? ⟨v.g,0,none⟩=some (.slice v.a v.n v.c)/\w.cell? ⟨v.g,1,none⟩=some (.slice (some ⟨v.kg,0,none⟩) kn.length v.kc)/\w.cell? ⟨v.g,2,none⟩=some (.slice (some ⟨v.bg,0,none⟩) bs.length v.bc)/\w.cell? ⟨v.g,3,none⟩=some (.map (some v.bm)):=by
 have:=h.box;refine⟨?_,?_,?_,?_⟩<;>simp[World.cell?,this]
theorem A1.lt{v:PV}(h:A1 w B v kn bs):v.g<w.heap.size:=(Array.getElem?_eq_some_iff.1 h.box).1
theorem A1.below{v:PV}(h:A1 w B v kn bs)(b:Below w.heap.size w w'):A1 w' B v kn bs:=⟨(b.block v.g h.lt).trans h.box,h.known.below b,h.blocks.below b⟩
theorem Ar.blk{g n c:Nat}{ss:List ByteArray}(h:Ar w B (.slice (some ⟨g,0,none⟩) n c) ss):∃b,w.heap[g]? =some (.cells b 9 (0,0)):=by
 rcases h.2 with⟨e,_⟩|⟨g',cap,b,e,_,d,_⟩
 ·cases e
 ·simp only[Value.slice.injEq,Option.some.injEq,Addr.mk.injEq,and_true]at e
  exact⟨b,by rw[e.1];exact d⟩
theorem Own.blk{g n c:Nat}(h:Own w B (.slice (some ⟨g,0,none⟩) n c) xs):∃b,w.heap[g]? =some (.cells b 265 (0,0)):=by
 rcases h.2.2 with⟨e,_⟩|⟨g',cap,b,e,_,d,_⟩
 ·cases e
 ·simp only[Value.slice.injEq,Option.some.injEq,Addr.mk.injEq,and_true]at e
  exact⟨b,by rw[e.1];exact d⟩
theorem A1.kept{v:PV}(h:A1 w B v kn bs)(b:w.grownBy w' (some j))(d:v.g≠j)(i:v.kg≠j)(l:v.bg≠j):A1 w' B v kn bs:=
 ⟨(b.block v.g h.lt (by simpa using d)).trans h.box,h.known.kept b (.inr fun e=>i (by simpa [Value.ownBlock]using e)),World.ownsRow.kept h.blocks b (.inr fun e=>l (by simpa [Value.ownBlock]using e))⟩
theorem A1.row{B' n c:Nat}{v:PV}(h:A1 w B v kn bs)(m:w.grownBy w' (some j))(q:Own w B' (.slice (some ⟨j,0,none⟩) n c) xs)(l:v.kg≠j):A1 w' B v kn bs:=by
 obtain⟨i,g⟩:=q.blk;obtain⟨d,b⟩:=h.blocks.blk;refine h.kept m (fun e=>?_) l (fun e=>?_)
 ·have:=h.box
  rw[e,g]at this;simp only[Option.some.injEq,Obj.cells.injEq]at this;exact absurd this.2.1 (by decide)
 ·rw[e,g]at b
  simp only[Option.some.injEq,Obj.cells.injEq]at b;exact absurd b.2.1 (by decide)
theorem A1.nocells{v:PV}(h:A1 w B v kn bs)(q:w.grownBy w' (some j))(g:∀b t m,w.heap[j]? ≠some (.cells b t m)):A1 w' B v kn bs:=by
 obtain⟨b,l⟩:=h.known.blk;obtain⟨i,d⟩:=h.blocks.blk;exact h.kept q (fun e=>g _ _ _ (by rw[<-e];exact h.box)) (fun e=>g _ _ _ (by rw[<-e];exact l)) (fun e=>g _ _ _ (by rw[<-e];exact d))
variable {D:DataW Value}{k:Int}{bs:List ByteArray}{kn:List Nat}{rs:List RV}{left:Lit->Bool}{B sz K n c r first p:Nat}{S:Nat->Bool}{cs:Nat->List Nat}{f:Nat->Nat×Nat}{a:Option Addr}{v:PV}{w wr w2 w3:World}
theorem Qc(w:World)(n:Nat)(b:n<=1048576):
  Own (w.alloc (.cells (madeCells #[.int .u64 0] n) 265)) w.heap.size (.slice (some ⟨w.heap.size,0,none⟩) n n) (List.replicate n 0):=by
 refine⟨NK n,by simp[cellsU],.inr ⟨w.heap.size,n,madeCells #[.int .u64 0] n,by simp,Nat.le_refl _,heap_alloc_new w _,by simp,by unfold maxLen;omega,by simp[size_madeCells],?_⟩⟩;rw[toList_madeCells_one,List.take_of_length_le (by simp)];simp[cellsU]
theorem Z2(n:Nat)(i:n<=1048576)(wx:World):(Instr.makeSlice 40 (.int .i64 (n:Int)) (.int .i64 (n:Int))).run Tryz.prog wx=.ok (.slice (some ⟨wx.heap.size,0,none⟩) n n) (wx.alloc (.cells (madeCells #[.int .u64 0] n) 265)):=by
 obtain⟨h,b,d,g,e⟩:=info_parts KQ;have:=run_make (P:=Tryz.prog) wx 40 265 h (.int .u64 0) Tryz.underlying40 b d .i64 .i64 (n:Int) (n:Int) (by omega) (Int.le_refl _) (by rw[e];omega) (by omega);rw[g]at this;simpa [Value.cells]using this
def PS(w:World)(B:Nat)(v:PV)(sz:Nat)(S:Nat->Bool)(f:Nat->Nat×Nat)(cs:Nat->List Nat)(kn:List Nat)(bs:List ByteArray):Prop:=
 A1 w B v kn bs/\(∃D,w.ownsMap Tryz.prog 3 CX v.bm v.n D/\A6 D S (Ej sz f))/\Lf w B sz S f cs/\(∀p,S p=true->p<v.n/\(f p).1≠v.kg)/\B<=v.bm
theorem PS.below{w':World}(h:PS w B v sz S f cs kn bs)(b:Below w.heap.size w w'):PS w' B v sz S f cs kn bs:=by
 obtain⟨d,⟨D,e,g⟩,i,l,m⟩:=h;exact⟨d.below b,⟨D,e.kept (CM b none) (by simp),g⟩,i.below b,l,m⟩
def CE(k:Int)(rs:List RV)(m p:Nat):Bool:=decide (p<m)&&AU k (rs.getD p .dflt).xs
def Ek(w wr:World)(k:Int)(rs:List RV)(m:Nat)(f:Nat->Nat×Nat)(D:DataW Value):Prop:=
 wr.ownsMap Tryz.prog 3 CX w.heap.size m D/\A6 D (CE k rs m) (Ej (sizeOfK k) f)/\Lf wr w.heap.size (sizeOfK k) (CE k rs m) f (fun p=>(rs.getD p .dflt).xs)/\Below w.heap.size w wr
theorem Ek.no{m:Nat}(h:Ek w wr k rs m f D)(b:Below wr.heap.size wr w2)(s:AU k (rs.getD m .dflt).xs=false):Ek w w2 k rs (m+1) f D:=by
 obtain⟨l,d,g,q⟩:=h
 have e:∀p,CE k rs m p=CE k rs (m+1) p:=fun p=>by
  unfold CE;by_cases hp:p=m
  ·subst hp;rw[s];simp
  ·have:(p<m+1)=(p<m):=propext (by omega)
   simp only[this]
 have i:CE k rs m=CE k rs (m+1):=funext e;rw[i]at d g;exact⟨(l.kept (CM b none) (by simp)).mono (Nat.le_succ _),d,g.below b,Ad q b⟩
theorem Ek.yes{m:Nat}{g2 c2:Nat}(h:Ek w wr k rs m f D)(s:Below wr.heap.size wr w2)(G:AU k (rs.getD m .dflt).xs=true)
  (C:Own w2 wr.heap.size (.slice (some ⟨g2,0,none⟩) (sizeOfK k) c2) (rs.getD m .dflt).xs) (O:w3.ownsMap Tryz.prog 3 CX w.heap.size (m+1) (D.put (.int .i64 (m:Int)) (.held (.slice (some ⟨g2,0,none⟩) (sizeOfK k) c2)))) (A:w2.grownBy w3 (some w.heap.size)):
  Ek w w3 k rs (m+1) (fun q=>if q=m then(g2,c2)else f q) (D.put (.int .i64 (m:Int)) (.held (.slice (some ⟨g2,0,none⟩) (sizeOfK k) c2))):=by
 obtain⟨y,H,l,z⟩:=h
 have e:∀p,(decide (p=m)||CE k rs m p)=CE k rs (m+1) p:=fun p=>by
  unfold CE;by_cases hp:p=m
  ·subst hp;rw[G];simp
  ·have:(p<m+1)=(p<m):=propext (by omega)
   simp only[this,hp,decide_false,Bool.false_or]
 have L:=y.lt;have i:∀p,CE k rs m p=true->(f p).1<wr.heap.size:=fun p hp=>((l.own p hp).1.lt (k:=(f p).1) rfl).2;have I:=C.lt (k:=g2) rfl;have u:w2.ownsMap Tryz.prog 3 CX w.heap.size m D:=y.kept (CM s none) (by simp);refine⟨O,(H.put y.isMap (p:=m) _).congr e (fun p hp=>?_),⟨fun p hp=>?_,fun p q hp E x=>?_⟩,?_⟩
 ·by_cases b:p=m
  ·subst b;simp[Ej]
  ·simp[Ej,b]
 ·rw[<-e]at hp
  by_cases b:p=m
  ·subst b
   simp only[if_true];refine⟨(C.mono (by have:=z.size;omega)).kept A (.inr fun e=>?_),(F7 G).2.1⟩;exact Kx C u (by simpa [Value.ownBlock]using e)
  ·have g:CE k rs m p=true:=by simpa [b]using hp
   simp only[b,if_false];refine⟨((l.own p g).1.below s).kept A (.inr fun e=>?_),(l.own p g).2⟩;exact Kx ((l.own p g).1.below s) u (by simpa [Value.ownBlock]using e)
 ·rw[<-e]at hp E
  by_cases b:p=m
  ·by_cases d:q=m
   ·exact absurd (b.trans d.symm) x
   ·have:=i q (by simpa [d]using E)
    simp only[b,d,if_true,if_false];omega
  ·have g:CE k rs m p=true:=by simpa [b]using hp
   have:=i p g;by_cases d:q=m
   ·simp only[b,d,if_true,if_false]
    omega
   ·simp only[b,d,if_false]
    exact l.two p q g (by simpa [d]using E) x
 ·exact(Ad z s).trans (CJ A (Nat.le_trans z.size s.size) fun j J=>by cases J;exact Nat.le_refl _)
theorem Ek.done{w1:World}{kg bg g:Nat}(h:Ek w wr k rs n f D)(l:Below wr.heap.size wr w1)(s:Below w1.heap.size w1 w3)
  (m:Own w3 wr.heap.size (.slice (some ⟨kg,0,none⟩) (sizeOfK k) (sizeOfK k)) (List.replicate (sizeOfK k) 0)) (d:Ar w3 wr.heap.size (.slice (some ⟨bg,0,none⟩) K K) (List.replicate K ByteArray.empty))
  (u:w3.heap[g]? =some (.cells #[.slice a n c,.slice (some ⟨kg,0,none⟩) (sizeOfK k) (sizeOfK k),.slice (some ⟨bg,0,none⟩) K K,.map (some w.heap.size)] 396 (0,0))):
  PS w3 w.heap.size ⟨g,a,n,c,kg,sizeOfK k,bg,K,w.heap.size⟩ (sizeOfK k) (CE k rs n) f (fun p=>(rs.getD p .dflt).xs) (List.replicate (sizeOfK k) 0) (List.replicate K ByteArray.empty)/\Below w.heap.size w w3:=by
 obtain⟨x,y,q,i⟩:=h;have b:=Ad l s;refine⟨⟨⟨by simpa using u,by simpa using m.mono i.size,by simpa using d.mono i.size⟩,⟨D,x.kept (CM b none) (by simp),y⟩,q.below b,fun p hp=>⟨?_,fun e=>?_⟩,Nat.le_refl _⟩,Ad i b⟩
 ·have:(decide (p<n)&&AU k (rs.getD p .dflt).xs)=true:=hp
  simp only[Bool.and_eq_true,decide_eq_true_eq]at this;exact this.1
 ·have l:=((q.own p hp).1.lt (k:=(f p).1) rfl).2
  have z:=(m.lt (k:=kg) rfl).1;simp only at e;omega
theorem Fg(w:World)(o:Obj):Below w.heap.size w (w.alloc o):=(Below.refl _ _).alloc (Nat.le_refl _) _
theorem Ek.endA(h:Ek w wr k rs n f D)(b:K<=128):
  PS (((wr.drew.alloc (.cells (madeCells #[.int .u64 0] (sizeOfK k)) 265)).alloc (.cells (madeCells #[.string ByteArray.empty] K) 9)).alloc (.cells #[.slice a n c,.slice (some ⟨wr.heap.size,0,none⟩) (sizeOfK k) (sizeOfK k),.slice (some ⟨wr.heap.size+1,0,none⟩) K K,.map (some w.heap.size)] 396)) w.heap.size
   ⟨wr.heap.size+1+1,a,n,c,wr.heap.size,sizeOfK k,wr.heap.size+1,K,w.heap.size⟩ (sizeOfK k) (CE k rs n) f (fun p=>(rs.getD p .dflt).xs) (List.replicate (sizeOfK k) 0) (List.replicate K ByteArray.empty)/\
  Below w.heap.size w (((wr.drew.alloc (.cells (madeCells #[.int .u64 0] (sizeOfK k)) 265)).alloc (.cells (madeCells #[.string ByteArray.empty] K) 9)).alloc (.cells #[.slice a n c,.slice (some ⟨wr.heap.size,0,none⟩) (sizeOfK k) (sizeOfK k),.slice (some ⟨wr.heap.size+1,0,none⟩) K K,.map (some w.heap.size)] 396)):=by
 have d:=DW k;have o1:=Qc wr.drew (sizeOfK k) (by omega);have o2:=Ku (wr.drew.alloc (.cells (madeCells #[.int .u64 0] (sizeOfK k)) 265)) K (by omega) _ rfl;rw[Bc]at o2;refine h.done (w1:=wr.drew) ((Below.refl _ _).drew) ?_ ?_ ?_ ?_
 ·exact Ad (Ad (Fg _ _) (Fg _ _)) (Fg _ _)
 ·exact(o1.below (Fg _ _)).below (Fg _ _)
 ·exact(o2.below (Fg _ _)).mono (by show wr.heap.size<=wr.heap.size+1;omega)
 ·have:=heap_alloc_new ((wr.drew.alloc (.cells (madeCells #[.int .u64 0] (sizeOfK k)) 265)).alloc (.cells (madeCells #[.string ByteArray.empty] K) 9)) (.cells #[.slice a n c,.slice (some ⟨wr.heap.size,0,none⟩) (sizeOfK k) (sizeOfK k),.slice (some ⟨wr.heap.size+1,0,none⟩) K K,.map (some w.heap.size)] 396)
  rw[Bc,Bc]at this;exact this
theorem Ek.endB(h:Ek w wr k rs n f D)(b:K<=128):
  PS (((wr.drew.alloc (.cells (madeCells #[.string ByteArray.empty] K) 9)).alloc (.cells (madeCells #[.int .u64 0] (sizeOfK k)) 265)).alloc (.cells #[.slice a n c,.slice (some ⟨wr.heap.size+1,0,none⟩) (sizeOfK k) (sizeOfK k),.slice (some ⟨wr.heap.size,0,none⟩) K K,.map (some w.heap.size)] 396)) w.heap.size
   ⟨wr.heap.size+1+1,a,n,c,wr.heap.size+1,sizeOfK k,wr.heap.size,K,w.heap.size⟩ (sizeOfK k) (CE k rs n) f (fun p=>(rs.getD p .dflt).xs) (List.replicate (sizeOfK k) 0) (List.replicate K ByteArray.empty)/\
  Below w.heap.size w (((wr.drew.alloc (.cells (madeCells #[.string ByteArray.empty] K) 9)).alloc (.cells (madeCells #[.int .u64 0] (sizeOfK k)) 265)).alloc (.cells #[.slice a n c,.slice (some ⟨wr.heap.size+1,0,none⟩) (sizeOfK k) (sizeOfK k),.slice (some ⟨wr.heap.size,0,none⟩) K K,.map (some w.heap.size)] 396)):=by
 have d:=DW k;have o1:=Ku wr.drew K (by omega) _ rfl;have o2:=Qc (wr.drew.alloc (.cells (madeCells #[.string ByteArray.empty] K) 9)) (sizeOfK k) (by omega);rw[Bc]at o2;refine h.done (w1:=wr.drew) ((Below.refl _ _).drew) ?_ ?_ ?_ ?_
 ·exact Ad (Ad (Fg _ _) (Fg _ _)) (Fg _ _)
 ·exact(o2.below (Fg _ _)).mono (by show wr.heap.size<=wr.heap.size+1;omega)
 ·exact(o1.below (Fg _ _)).below (Fg _ _)
 ·have:=heap_alloc_new ((wr.drew.alloc (.cells (madeCells #[.string ByteArray.empty] K) 9)).alloc (.cells (madeCells #[.int .u64 0] (sizeOfK k)) 265)) (.cells #[.slice a n c,.slice (some ⟨wr.heap.size+1,0,none⟩) (sizeOfK k) (sizeOfK k),.slice (some ⟨wr.heap.size,0,none⟩) K K,.map (some w.heap.size)] 396)
  rw[Bc,Bc]at this;exact this
theorem jB(K:Nat)(a:Option Addr)(n c:Nat)(rs:List RV)(w:World)(ad:0<sizeOfK (K:Int))(h:Aj w a n rs)(hs:Af rs)(hn:n<=1048576):
  Calls Tryz.prog 278 #[.int .i64 (K:Int),.slice a n c] w fun e w'=> ∃g kg bg f,e=.returned (.pointer (some ⟨g,0,none⟩))/\
   PS w' w.heap.size ⟨g,a,n,c,kg,sizeOfK (K:Int),bg,K,w.heap.size⟩ (sizeOfK (K:Int)) (CE (K:Int) rs n) f (fun p=>(rs.getD p .dflt).xs) (List.replicate (sizeOfK (K:Int)) 0) (List.replicate K ByteArray.empty)/\Below w.heap.size w w':=by
 obtain rfl:=h.1;have G:=DX ad;have hK:K<=128:=by omega
 have a0:=DW (K:Int);have aw:= @run_makeMap Tryz.prog;have Hh:=Ab h;have Hs:=Ab hs;have HZ:=Ab (Hc (K:Int));have T:=Ab (Z2 (sizeOfK (K:Int)) (by omega));have R:=Ab (N2 K (by omega));have ar:=Ab (fun wx=>Qc wx (sizeOfK (K:Int)) (by omega));have aq:=Ab (fun wx=>Ku wx K (by omega) _ rfl);have L:Hid (Ek w (w.alloc (.map #[] 0)) (K:Int) rs 0 (fun _=>(0,0)) (.map [])):=Ab ⟨World.ownsMap_made _ _ _ _,(A6.empty (Ej 0 fun _=>(0,0))).congr (fun p=>by simp[CE]) (fun p hp=>by cases hp),⟨fun p hp=>by simp[CE]at hp,fun p q hp=>by simp[CE]at hp⟩,(Below.refl _ _).alloc (Nat.le_refl _) _⟩;clear h hs ad G;have V:Hid (∀xs,AU (K:Int) xs=true->xs.length=sizeOfK (K:Int)):=Ab fun xs hx=>(F7 hx).2.1;go_enter Tryz.func278,Tryz.ntmps278;go_wp2;go_loopw [11] (fun i wr=> ∃k:Nat,∃f:Nat->Nat×Nat,∃D:DataW Value,k<=rs.length/\i=.int .i64 k/\Hid (Ek w wr (K:Int) rs k f D)) (fun i _=>rs.length-(intOf i).toNat)
 case atStart=>exact⟨0,_,_,Nat.zero_le _,rfl,L⟩
 case round=>
  obtain⟨k,f,D,hk,rfl,HB⟩:=hrel;clear L;by_cases A:k<rs.length
  ·have W:=Aa HB
   have hR:=(Aa Hh).below W.2.2.2;obtain⟨b,off,rfl,Z⟩:=hR.at A;obtain⟨au,av⟩:=Z k A;have u:=hR.2.1 k A;have ap:(k:Int)<(rs.length:Int):=by omega
   have az:=(Aa Hs) k;have x:=Ab (fun w2 l m=>W.no (w2:=w2) l m);have y:=Ab (fun(w2 w3:World) (g2 c2:Nat) l m ho hm hg=>W.yes (w2:=w2) (w3:=w3) (g2:=g2) (c2:=c2) l m ho hm hg);generalize rs.getD k .dflt=r at*;have z:Below wr.heap.size wr (wr.alloc (.cells #[.slice r.a r.n r.c,.string r.s] 73)):=(Below.refl _ _).alloc (Nat.le_refl _) _;have E:=u.below z;have HV:=Ab (LZ r.a r.n r.c r.xs (K:Int) _ E);have Y:=GH wr (.slice r.a r.n r.c) (.string r.s);have O:=Ab (fun w2 (l:Below (wr.alloc (.cells #[.slice r.a r.n r.c,.string r.s] 73)).heap.size (wr.alloc (.cells #[.slice r.a r.n r.c,.string r.s] 73)) w2)=>(Y.below l).1);have P:=Ab (fun w2 (l:Below (wr.alloc (.cells #[.slice r.a r.n r.c,.string r.s] 73)).heap.size (wr.alloc (.cells #[.slice r.a r.n r.c,.string r.s] 73)) w2)=>GZ r.a r.n r.c r.xs w2 (E.below l) (by omega));have I:=Ab z;have ai:=Ab W.1;clear W hR Z u E z Y;cases m:AU (K:Int) r.xs
   ·have aj:=Ab (fun w2 l=>Aa x w2 l m)
    clear x y O P;go_wp2_with (go_at_call 179;refine(Aa HV).mono ?_;rintro e w2 ⟨he,d⟩;obtain rfl:=Ng he;rw[m];have af:=Ab d;clear d he);go_roundw
    case rel=>exact⟨k+1,f,D,by omega,by go_num,Ab (Aa aj w2 (Ad (Aa I) (Aa af)))⟩
    case measure=>simp[intOf];omega
   ·have hl:=Ab (Aa V r.xs m)
    have ac:Hid (0<r.xs.length):=Ab (GX.1 m).1;have al:=Ab (fun(w3 w4:World) (g2 c2:Nat) (l:Below wr.heap.size wr w3) ho hm hg=>Aa y w3 w4 g2 c2 l m ho hm hg);clear x y HB;go_wp2_with (first|(go_at_call 179;refine(Aa HV).mono ?_;rintro e w2 ⟨he,d⟩;obtain rfl:=Ng he;rw[m];have hx:=Aa O w2 d;have HC:=Ab (Aa P w2 d);have H:=Ab (Ad (Aa I) d);clear d he)|(go_at_call 253;refine(Aa HC).mono ?_;rintro e w3 ⟨v3,rfl,C,X⟩;obtain⟨g3,c3,ae,am,an,_,_⟩:=C.at (Aa ac);rw[Aa hl]at ae;subst ae;have ak:=Ab C;have J:=Ab (Ad (Aa H) X);clear C X am an)|(at_mapUpdate;refine wpList_mapUpdate_own _ rfl (.tmp 20) (.tmp 21) (.tmp 24) 394 rfl 3 40 II Tryz.underlying394 CX w.heap.size k D rfl ((Aa ai).kept (CM (Aa J) none) (by simp)) (by unfold maxLen;omega) (.int .i64 (k:Int)) (.slice (some ⟨g3,0,none⟩) (sizeOfK (K:Int)) c3) (.int .i64 (k:Int)) rfl rfl (KV (by omega)) (.held (.slice (some ⟨g3,0,none⟩) (sizeOfK (K:Int)) c3)) [] rfl ?_;intro w4 ab aa;have ah:=Ab ab;have ag:=Ab aa;clear ab aa));go_roundw
    case rel=>exact⟨k+1,_,_,by omega,by go_num,Ab (Aa al w3 w4 g3 c3 (Aa J) ((Aa ak).mono (Aa H).size) (Aa ah) (Aa ag))⟩
    case measure=>simp[intOf];omega
  ·have ao:k=rs.length:=by omega
   subst ao;have ay:=Aa T;have ax:=Aa R;clear T R Hh Hs V;go_wp2_with fail;go_region_held (fun _=>True) (go_keep) (first|(go_at_call 176;refine(Aa HZ _).mono ?_;rintro e w' ⟨rfl,rfl⟩))
   all_goals go_wp2
   all_goals go_ret
   all_goals first|exact⟨_,_,_,f,rfl,(Aa HB).endA hK⟩|exact⟨_,_,_,f,rfl,(Aa HB).endB hK⟩
def Dr(S:Nat->Bool)(cs:Nat->List Nat)(kn:List Nat)(left:Lit->Bool)(p:Nat):Bool:=S p&&(left (.int .i64 (p:Int))|| !decide (cnt (dropL (cs p) kn)=0))
def Hu(cs:Nat->List Nat)(kn:List Nat)(left:Lit->Bool)(p:Nat):List Nat:=if left (.int .i64 (p:Int))=true then cs p else dropL (cs p) kn
def JV(S:Nat->Bool)(cs:Nat->List Nat)(kn:List Nat)(left:Lit->Bool)(N first:Nat):Prop:=
 first<=N/\(first<N->S first=true/\left (.int .i64 (first:Int))=false/\cnt (dropL (cs first) kn)=1)/\∀p:Nat,S p=true->left (.int .i64 (p:Int))=false->cnt (dropL (cs p) kn)=1->first<=p
def Eu(left:Lit->Bool)(p:Nat):Lit->Bool:=fun z=>left z&& !z.sameKey (.int .i64 (p:Int))
theorem Ha(left:Lit->Bool)(p q:Nat):Eu left p (.int .i64 (q:Int))=(left (.int .i64 (q:Int))&& !decide (q=p)):=by
 unfold Eu;rw[rF]
def Gv(w wr:World)(B:Nat)(v:PV)(sz:Nat)(S:Nat->Bool)(f:Nat->Nat×Nat)(cs:Nat->List Nat)(kn:List Nat)(bs:List ByteArray)(r:Nat)(left:Lit->Bool)(c first:Nat)(D:DataW Value):Prop:=
 A1 wr B v kn bs/\wr.ranges Tryz.prog 3 CX v.bm r v.n D left c/\A6 D (Dr S cs kn left) (Ej sz f)/\Lf wr B sz (Dr S cs kn left) f (Hu cs kn left)/\JV S cs kn left v.n first/\Below B w wr/\B<=r
theorem Gv.start{w0:World}(s:A1 w B v kn bs)(b:A6 D S (Ej sz f))(d:Lf w B sz S f cs)
  (i:w0.ranges Tryz.prog 3 CX v.bm w.heap.size v.n D (Maps.has D) (Maps.size D)) (u:w.grownBy w0 none) (m:B<=w.heap.size):Gv w w0 B v sz S f cs kn bs w.heap.size (Maps.has D) (Maps.size D) v.n D:=by
 have g:Below w.heap.size w w0:=CJ u (Nat.le_refl _) (fun k x=>by cases x);have e:∀p,Dr S cs kn (Maps.has D) p=S p:=fun p=>by unfold Dr;rw[b.has];cases S p<;>simp
 have l:Dr S cs kn (Maps.has D)=S:=funext e;refine⟨s.below g,i,by rw[l];exact b,?_,⟨Nat.le_refl _,fun h=>absurd h (Nat.lt_irrefl _),fun p hp q=>?_⟩,g.mono m,m⟩
 ·rw[l]
  refine⟨fun p hp=>?_,d.two⟩;unfold Hu;rw[b.has,if_pos hp];exact⟨((d.below g).own p hp).1,(d.own p hp).2⟩
 ·rw[b.has,hp]at q;cases q
def NxP(w w2:World)(B:Nat)(v:PV)(sz:Nat)(S:Nat->Bool)(f:Nat->Nat×Nat)(cs:Nat->List Nat)(kn:List Nat)(bs:List ByteArray)(r:Nat)(left:Lit->Bool)(c first:Nat)(D:DataW Value)(p:Nat):Prop:=
 A1 w2 B v kn bs/\w2.ranges Tryz.prog 3 CX v.bm r v.n D (Eu left p) c/\A6 D (Dr S cs kn left) (Ej sz f)/\Lf w2 B sz (Dr S cs kn left) f (Hu cs kn (Eu left p))/\JV S cs kn left v.n first/\Below B w w2/\B<=r
theorem Gv.step{w1:World}{c1:Nat}{d J:Nat}(h:Gv w wr B v sz S f cs kn bs r left c first D)
  (C:∀p,S p=true->p<v.n/\(f p).1≠v.kg) (G:f p=(d,J)) (hp:Dr S cs kn left p=true) (hl:left (.int .i64 (p:Int))=true) (s:w1.ranges Tryz.prog 3 CX v.bm r v.n D (Eu left p) c1) (z:wr.grownBy w1 (some r)) (y:B<=w.heap.size):
  Own w1 B (.slice (some ⟨d,0,none⟩) sz J) (cs p)/\(cs p).length=sz/\A1 w1 B v kn bs/\v.kg≠d/\p<v.n/\S p=true/\
  ∀w2,w1.grownBy w2 (some d)->Own w2 B (.slice (some ⟨d,0,none⟩) sz J) (dropL (cs p) kn)->NxP w w2 B v sz S f cs kn bs r left c1 first D p:=by
 obtain⟨h1,L,h3,u,h5,O,Z⟩:=h;have i:S p=true:=by unfold Dr at hp;rw[Bool.and_eq_true]at hp;exact hp.1
 have l:∀x t m,wr.heap[r]? ≠some (.cells x t m):=by
  obtain⟨es,I,Y,seen,c0,_,_,_,_,hr,_⟩:=L;intro x t m e;rw[hr]at e;cases e
 have E:=(u.own p hp).1;have b:=(u.own p hp).2;unfold Hu at E b;rw[if_pos hl]at E b;rw[G]at E;have X:=N4 E L;have o1:=E.kept z (.inr fun e=>X (by simpa [Value.ownBlock]using e));have p1:=h1.nocells z l;have A:v.kg≠d:=fun e=>(C p i).2 (by rw[G];exact e.symm);have P:Lf w1 B sz (Dr S cs kn left) f (Hu cs kn left):=u.kept z (fun q H=>N4 (u.own q H).1 L);refine⟨o1,b,p1,A,(C p i).1,i,fun w2 g o2=>?_⟩;have T:d≠v.bm:=Kx o1 s.owns;have W:d≠r:=N4 o1 s;refine⟨p1.row g o1 A,s.kept g (fun e=>T (by simpa using e.symm)) (fun e=>W (by simpa using e.symm)),h3,⟨fun q H=>?_,u.two⟩,h5,(O.trans (CJ z (Nat.le_trans y O.size) fun j R=>by cases R;exact Z)).trans (CJ g (Nat.le_trans y (Nat.le_trans O.size z.size)) fun j R=>by cases R;exact(o1.lt (k:=d) rfl).1),Z⟩;by_cases e:q=p
 ·subst e
  unfold Hu;rw[Ha,if_neg (by simp),G];exact⟨o2,by rw[Jk];exact b⟩
 ·have V:(f q).1≠d:=by have:=u.two q p H hp e;rw[G]at this;exact this
  have:=P.own q H;unfold Hu at this⊢;rw[Ha,show(left (.int .i64 (q:Int))&& !decide (q=p))=left (.int .i64 (q:Int)) by simp[e]];exact⟨this.1.kept g (.inr fun e=>V (by simpa [Value.ownBlock]using e)),this.2⟩
theorem JV.more{N:Nat}(h:JV S cs kn left N first)(hp:p<N)(y:S p=true):JV S cs kn (Eu left p) N (if cnt (dropL (cs p) kn)=1 then min first p else first):=by
 obtain⟨x,s,u⟩:=h;by_cases l:cnt (dropL (cs p) kn)=1
 ·rw[if_pos l]
  refine⟨by omega,fun g=>?_,fun q m i d=>?_⟩
  ·by_cases z:first<p
   ·rw[show min first p=first by omega]at g⊢
    obtain⟨a,b,c⟩:=s g;exact⟨a,by rw[Ha,b];rfl,c⟩
   ·rw[show min first p=p by omega]
    exact⟨y,by rw[Ha];simp,l⟩
  ·rw[Ha]at i
   by_cases e:q=p
   ·omega
   ·have:=u q m (by simpa [e]using i) d
    omega
 ·rw[if_neg l]
  refine⟨x,fun g=>?_,fun q m i d=>?_⟩
  ·obtain⟨a,b,c⟩:=s g
   exact⟨a,by rw[Ha,b];rfl,c⟩
  ·rw[Ha]at i
   by_cases e:q=p
   ·subst e;exact absurd d l
   ·exact u q m (by simpa [e]using i) d
theorem NxP.stay(h:NxP w w2 B v sz S f cs kn bs r left c first D p)
  (hp:p<v.n) (u:S p=true) (x:¬cnt (dropL (cs p) kn)=0):Gv w w2 B v sz S f cs kn bs r (Eu left p) c (if cnt (dropL (cs p) kn)=1 then min first p else first) D:=by
 obtain⟨g,i,b,d,l,m,s⟩:=h;have e:Dr S cs kn left=Dr S cs kn (Eu left p):=by
  funext q;unfold Dr;rw[Ha];by_cases e:q=p
  ·subst e;simp[x]
  ·simp[e]
 rw[e]at b d;exact⟨g,i,b,d,l.more hp u,m,s⟩
theorem NxP.gone{c3:Nat}(h:NxP w w2 B v sz S f cs kn bs r left c first D p)
  (hp:p<v.n) (O:S p=true) (R:cnt (dropL (cs p) kn)=0) (A:w3.ranges Tryz.prog 3 CX v.bm r v.n (D.del (.int .i64 (p:Int))) (Eu left p) c3) (ht:w2.mapTurned w3 v.bm) (u:B<=v.bm) (x:B<=w.heap.size):
  Gv w w3 B v sz S f cs kn bs r (Eu left p) c3 first (D.del (.int .i64 (p:Int))):=by
 obtain⟨H,C,I,E,J,G,L⟩:=h;have y:=ht.grown
 have e:∀q,(Dr S cs kn left q&& !decide (q=p))=Dr S cs kn (Eu left p) q:=fun q=>by
  unfold Dr;rw[Ha];by_cases e:q=p
  ·subst e;simp[R]
  ·simp[e]
 have z:∀d t m,w2.heap[v.bm]? ≠some (.cells d t m):=by
  obtain⟨W,s,P,_⟩:=C.owns;intro d t m e;rw[P]at e;cases e
 have i:=J.more hp O;rw[if_neg (by omega)]at i;have g:=E.kept y (fun q b=>Kx (E.own q b).1 C.owns);refine⟨H.nocells y z,A,(I.del p).congr e (fun _ _=>rfl),⟨fun q b=>?_,fun q V b l=>?_⟩,i,G.trans (CJ y (Nat.le_trans x G.size) fun j T=>by cases T;exact u),L⟩
 ·rw[<-e,Bool.and_eq_true]at b
  exact g.own q b.1
 ·rw[<-e,Bool.and_eq_true]at b l
  exact g.two q V b.1 l.1
def Dy(S:Nat->Bool)(cs:Nat->List Nat)(kn:List Nat)(p:Nat):Bool:=S p&& !decide (cnt (dropL (cs p) kn)=0)
theorem Gv.done(h:Gv w wr B v sz S f cs kn bs r left c first D)(l:∀C,left C=false)
  (m:∀p,S p=true->p<v.n/\(f p).1≠v.kg) (i:B<=v.bm):
  PS wr B v sz (Dy S cs kn) f (fun p=>dropL (cs p) kn) kn bs/\Below B w wr/\first<=v.n/\(first<v.n->S first=true/\cnt (dropL (cs first) kn)=1)/\∀p,S p=true->cnt (dropL (cs p) kn)=1->first<=p:=by
 obtain⟨x,y,s,g,d,z,E⟩:=h;have e:Dr S cs kn left=Dy S cs kn:=by funext q;unfold Dr Dy;rw[l];simp
 have u:Hu cs kn left=fun p=>dropL (cs p) kn:=by funext q;unfold Hu;rw[l];simp
 rw[e]at s g;rw[u]at g;refine⟨⟨x,⟨D,y.owns,s⟩,g,fun p hp=>?_,i⟩,z,d.1,fun b=>⟨(d.2.1 b).1,(d.2.1 b).2.2⟩,fun p hp A=>d.2.2 p hp (l _) A⟩;unfold Dy at hp;rw[Bool.and_eq_true]at hp;exact m p hp.1
theorem pM(B:Nat)(v:PV)(sz:Nat)(S:Nat->Bool)(f:Nat->Nat×Nat)(cs:Nat->List Nat)(kn:List Nat)(bs:List ByteArray)(w:World)(h:PS w B v sz S f cs kn bs)(hB:B<=w.heap.size)(hz:sz<=1048576)(aj:kn.length<=1048576)(hn:v.n<=1048576):
  Calls Tryz.prog 279 #[.pointer (some ⟨v.g,0,none⟩)] w fun e w'=> ∃first:Nat,e=.returned (.tuple #[.int .i64 (first:Int),.bool (decide (first<v.n))])/\PS w' B v sz (Dy S cs kn) f (fun p=>dropL (cs p) kn) kn bs/\Below B w w'/\
   first<=v.n/\(first<v.n->S first=true/\cnt (dropL (cs first) kn)=1)/\∀p,S p=true->cnt (dropL (cs p) kn)=1->first<=p:=by
 obtain⟨h1,⟨D0,h2,h3⟩,h4,h5,h6⟩:=h;obtain⟨x0,x1,x2,x3⟩:=h1.cells;have L:=Ab h5;have q:=Ab (fun w0 V hg=>Gv.start (w0:=w0) h1 h3 h4 V hg hB);have H2:=Ab h2;clear h1 h2 h3 h4 h5;go_enter Tryz.func279,Tryz.ntmps279;go_wp2_with (first|(at_range;refine wpList_range_own _ rfl _ 394 rfl 3 40 II Tryz.underlying394 CX v.bm v.n D0 rfl (Aa H2) ?_;intro w0 E ab ak;have X:=Ab (Aa q w0 E ab);clear E ab ak q H2));go_frame;go_loopw [5] (fun i wr=> ∃(first c:Nat) (left:Lit->Bool) (D:DataW Value),i=.int .i64 (first:Int)/\first<=1048576/\Hid (Gv w wr B v sz S f cs kn bs w.heap.size left c first D)) (fun _ wr=>wr.rangeLeft v.bm w.heap.size)
 case atStart=>exact⟨_,_,_,_,rfl,hn,X⟩
 case round=>
  obtain⟨first,c,left,D,rfl,aa,J⟩:=hrel;clear X x0 x1 x2 x3;have s:=Ab (Aa J).2.1.left_eq;go_wp2_with (first|(at_next;refine bV rfl _ rfl v.bm w.heap.size v.n sz D left c (Dr S cs kn left) f (Aa J).2.2.1 rfl (Aa J).2.1 ?_ ?_))
  ·intro hl
   have HD:=Ab ((Aa J).done hl (Aa L) h6);clear J hl L s;go_wp2;go_ret2;exact⟨first,by simp,Aa HD⟩
  ·intro p gp cp w1 c1 hf hp hl G ap ac an
   obtain⟨o1,x,p1,ai,T,P,Z⟩:=(Aa J).step (Aa L) hf hp hl G ac hB;have I:=ni B (some ⟨gp,0,none⟩) cp (cs p) (some ⟨v.kg,0,none⟩) kn.length v.kc kn w1 (by rw[x];exact o1) p1.known.at'.2 (.inr fun ad e=>by cases e;simp[Value.ownBlock,ai]) (by omega) aj;rw[x]at I;have H:=Ab I;have W:=Ab (fun w2 (ho:Own w2 B (.slice (some ⟨gp,0,none⟩) sz cp) (dropL (cs p) kn))=>GC (some ⟨gp,0,none⟩) sz cp (dropL (cs p) kn) w2 (by have:=ho.at';rw[this.1];exact this.2) hz);have HP:=Ab Z;obtain⟨-,y1, -, -⟩:=p1.cells;clear I Z p1 o1 x G hl hp hf ac J;rcases Nat.lt_trichotomy (cnt (dropL (cs p) kn)) 1 with O|O|O
   ·have R:cnt (dropL (cs p) kn)=0:=by omega
    rw[R]at W;have C:=Ab (fun w2 w3 c3 (y:NxP w w2 B v sz S f cs kn bs w.heap.size left c1 first D p) V ht=>y.gone (w3:=w3) (c3:=c3) T P R V ht h6 hB);clear O R;go_wp2_with (first|(go_at_call 306;refine(Aa H).mono ?_;rintro e w2 ⟨rfl,b,l⟩;have u:=Ab (Aa W w2 b);have d:=Ab (Aa HP w2 l b);obtain⟨z0,z1,z2,z3⟩:=(Aa d).1.cells;clear b l)|(go_at_call 180;refine(Aa u).mono ?_;rintro e w9 ⟨rfl,m⟩;obtain rfl:=m.symm;clear m)|(at_delete;refine wpList_delete_ranges _ rfl _ _ 394 3 rfl 40 II Tryz.underlying394 CX v.bm w.heap.size v.n D (Eu left p) c1 rfl (Aa d).2.1 (.int .i64 (p:Int)) (.int .i64 (p:Int)) rfl (KV (by omega)) ?_;intro w3 c3 A ao ah;rw[show(fun z=>Eu left p z&& !z.sameKey (.int .i64 (p:Int)))=Eu left p from Maps.strike_twice left _]at A;have Y:=Ab (Aa C w2 w3 c3 (Aa d) A ah);clear A ah;go_frame));go_roundw
    case rel=>exact⟨first,c3,_,_,rfl,aa,Y⟩
    case measure=>rw[(Aa Y).2.1.left_eq,Aa s];omega
   ·rw[O]at W
    have C:=Ab (fun w2 (y:NxP w w2 B v sz S f cs kn bs w.heap.size left c1 first D p)=>y.stay T P (by omega));rw[O,if_pos rfl]at C;have ae:=fun wx ts t=>I3 first p ts t wx
    obtain⟨mn,af⟩:∃mn,mn=min first p:=⟨_,rfl⟩
    rw[<-af]at ae C;have ag:mn<=1048576:=by omega
    clear O af;go_wp2_with (first|(go_at_call 306;refine(Aa H).mono ?_;rintro e w2 ⟨rfl,b,l⟩;have u:=Ab (Aa W w2 b);have d:=Ab (Aa HP w2 l b);clear b l)|(go_at_call 180;refine(Aa u).mono ?_;rintro e w9 ⟨rfl,m⟩;obtain rfl:=m.symm;clear m));go_roundw
    case rel=>exact⟨mn,c1,_,_,rfl,ag,Ab (Aa C w2 (Aa d))⟩
    case measure=>rw[(Aa d).2.1.left_eq,Aa s];omega
   ·have C:=Ab (fun w2 (y:NxP w w2 B v sz S f cs kn bs w.heap.size left c1 first D p)=>y.stay T P (by omega))
    rw[if_neg (by omega)]at C;have al:((cnt (dropL (cs p) kn):Int)==0)=false:=by rw[beq_eq_false_iff_ne];omega
    have am:((cnt (dropL (cs p) kn):Int)==1)=false:=by rw[beq_eq_false_iff_ne];omega
    clear O;generalize cnt (dropL (cs p) kn)=cr at*;go_wp2_with (first|(go_at_call 306;refine(Aa H).mono ?_;rintro e w2 ⟨rfl,b,l⟩;have u:=Ab (Aa W w2 b);have d:=Ab (Aa HP w2 l b);clear b l)|(go_at_call 180;refine(Aa u).mono ?_;rintro e w9 ⟨rfl,m⟩;obtain rfl:=m.symm;clear m));go_roundw
    case rel=>exact⟨first,c1,_,_,rfl,aa,Ab (Aa C w2 (Aa d))⟩
    case measure=>rw[(Aa d).2.1.left_eq,Aa s];omega
end Go.Proofs.YtmmikiikddokgaaGreatDoor
