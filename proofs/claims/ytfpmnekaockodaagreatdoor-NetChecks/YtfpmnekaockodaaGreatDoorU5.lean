/-
  Laws that the proof stands on.
-/
import Derived.Test.YtfpmnekaockodaaGreatDoorU4
import Derived.Maps.RangeWalk
import Derived.Maps.OwnSet
import Derived.Deep.RegionHeld
namespace Go.Proofs.YtfpmnekaockodaaGreatDoor
open Go.RowKit Go.Sort
set_option linter.unusedVariables false
set_option linter.unusedSimpArgs false
set_option maxRecDepth 4000
set_option maxHeartbeats 8000000
variable {D:DataW Value}{bs:List ByteArray}{xs kn:List Nat}{p N sz B j:Nat}{S:Nat->Bool}{f:Nat->Nat×Nat}{vs:Nat->Value}{w w':World}
def CX:Value->Option (DataW Value×List MemPlace)
 | .slice a n c=>some (.held (.slice a n c),[])
 |_=>none
theorem LQ{v:Value}{y:DataW Value×List MemPlace}(h:CX v=some y):∃a n c,v=.slice a n c/\y=(.held v,[]):=by
 cases v<;>simp[CX]at h;exact⟨_,_,_,rfl,h.symm⟩
theorem IN:Maps.Keyed Tryz.prog 3:=Maps.int_keyed Tryz.underlying3
theorem O0(w:World):(zeroValue 40).run Tryz.prog w=.ok (.slice none 0 0) w:=by kernel_rfl
theorem bN(h:p<=9223372036854775807):(Lit.int .i64 (p:Int)).wf=true:=by
 exact WalkArith.wf_i64 (by omega)
theorem K1(h:p<=9223372036854775807):keyOf Tryz.prog 3 (.int .i64 (p:Int))=some (.int .i64 (p:Int)):=Maps.keyOf_int_mk Tryz.underlying3 (bN h)
theorem MN{q:Nat}(h:Lit.int .i64 (p:Int)=Lit.int .i64 (q:Int)):p=q:=by
 injection h with _ h;omega
theorem Rk(p:Nat):WideAt.IsKeyLit (.int .i64 (p:Int)):=trivial
theorem re(p q:Nat):(Lit.int .i64 (p:Int)).sameKey (.int .i64 (q:Int))=decide (p=q):=by
 by_cases e:p=q
 ·subst e;rw[WideAt.sameKey_self (Rk p)];simp
 ·rw[Maps.sameKey_ne (fun h=>e (MN h)),decide_eq_false e]
def A6(D:DataW Value)(S:Nat->Bool)(vs:Nat->Value):Prop:=
 (∀b,Maps.has D b=true->∃p:Nat,S p=true/\b=.int .i64 (p:Int))/\∀p:Nat,S p=true->∀z,D.atKey (.int .i64 (p:Int)) z=.held (vs p)
theorem A6.has(h:A6 D S vs)(p:Nat):Maps.has D (.int .i64 (p:Int))=S p:=by
 cases b:S p
 ·cases d:Maps.has D (.int .i64 (p:Int))
  ·rfl
  ·obtain⟨q,g,e⟩:=h.1 _ d
   rw[MN e,g]at b;cases b
 ·exact Maps.has_true_of_atKey (h.2 p b)
theorem A6.empty(vs:Nat->Value):A6 (.map []) (fun _=>false) vs:=⟨fun b h=>by simp[Maps.has]at h,fun p h=>by cases h⟩
theorem A6.put(h:A6 D S vs)(i:Maps.IsMap D){p:Nat}(v:Value):
  A6 (D.put (.int .i64 (p:Int)) (.held v)) (fun q=>decide (q=p)||S q) (fun q=>if q=p then v else vs q):=by
 refine⟨fun g d=>?_,fun q b z=>?_⟩
 ·by_cases e:g=.int .i64 (p:Int)
  ·exact⟨p,by simp,e⟩
  ·rw[Maps.has_put_other e]at d
   obtain⟨q,b,rfl⟩:=h.1 g d;exact⟨q,by simp[b],rfl⟩
 ·by_cases e:q=p
  ·subst e
   rw[Maps.atKey_put_same i (Rk q)];simp
  ·rw[Maps.atKey_put_other (fun h=>e (MN h))]
   simp only[e,if_false];exact h.2 q (by simpa [e]using b) z
theorem A6.del(h:A6 D S vs)(p:Nat):A6 (D.del (.int .i64 (p:Int))) (fun q=>S q&& !decide (q=p)) vs:=by
 refine⟨fun g d=>?_,fun q b z=>?_⟩
 ·by_cases e:g=.int .i64 (p:Int)
  ·rw[e,Maps.has_del_same]at d;cases d
  ·rw[Maps.has_del_other e]at d
   obtain⟨q,b,rfl⟩:=h.1 g d;have:q≠p:=fun h=>e (by rw[h]);exact⟨q,by simp[b,this],rfl⟩
 ·rw[Bool.and_eq_true]at b
  have:q≠p:=by simpa using b.2
  rw[Maps.atKey_del_other (fun h=>this (MN h))];exact h.2 q b.1 z
theorem A6.congr{d:Nat->Bool}{b:Nat->Value}(h:A6 D S vs)(g:∀p,S p=d p)(l:∀p,S p=true->vs p=b p):A6 D d b:=by
 refine⟨fun m i=>?_,fun p hp z=>?_⟩
 ·obtain⟨p,hp,e⟩:=h.1 m i
  exact⟨p,by rw[<-g];exact hp,e⟩
 ·rw[<-g]at hp
  rw[<-l p hp];exact h.2 p hp z
section
variable {w:World} {ops:Array Oper} {rest:List Oper} {o:Oper} {act:Act} {Q:Exit->Act->World->Prop}
def El(sz:Nat)(f:Nat->Nat×Nat)(p:Nat):Value:=.slice (some ⟨(f p).1,0,none⟩) sz (f p).2
theorem cI(T:o.guard=none)(it:Operand)(u:o.op=Op.next it false)(bm r N sz:Nat)(D:DataW Value)(left:Lit->Bool)(cnt:Nat)(S:Nat->Bool)(f:Nat->Nat×Nat)(R:A6 D S (El sz f))
  (q:act.eval it=.pointer (some ⟨r,0,none⟩)) (h:w.ranges Tryz.prog 3 CX bm r N D left cnt)
  (g:(∀P,left P=false)->wpList Tryz.prog ops Q rest (act.put o.dst (.tuple #[.bool false])) w)
  (i:∀(p E A:Nat) (w':World) (b:Nat),f p=(E,A)->S p=true->left (.int .i64 (p:Int))=true->w'.ranges Tryz.prog 3 CX bm r N D (fun z=>left z&& !z.sameKey (.int .i64 (p:Int))) b->b<cnt->
   w.grownBy w' (some r)->(Instr.entry (.pointer (some ⟨r,0,none⟩))).run Tryz.prog w'=.ok (.tuple #[.int .i64 (p:Int),.slice (some ⟨E,0,none⟩) sz A]) w'->wpList Tryz.prog ops Q rest (act.put o.dst (.tuple #[.bool true,.int .i64 (p:Int),.slice (some ⟨E,0,none⟩) sz A])) w'):
  wpList Tryz.prog ops Q (o::rest) act w:=by
 refine wpList_plain T fun K' l=>?_;unfold Oper.wp;rcases h.next IN o.type with⟨h0,V,d⟩|⟨Z,v,P,y,w',b,s,J,X,m,d,O,L,I,W,H⟩
 ·simp[execOp,u,q,d,Result.andThen]
  exact l _ _ (g V)
 ·obtain⟨p,hp,rfl⟩:=R.1 P (Maps.has_true_of_atKey m)
  obtain⟨x,rfl,C,Y⟩:=Maps.keyOf_int_inv Tryz.underlying3 s;injection C with _ C;subst C;obtain⟨a,n,c,rfl,rfl⟩:=LQ X;have e:=m (.held (.slice none 0 0));rw[R.2 p hp]at e;simp only[DataW.held.injEq,El,Value.slice.injEq]at e;obtain⟨rfl,rfl,rfl⟩:=e;simp[execOp,u,q,d,Result.andThen];exact l _ _ (i p (f p).1 (f p).2 w' b rfl hp J O L I H)
end
theorem Yh{bm:Nat}(h:w.ownsMap Tryz.prog 3 CX bm N D)(g:A6 D S (El sz f))(hp:S p=true)(d:p<=9223372036854775807):
  (Instr.lookup 394 (.map (some bm)) (.int .i64 (p:Int)) false).run Tryz.prog w=.ok (.slice (some ⟨(f p).1,0,none⟩) sz (f p).2) w:=by
 obtain⟨v,ps,b,i⟩:=h.lookup IN Tryz.underlying394 (O0 w) (zd:=.held (.slice none 0 0)) (zp:=[]) rfl (K1 d);obtain⟨a,n,c,rfl,e⟩:=LQ i;rw[g.2 p hp]at e;simp only[Prod.mk.injEq,DataW.held.injEq,El,Value.slice.injEq]at e;obtain⟨⟨rfl,rfl,rfl⟩,_⟩:=e;exact b
theorem iT{bm:Nat}(h:w.ownsMap Tryz.prog 3 CX bm N D)(g:A6 D S (El sz f))(hp:S p=true)(d:p<=9223372036854775807):
  (Instr.lookup 394 (.map (some bm)) (.int .i64 (p:Int)) true).run Tryz.prog w=.ok (.tuple #[.slice (some ⟨(f p).1,0,none⟩) sz (f p).2,.bool true]) w:=by
 obtain⟨v,ps,b,i⟩:=h.look_ok IN Tryz.underlying394 (O0 w) (zd:=.held (.slice none 0 0)) (zp:=[]) rfl (K1 d);obtain⟨a,n,c,rfl,e⟩:=LQ i;rw[g.2 p hp]at e;simp only[Prod.mk.injEq,DataW.held.injEq,El,Value.slice.injEq]at e;obtain⟨⟨rfl,rfl,rfl⟩,_⟩:=e;rw[g.has p,hp]at b;exact b
theorem fV{bm:Nat}(h:w.ownsMap Tryz.prog 3 CX bm N D)(g:A6 D S (El sz f))(hp:S p=false)(d:p<=9223372036854775807):
  ∃a n c,(Instr.lookup 394 (.map (some bm)) (.int .i64 (p:Int)) true).run Tryz.prog w=.ok (.tuple #[.slice a n c,.bool false]) w:=by
 obtain⟨v,ps,b,i⟩:=h.look_ok IN Tryz.underlying394 (O0 w) (zd:=.held (.slice none 0 0)) (zp:=[]) rfl (K1 d);obtain⟨a,n,c,rfl,e⟩:=LQ i;rw[g.has p,hp]at b;exact⟨a,n,c,b⟩
structure Lf(w:World)(B sz:Nat)(S:Nat->Bool)(f:Nat->Nat×Nat)(cs:Nat->List Nat):Prop where
 own:∀p,S p=true->Own w B (.slice (some ⟨(f p).1,0,none⟩) sz (f p).2) (cs p)/\(cs p).length=sz
 two:∀p q,S p=true->S q=true->p≠q->(f p).1≠(f q).1
theorem Lf.below{cs:Nat->List Nat}(h:Lf w B sz S f cs)(b:Below w.heap.size w w'):Lf w' B sz S f cs:=⟨fun p hp=>⟨(h.own p hp).1.below b,(h.own p hp).2⟩,h.two⟩
theorem Lf.kept{cs:Nat->List Nat}{g:Nat}(h:Lf w B sz S f cs)(b:w.grownBy w' (some g))(d:∀p,S p=true->(f p).1≠g):Lf w' B sz S f cs:=
 ⟨fun p hp=>⟨(h.own p hp).1.kept b (.inr fun e=>d p hp (by simpa [Value.ownBlock]using e)),(h.own p hp).2⟩,h.two⟩
theorem KD{g n c bm:Nat}(h:Own w B (.slice (some ⟨g,0,none⟩) n c) xs)(q:w.ownsMap Tryz.prog 3 CX bm N D):g≠bm:=by
 rcases h.2.2 with⟨e,_⟩|⟨g',cap,l,e,_,m,_⟩
 ·cases e
 ·simp only[Value.slice.injEq,Option.some.injEq,Addr.mk.injEq,and_true]at e
  obtain⟨r,b,i,_⟩:=q;intro d;rw[<-d,e.1,m]at i;cases i
theorem Oh{g n c bm r cnt:Nat}{left:Lit->Bool}(h:Own w B (.slice (some ⟨g,0,none⟩) n c) xs)(s:w.ranges Tryz.prog 3 CX bm r N D left cnt):g≠r:=by
 rcases h.2.2 with⟨e,_⟩|⟨g',cap,m,e,_,q,_⟩
 ·cases e
 ·simp only[Value.slice.injEq,Option.some.injEq,Addr.mk.injEq,and_true]at e
  obtain⟨u,b,i,seen,c0,_,_,_,_,l,_⟩:=s;intro d;rw[<-d,e.1,q]at l;cases l
structure PV where
 g:Nat
 a:Option Addr
 n:Nat
 c:Nat
 kg:Nat
 kc:Nat
 bg:Nat
 bc:Nat
 bm:Nat
structure A1(w:World)(B:Nat)(v:PV)(kn:List Nat)(bs:List ByteArray):Prop where
 box:w.heap[v.g]? =some (.cells #[.slice v.a v.n v.c,.slice (some ⟨v.kg,0,none⟩) kn.length v.kc,.slice (some ⟨v.bg,0,none⟩) bs.length v.bc,.map (some v.bm)] 396 (0,0))
 known:Own w B (.slice (some ⟨v.kg,0,none⟩) kn.length v.kc) kn
 blocks:Ar w B (.slice (some ⟨v.bg,0,none⟩) bs.length v.bc) bs
theorem A1.cells{v:PV}(h:A1 w B v kn bs):
  w.cell? ⟨v.g,0,none⟩=some (.slice v.a v.n v.c)/\w.cell? ⟨v.g,1,none⟩=some (.slice (some ⟨v.kg,0,none⟩) kn.length v.kc)/\w.cell? ⟨v.g,2,none⟩=some (.slice (some ⟨v.bg,0,none⟩) bs.length v.bc)/\w.cell? ⟨v.g,3,none⟩=some (.map (some v.bm)):=by
 have:=h.box;refine⟨?_,?_,?_,?_⟩<;>simp[World.cell?,this]
theorem A1.lt{v:PV}(h:A1 w B v kn bs):v.g<w.heap.size:=(Array.getElem?_eq_some_iff.1 h.box).1
theorem A1.below{v:PV}(h:A1 w B v kn bs)(b:Below w.heap.size w w'):A1 w' B v kn bs:=⟨(b.block v.g h.lt).trans h.box,h.known.below b,h.blocks.below b⟩
theorem Ar.blk{g n c:Nat}{ss:List ByteArray}(h:Ar w B (.slice (some ⟨g,0,none⟩) n c) ss):∃b,w.heap[g]? =some (.cells b 9 (0,0)):=by
 rcases h.2 with⟨e,_⟩|⟨g',cap,b,e,_,d,_⟩
 ·cases e
 ·simp only[Value.slice.injEq,Option.some.injEq,Addr.mk.injEq,and_true]at e
  exact⟨b,by rw[e.1];exact d⟩
theorem Own.blk{g n c:Nat}(h:Own w B (.slice (some ⟨g,0,none⟩) n c) xs):∃b,w.heap[g]? =some (.cells b 265 (0,0)):=by
 rcases h.2.2 with⟨e,_⟩|⟨g',cap,b,e,_,d,_⟩
 ·cases e
 ·simp only[Value.slice.injEq,Option.some.injEq,Addr.mk.injEq,and_true]at e
  exact⟨b,by rw[e.1];exact d⟩
theorem A1.kept{v:PV}(h:A1 w B v kn bs)(b:w.grownBy w' (some j))(d:v.g≠j)(i:v.kg≠j)(l:v.bg≠j):A1 w' B v kn bs:=
 ⟨(b.block v.g h.lt (by simpa using d)).trans h.box,h.known.kept b (.inr fun e=>i (by simpa [Value.ownBlock]using e)),World.ownsRow.kept h.blocks b (.inr fun e=>l (by simpa [Value.ownBlock]using e))⟩
theorem A1.row{B' n c:Nat}{v:PV}(h:A1 w B v kn bs)(m:w.grownBy w' (some j))(q:Own w B' (.slice (some ⟨j,0,none⟩) n c) xs)(l:v.kg≠j):A1 w' B v kn bs:=by
 obtain⟨i,g⟩:=q.blk;obtain⟨d,b⟩:=h.blocks.blk;refine h.kept m (fun e=>?_) l (fun e=>?_)
 ·have:=h.box
  rw[e,g]at this;simp only[Option.some.injEq,Obj.cells.injEq]at this;exact absurd this.2.1 (by decide)
 ·rw[e,g]at b
  simp only[Option.some.injEq,Obj.cells.injEq]at b;exact absurd b.2.1 (by decide)
theorem A1.nocells{v:PV}(h:A1 w B v kn bs)(q:w.grownBy w' (some j))(g:∀b t m,w.heap[j]? ≠some (.cells b t m)):A1 w' B v kn bs:=by
 obtain⟨b,l⟩:=h.known.blk;obtain⟨i,d⟩:=h.blocks.blk;exact h.kept q (fun e=>g _ _ _ (by rw[<-e];exact h.box)) (fun e=>g _ _ _ (by rw[<-e];exact l)) (fun e=>g _ _ _ (by rw[<-e];exact d))
variable {D:DataW Value}{k:Int}{rs:List RV}{K n c:Nat}{f:Nat->Nat×Nat}{a:Option Addr}{w wr:World}
theorem Qk(w:World)(n:Nat)(b:n<=1048576):
  Own (w.alloc (.cells (madeCells #[.int .u64 0] n) 265)) w.heap.size (.slice (some ⟨w.heap.size,0,none⟩) n n) (List.replicate n 0):=by
 refine⟨NS n,by simp[cellsU],.inr ⟨w.heap.size,n,madeCells #[.int .u64 0] n,by simp,Nat.le_refl _,heap_alloc_new w _,by simp,by unfold maxLen;omega,by simp[size_madeCells],?_⟩⟩;rw[toList_madeCells_one,List.take_of_length_le (by simp)];simp[cellsU]
theorem ZA(n:Nat)(i:n<=1048576)(wx:World):(Instr.makeSlice 40 (.int .i64 (n:Int)) (.int .i64 (n:Int))).run Tryz.prog wx=.ok (.slice (some ⟨wx.heap.size,0,none⟩) n n) (wx.alloc (.cells (madeCells #[.int .u64 0] n) 265)):=by
 obtain⟨h,b,d,g,e⟩:=info_parts KQ;have:=run_make (P:=Tryz.prog) wx 40 265 h (.int .u64 0) Tryz.underlying40 b d .i64 .i64 (n:Int) (n:Int) (by omega) (Int.le_refl _) (by rw[e];omega) (by omega);rw[g]at this;simpa [Value.cells]using this
def PS(w:World)(B:Nat)(v:PV)(sz:Nat)(S:Nat->Bool)(f:Nat->Nat×Nat)(cs:Nat->List Nat)(kn:List Nat)(bs:List ByteArray):Prop:=
 A1 w B v kn bs/\(∃D,w.ownsMap Tryz.prog 3 CX v.bm v.n D/\A6 D S (El sz f))/\Lf w B sz S f cs/\(∀p,S p=true->p<v.n/\(f p).1≠v.kg)/\B<=v.bm
theorem PS.below{w':World}{B:Nat}{v:PV}{sz:Nat}{S:Nat->Bool}{cs:Nat->List Nat}{kn:List Nat}{bs:List ByteArray}(h:PS w B v sz S f cs kn bs)(b:Below w.heap.size w w'):PS w' B v sz S f cs kn bs:=by
 obtain⟨d,⟨D,e,g⟩,i,l,m⟩:=h;exact⟨d.below b,⟨D,e.kept (CN b none) (by simp),g⟩,i.below b,l,m⟩
def CF(k:Int)(rs:List RV)(m p:Nat):Bool:=decide (p<m)&&AU k (rs.getD p .dflt).xs
def Em(w wr:World)(k:Int)(rs:List RV)(m:Nat)(f:Nat->Nat×Nat)(D:DataW Value):Prop:=
 wr.ownsMap Tryz.prog 3 CX w.heap.size m D/\A6 D (CF k rs m) (El (sizeOfK k) f)/\Lf wr w.heap.size (sizeOfK k) (CF k rs m) f (fun p=>(rs.getD p .dflt).xs)/\Below w.heap.size w wr
theorem Em.no{w2:World}{m:Nat}(h:Em w wr k rs m f D)(b:Below wr.heap.size wr w2)(r:AU k (rs.getD m .dflt).xs=false):Em w w2 k rs (m+1) f D:=by
 obtain⟨l,d,g,q⟩:=h
 have e:∀p,CF k rs m p=CF k rs (m+1) p:=fun p=>by
  unfold CF;by_cases hp:p=m
  ·subst hp;rw[r];simp
  ·have:(p<m+1)=(p<m):=propext (by omega)
   simp only[this]
 have i:CF k rs m=CF k rs (m+1):=funext e;rw[i]at d g;exact⟨(l.kept (CN b none) (by simp)).mono (Nat.le_succ _),d,g.below b,Ad q b⟩
theorem Em.yes{w2 w3:World}{m:Nat}{g2 c2:Nat}(h:Em w wr k rs m f D)(r:Below wr.heap.size wr w2)(C:AU k (rs.getD m .dflt).xs=true)
  (z:Own w2 wr.heap.size (.slice (some ⟨g2,0,none⟩) (sizeOfK k) c2) (rs.getD m .dflt).xs) (L:w3.ownsMap Tryz.prog 3 CX w.heap.size (m+1) (D.put (.int .i64 (m:Int)) (.held (.slice (some ⟨g2,0,none⟩) (sizeOfK k) c2)))) (y:w2.grownBy w3 (some w.heap.size)):
  Em w w3 k rs (m+1) (fun q=>if q=m then(g2,c2)else f q) (D.put (.int .i64 (m:Int)) (.held (.slice (some ⟨g2,0,none⟩) (sizeOfK k) c2))):=by
 obtain⟨v,E,l,x⟩:=h
 have e:∀p,(decide (p=m)||CF k rs m p)=CF k rs (m+1) p:=fun p=>by
  unfold CF;by_cases hp:p=m
  ·subst hp;rw[C];simp
  ·have:(p<m+1)=(p<m):=propext (by omega)
   simp only[this,hp,decide_false,Bool.false_or]
 have J:=v.lt;have i:∀p,CF k rs m p=true->(f p).1<wr.heap.size:=fun p hp=>((l.own p hp).1.lt (k:=(f p).1) rfl).2;have H:=z.lt (k:=g2) rfl;have s:w2.ownsMap Tryz.prog 3 CX w.heap.size m D:=v.kept (CN r none) (by simp);refine⟨L,(E.put v.isMap (p:=m) _).congr e (fun p hp=>?_),⟨fun p hp=>?_,fun p q hp A u=>?_⟩,?_⟩
 ·by_cases b:p=m
  ·subst b;simp[El]
  ·simp[El,b]
 ·rw[<-e]at hp
  by_cases b:p=m
  ·subst b
   simp only[if_true];refine⟨(z.mono (by have:=x.size;omega)).kept y (.inr fun e=>?_),(Gf C).2.1⟩;exact KD z s (by simpa [Value.ownBlock]using e)
  ·have g:CF k rs m p=true:=by simpa [b]using hp
   simp only[b,if_false];refine⟨((l.own p g).1.below r).kept y (.inr fun e=>?_),(l.own p g).2⟩;exact KD ((l.own p g).1.below r) s (by simpa [Value.ownBlock]using e)
 ·rw[<-e]at hp A
  by_cases b:p=m
  ·by_cases d:q=m
   ·exact absurd (b.trans d.symm) u
   ·have:=i q (by simpa [d]using A)
    simp only[b,d,if_true,if_false];omega
  ·have g:CF k rs m p=true:=by simpa [b]using hp
   have:=i p g;by_cases d:q=m
   ·simp only[b,d,if_true,if_false]
    omega
   ·simp only[b,d,if_false]
    exact l.two p q g (by simpa [d]using A) u
 ·exact(Ad x r).trans (CK y (Nat.le_trans x.size r.size) fun j I=>by cases I;exact Nat.le_refl _)
theorem Em.done{w1 w3:World}{kg bg g:Nat}(h:Em w wr k rs n f D)(l:Below wr.heap.size wr w1)(r:Below w1.heap.size w1 w3)
  (m:Own w3 wr.heap.size (.slice (some ⟨kg,0,none⟩) (sizeOfK k) (sizeOfK k)) (List.replicate (sizeOfK k) 0)) (d:Ar w3 wr.heap.size (.slice (some ⟨bg,0,none⟩) K K) (List.replicate K ByteArray.empty))
  (s:w3.heap[g]? =some (.cells #[.slice a n c,.slice (some ⟨kg,0,none⟩) (sizeOfK k) (sizeOfK k),.slice (some ⟨bg,0,none⟩) K K,.map (some w.heap.size)] 396 (0,0))):
  PS w3 w.heap.size ⟨g,a,n,c,kg,sizeOfK k,bg,K,w.heap.size⟩ (sizeOfK k) (CF k rs n) f (fun p=>(rs.getD p .dflt).xs) (List.replicate (sizeOfK k) 0) (List.replicate K ByteArray.empty)/\Below w.heap.size w w3:=by
 obtain⟨u,v,q,i⟩:=h;have b:=Ad l r;refine⟨⟨⟨by simpa using s,by simpa using m.mono i.size,by simpa using d.mono i.size⟩,⟨D,u.kept (CN b none) (by simp),v⟩,q.below b,fun p hp=>⟨?_,fun e=>?_⟩,Nat.le_refl _⟩,Ad i b⟩
 ·have:(decide (p<n)&&AU k (rs.getD p .dflt).xs)=true:=hp
  simp only[Bool.and_eq_true,decide_eq_true_eq]at this;exact this.1
 ·have l:=((q.own p hp).1.lt (k:=(f p).1) rfl).2
  have x:=(m.lt (k:=kg) rfl).1;simp only at e;omega
theorem Fj(w:World)(o:Obj):Below w.heap.size w (w.alloc o):=(Below.refl _ _).alloc (Nat.le_refl _) _
theorem Em.endA(h:Em w wr k rs n f D)(b:K<=128):
  PS (((wr.drew.alloc (.cells (madeCells #[.int .u64 0] (sizeOfK k)) 265)).alloc (.cells (madeCells #[.string ByteArray.empty] K) 9)).alloc (.cells #[.slice a n c,.slice (some ⟨wr.heap.size,0,none⟩) (sizeOfK k) (sizeOfK k),.slice (some ⟨wr.heap.size+1,0,none⟩) K K,.map (some w.heap.size)] 396)) w.heap.size
   ⟨wr.heap.size+1+1,a,n,c,wr.heap.size,sizeOfK k,wr.heap.size+1,K,w.heap.size⟩ (sizeOfK k) (CF k rs n) f (fun p=>(rs.getD p .dflt).xs) (List.replicate (sizeOfK k) 0) (List.replicate K ByteArray.empty)/\
  Below w.heap.size w (((wr.drew.alloc (.cells (madeCells #[.int .u64 0] (sizeOfK k)) 265)).alloc (.cells (madeCells #[.string ByteArray.empty] K) 9)).alloc (.cells #[.slice a n c,.slice (some ⟨wr.heap.size,0,none⟩) (sizeOfK k) (sizeOfK k),.slice (some ⟨wr.heap.size+1,0,none⟩) K K,.map (some w.heap.size)] 396)):=by
 have d:=DY k;have o1:=Qk wr.drew (sizeOfK k) (by omega);have o2:=Kx (wr.drew.alloc (.cells (madeCells #[.int .u64 0] (sizeOfK k)) 265)) K (by omega) _ rfl;rw[Bc]at o2;refine h.done (w1:=wr.drew) ((Below.refl _ _).drew) ?_ ?_ ?_ ?_
 ·exact Ad (Ad (Fj _ _) (Fj _ _)) (Fj _ _)
 ·exact(o1.below (Fj _ _)).below (Fj _ _)
 ·exact(o2.below (Fj _ _)).mono (by show wr.heap.size<=wr.heap.size+1;omega)
 ·have:=heap_alloc_new ((wr.drew.alloc (.cells (madeCells #[.int .u64 0] (sizeOfK k)) 265)).alloc (.cells (madeCells #[.string ByteArray.empty] K) 9)) (.cells #[.slice a n c,.slice (some ⟨wr.heap.size,0,none⟩) (sizeOfK k) (sizeOfK k),.slice (some ⟨wr.heap.size+1,0,none⟩) K K,.map (some w.heap.size)] 396)
  rw[Bc,Bc]at this;exact this
theorem Em.endB(h:Em w wr k rs n f D)(b:K<=128):
  PS (((wr.drew.alloc (.cells (madeCells #[.string ByteArray.empty] K) 9)).alloc (.cells (madeCells #[.int .u64 0] (sizeOfK k)) 265)).alloc (.cells #[.slice a n c,.slice (some ⟨wr.heap.size+1,0,none⟩) (sizeOfK k) (sizeOfK k),.slice (some ⟨wr.heap.size,0,none⟩) K K,.map (some w.heap.size)] 396)) w.heap.size
   ⟨wr.heap.size+1+1,a,n,c,wr.heap.size+1,sizeOfK k,wr.heap.size,K,w.heap.size⟩ (sizeOfK k) (CF k rs n) f (fun p=>(rs.getD p .dflt).xs) (List.replicate (sizeOfK k) 0) (List.replicate K ByteArray.empty)/\
  Below w.heap.size w (((wr.drew.alloc (.cells (madeCells #[.string ByteArray.empty] K) 9)).alloc (.cells (madeCells #[.int .u64 0] (sizeOfK k)) 265)).alloc (.cells #[.slice a n c,.slice (some ⟨wr.heap.size+1,0,none⟩) (sizeOfK k) (sizeOfK k),.slice (some ⟨wr.heap.size,0,none⟩) K K,.map (some w.heap.size)] 396)):=by
 have d:=DY k;have o1:=Kx wr.drew K (by omega) _ rfl;have o2:=Qk (wr.drew.alloc (.cells (madeCells #[.string ByteArray.empty] K) 9)) (sizeOfK k) (by omega);rw[Bc]at o2;refine h.done (w1:=wr.drew) ((Below.refl _ _).drew) ?_ ?_ ?_ ?_
 ·exact Ad (Ad (Fj _ _) (Fj _ _)) (Fj _ _)
 ·exact(o2.below (Fj _ _)).mono (by show wr.heap.size<=wr.heap.size+1;omega)
 ·exact(o1.below (Fj _ _)).below (Fj _ _)
 ·have:=heap_alloc_new ((wr.drew.alloc (.cells (madeCells #[.string ByteArray.empty] K) 9)).alloc (.cells (madeCells #[.int .u64 0] (sizeOfK k)) 265)) (.cells #[.slice a n c,.slice (some ⟨wr.heap.size+1,0,none⟩) (sizeOfK k) (sizeOfK k),.slice (some ⟨wr.heap.size,0,none⟩) K K,.map (some w.heap.size)] 396)
  rw[Bc,Bc]at this;exact this
theorem jS(K:Nat)(a:Option Addr)(n c:Nat)(rs:List RV)(w:World)(ad:0<sizeOfK (K:Int))(h:Aj w a n rs)(hs:Af rs)(hn:n<=1048576):
  Calls Tryz.prog 278 #[.int .i64 (K:Int),.slice a n c] w fun e w'=> ∃g kg bg f,e=.returned (.pointer (some ⟨g,0,none⟩))/\
   PS w' w.heap.size ⟨g,a,n,c,kg,sizeOfK (K:Int),bg,K,w.heap.size⟩ (sizeOfK (K:Int)) (CF (K:Int) rs n) f (fun p=>(rs.getD p .dflt).xs) (List.replicate (sizeOfK (K:Int)) 0) (List.replicate K ByteArray.empty)/\Below w.heap.size w w':=by
 obtain rfl:=h.1;have E:=DZ ad;have hK:K<=128:=by omega
 have a0:=DY (K:Int);have aw:= @run_makeMap Tryz.prog;have Hh:=Ab h;have Hs:=Ab hs;have HZ:=Ab (Hg (K:Int));have T:=Ab (ZA (sizeOfK (K:Int)) (by omega));have R:=Ab (Of K (by omega));have ar:=Ab (fun wx=>Qk wx (sizeOfK (K:Int)) (by omega));have aq:=Ab (fun wx=>Kx wx K (by omega) _ rfl);have L:Hid (Em w (w.alloc (.map #[] 0)) (K:Int) rs 0 (fun _=>(0,0)) (.map [])):=Ab ⟨World.ownsMap_made _ _ _ _,(A6.empty (El 0 fun _=>(0,0))).congr (fun p=>by simp[CF]) (fun p hp=>by cases hp),⟨fun p hp=>by simp[CF]at hp,fun p q hp=>by simp[CF]at hp⟩,(Below.refl _ _).alloc (Nat.le_refl _) _⟩;clear h hs ad E;have V:Hid (∀xs,AU (K:Int) xs=true->xs.length=sizeOfK (K:Int)):=Ab fun xs hx=>(Gf hx).2.1;go_enter Tryz.func278,Tryz.ntmps278;go_wp2;go_loopw [11] (fun i wr=> ∃k:Nat,∃f:Nat->Nat×Nat,∃D:DataW Value,k<=rs.length/\i=.int .i64 k/\Hid (Em w wr (K:Int) rs k f D)) (fun i _=>rs.length-(intOf i).toNat)
 case atStart=>exact⟨0,_,_,Nat.zero_le _,rfl,L⟩
 case round=>
  obtain⟨k,f,D,hk,rfl,HB⟩:=hrel;clear L;by_cases z:k<rs.length
  ·have W:=Aa HB
   have hR:=(Aa Hh).below W.2.2.2;obtain⟨b,off,rfl,Z⟩:=hR.at z;obtain⟨au,av⟩:=Z k z;have u:=hR.2.1 k z;have ap:(k:Int)<(rs.length:Int):=by omega
   have az:=(Aa Hs) k;have v:=Ab (fun w2 l m=>W.no (w2:=w2) l m);have x:=Ab (fun(w2 w3:World) (g2 c2:Nat) l m ho hm hg=>W.yes (w2:=w2) (w3:=w3) (g2:=g2) (c2:=c2) l m ho hm hg);generalize rs.getD k .dflt=r at*;have y:Below wr.heap.size wr (wr.alloc (.cells #[.slice r.a r.n r.c,.string r.s] 73)):=(Below.refl _ _).alloc (Nat.le_refl _) _;have C:=u.below y;have HV:=Ab (L0 r.a r.n r.c r.xs (K:Int) _ C);have Y:=GI wr (.slice r.a r.n r.c) (.string r.s);have O:=Ab (fun w2 (l:Below (wr.alloc (.cells #[.slice r.a r.n r.c,.string r.s] 73)).heap.size (wr.alloc (.cells #[.slice r.a r.n r.c,.string r.s] 73)) w2)=>(Y.below l).1);have P:=Ab (fun w2 (l:Below (wr.alloc (.cells #[.slice r.a r.n r.c,.string r.s] 73)).heap.size (wr.alloc (.cells #[.slice r.a r.n r.c,.string r.s] 73)) w2)=>G6 r.a r.n r.c r.xs w2 (C.below l) (by omega));have I:=Ab y;have ai:=Ab W.1;clear W hR Z u C y Y;cases m:AU (K:Int) r.xs
   ·have aj:=Ab (fun w2 l=>Aa v w2 l m)
    clear v x O P;go_wp2_with (go_at_call 179;refine(Aa HV).mono ?_;rintro e w2 ⟨he,d⟩;obtain rfl:=Nq he;rw[m];have af:=Ab d;clear d he);go_roundw
    case rel=>exact⟨k+1,f,D,by omega,by go_num,Ab (Aa aj w2 (Ad (Aa I) (Aa af)))⟩
    case measure=>simp[intOf];omega
   ·have hl:=Ab (Aa V r.xs m)
    have ac:Hid (0<r.xs.length):=Ab (G1.1 m).1;have al:=Ab (fun(w3 w4:World) (g2 c2:Nat) (l:Below wr.heap.size wr w3) ho hm hg=>Aa x w3 w4 g2 c2 l m ho hm hg);clear v x HB;go_wp2_with (first|(go_at_call 179;refine(Aa HV).mono ?_;rintro e w2 ⟨he,d⟩;obtain rfl:=Nq he;rw[m];have hx:=Aa O w2 d;have HC:=Ab (Aa P w2 d);have H:=Ab (Ad (Aa I) d);clear d he)|(go_at_call 253;refine(Aa HC).mono ?_;rintro e w3 ⟨v3,rfl,A,X⟩;obtain⟨g3,c3,ae,am,an,_,_⟩:=A.at (Aa ac);rw[Aa hl]at ae;subst ae;have ak:=Ab A;have J:=Ab (Ad (Aa H) X);clear A X am an)|(at_mapUpdate;refine wpList_mapUpdate_own _ rfl (.tmp 20) (.tmp 21) (.tmp 24) 394 rfl 3 40 IN Tryz.underlying394 CX w.heap.size k D rfl ((Aa ai).kept (CN (Aa J) none) (by simp)) (by unfold maxLen;omega) (.int .i64 (k:Int)) (.slice (some ⟨g3,0,none⟩) (sizeOfK (K:Int)) c3) (.int .i64 (k:Int)) rfl rfl (K1 (by omega)) (.held (.slice (some ⟨g3,0,none⟩) (sizeOfK (K:Int)) c3)) [] rfl ?_;intro w4 ab aa;have ah:=Ab ab;have ag:=Ab aa;clear ab aa));go_roundw
    case rel=>exact⟨k+1,_,_,by omega,by go_num,Ab (Aa al w3 w4 g3 c3 (Aa J) ((Aa ak).mono (Aa H).size) (Aa ah) (Aa ag))⟩
    case measure=>simp[intOf];omega
  ·have ao:k=rs.length:=by omega
   subst ao;have ay:=Aa T;have ax:=Aa R;clear T R Hh Hs V;go_wp2_with fail;go_region_held (fun _=>True) (go_keep) (first|(go_at_call 176;refine(Aa HZ _).mono ?_;rintro e w' ⟨rfl,rfl⟩))
   all_goals go_wp2
   all_goals go_ret
   all_goals first|exact⟨_,_,_,f,rfl,(Aa HB).endA hK⟩|exact⟨_,_,_,f,rfl,(Aa HB).endB hK⟩
end Go.Proofs.YtfpmnekaockodaaGreatDoor
