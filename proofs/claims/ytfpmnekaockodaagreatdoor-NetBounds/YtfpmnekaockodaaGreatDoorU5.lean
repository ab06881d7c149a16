/- Laws for the proof. -/
import Derived.Test.YtfpmnekaockodaaGreatDoorU4
namespace Go.Proofs.YtfpmnekaockodaaGreatDoor
open Go.RowKit Go.Sort
set_option linter.all false
set_option maxRecDepth 4000
set_option maxHeartbeats 8000000
variable {D:DataW Value}{bs:List ByteArray}{kn:List Nat}{left:Lit->Bool}{B sz r c first p m:Nat}{S:Nat->Bool}{cs:Nat->List Nat}{f:Nat->Nat×Nat}{v:PV}{w w2:World}
def Dr(S:Nat->Bool)(cs:Nat->List Nat)(kn:List Nat)(left:Lit->Bool)(p:Nat):Bool:=S p&&(left (.int .i64 (p:Int))|| !decide (cnt (dropL (cs p) kn)=0))
def H6(cs:Nat->List Nat)(kn:List Nat)(left:Lit->Bool)(p:Nat):List Nat:=if left (.int .i64 (p:Int))=true then cs p else dropL (cs p) kn
def Kb(S:Nat->Bool)(cs:Nat->List Nat)(kn:List Nat)(left:Lit->Bool)(N first:Nat):Prop:=
 first<=N/\(first<N->S first=true/\left (.int .i64 (first:Int))=false/\cnt (dropL (cs first) kn)=1)/\∀p:Nat,S p=true->left (.int .i64 (p:Int))=false->cnt (dropL (cs p) kn)=1->first<=p
def EA(left:Lit->Bool)(p:Nat):Lit->Bool:=fun z=>left z&& !z.sameKey (.int .i64 (p:Int))
theorem Hm(left:Lit->Bool)(p q:Nat):EA left p (.int .i64 (q:Int))=(left (.int .i64 (q:Int))&& !decide (q=p)):=by
 unfold EA;rw[rF]
def GH(w wr:World)(B:Nat)(v:PV)(sz:Nat)(S:Nat->Bool)(f:Nat->Nat×Nat)(cs:Nat->List Nat)(kn:List Nat)(bs:List ByteArray)(r:Nat)(left:Lit->Bool)(c first:Nat)(D:DataW Value):Prop:=
 A2 wr B v kn bs/\wr.ranges Tryz.prog 3 CY v.bm r v.n D left c/\A7 D (Dr S cs kn left) (Eo sz f)/\Lf wr B sz (Dr S cs kn left) f (H6 cs kn left)/\Kb S cs kn left v.n first/\Below B w wr/\B<=r
theorem GH.start{w0:World}(o:A2 w B v kn bs)(a:A7 D S (Eo sz f))(b:Lf w B sz S f cs)
  (g:w0.ranges Tryz.prog 3 CY v.bm w.heap.size v.n D (Maps.has D) (Maps.size D)) (q:w.grownBy w0 none) (j:B<=w.heap.size):GH w w0 B v sz S f cs kn bs w.heap.size (Maps.has D) (Maps.size D) v.n D:=by
 have d:Below w.heap.size w w0:=CK q (Nat.le_refl _) (fun k s=>by cases s);have e:∀p,Dr S cs kn (Maps.has D) p=S p:=fun p=>by unfold Dr;rw[a.has];cases S p<;>simp
 have i:Dr S cs kn (Maps.has D)=S:=funext e;refine⟨o.below d,g,by rw[i];exact a,?_,⟨Nat.le_refl _,fun h=>absurd h (Nat.lt_irrefl _),fun p hp l=>?_⟩,d.mono j,j⟩
 ·rw[i]
  refine⟨fun p hp=>?_,b.two⟩;unfold H6;rw[a.has,if_pos hp];exact⟨((b.below d).own p hp).1,(b.own p hp).2⟩
 ·rw[a.has,hp]at l;cases l
def NxP(w w2:World)(B:Nat)(v:PV)(sz:Nat)(S:Nat->Bool)(f:Nat->Nat×Nat)(cs:Nat->List Nat)(kn:List Nat)(bs:List ByteArray)(r:Nat)(left:Lit->Bool)(c first:Nat)(D:DataW Value)(p:Nat):Prop:=
 A2 w2 B v kn bs/\w2.ranges Tryz.prog 3 CY v.bm r v.n D (EA left p) c/\A7 D (Dr S cs kn left) (Eo sz f)/\Lf w2 B sz (Dr S cs kn left) f (H6 cs kn (EA left p))/\Kb S cs kn left v.n first/\Below B w w2/\B<=r
theorem GH.step{wr w1:World}{c1:Nat}{b I:Nat}(h:GH w wr B v sz S f cs kn bs r left c first D)
  (z:∀p,S p=true->p<v.n/\(f p).1≠v.kg) (C:f p=(b,I)) (hp:Dr S cs kn left p=true) (hl:left (.int .i64 (p:Int))=true) (l:w1.ranges Tryz.prog 3 CY v.bm r v.n D (EA left p) c1) (x:wr.grownBy w1 (some r)) (u:B<=w.heap.size):
  Own w1 B (.slice (some ⟨b,0,none⟩) sz I) (cs p)/\(cs p).length=sz/\A2 w1 B v kn bs/\v.kg≠b/\p<v.n/\S p=true/\
  ∀w2,w1.grownBy w2 (some b)->Own w2 B (.slice (some ⟨b,0,none⟩) sz I) (dropL (cs p) kn)->NxP w w2 B v sz S f cs kn bs r left c1 first D p:=by
 obtain⟨X,J,Y,o,Z,K,V⟩:=h;have g:S p=true:=by unfold Dr at hp;rw[Bool.and_eq_true]at hp;exact hp.1
 have i:∀s t m,wr.heap[r]? ≠some (.cells s t m):=by
  obtain⟨es,H,T,seen,c0,_,_,_,_,hr,_⟩:=J;intro s t m e;rw[hr]at e;cases e
 have A:=(o.own p hp).1;have a:=(o.own p hp).2;unfold H6 at A a;rw[if_pos hl]at A a;rw[C]at A;have R:=N6 A J;have o1:=A.kept x (.inr fun e=>R (by simpa [Value.ownBlock]using e));have W:=X.nocells x i;have y:v.kg≠b:=fun e=>(z p g).2 (by rw[C];exact e.symm);have L:Lf w1 B sz (Dr S cs kn left) f (H6 cs kn left):=o.kept x (fun q E=>N6 (o.own q E).1 J);refine⟨o1,a,W,y,(z p g).1,g,fun w2 d o2=>?_⟩;have O:b≠v.bm:=KJ o1 l.owns;have Q:b≠r:=N6 o1 l;refine⟨W.row d o1 y,l.kept d (fun e=>O (by simpa using e.symm)) (fun e=>Q (by simpa using e.symm)),Y,⟨fun q E=>?_,o.two⟩,Z,(K.trans (CK x (Nat.le_trans u K.size) fun j N=>by cases N;exact V)).trans (CK d (Nat.le_trans u (Nat.le_trans K.size x.size)) fun j N=>by cases N;exact(o1.lt (k:=b) rfl).1),V⟩;by_cases e:q=p
 ·subst e
  unfold H6;rw[Hm,if_neg (by simp),C];exact⟨o2,by rw[Ju];exact a⟩
 ·have P:(f q).1≠b:=by have:=o.two q p E hp e;rw[C]at this;exact this
  have:=L.own q E;unfold H6 at this⊢;rw[Hm,show(left (.int .i64 (q:Int))&& !decide (q=p))=left (.int .i64 (q:Int)) by simp[e]];exact⟨this.1.kept d (.inr fun e=>P (by simpa [Value.ownBlock]using e)),this.2⟩
theorem Kb.more{N:Nat}(h:Kb S cs kn left N first)(hp:p<N)(s:S p=true):Kb S cs kn (EA left p) N (if cnt (dropL (cs p) kn)=1 then min first p else first):=by
 obtain⟨o,l,n⟩:=h;by_cases j:cnt (dropL (cs p) kn)=1
 ·rw[if_pos j]
  refine⟨by omega,fun g=>?_,fun q k i d=>?_⟩
  ·by_cases u:first<p
   ·rw[show min first p=first by omega]at g⊢
    obtain⟨a,b,c⟩:=l g;exact⟨a,by rw[Hm,b];rfl,c⟩
   ·rw[show min first p=p by omega]
    exact⟨s,by rw[Hm];simp,j⟩
  ·rw[Hm]at i
   by_cases e:q=p
   ·omega
   ·have:=n q k (by simpa [e]using i) d
    omega
 ·rw[if_neg j]
  refine⟨o,fun g=>?_,fun q k i d=>?_⟩
  ·obtain⟨a,b,c⟩:=l g
   exact⟨a,by rw[Hm,b];rfl,c⟩
  ·rw[Hm]at i
   by_cases e:q=p
   ·subst e;exact absurd d j
   ·exact n q k (by simpa [e]using i) d
theorem NxP.stay(h:NxP w w2 B v sz S f cs kn bs r left c first D p)
  (hp:p<v.n) (l:S p=true) (o:¬cnt (dropL (cs p) kn)=0):GH w w2 B v sz S f cs kn bs r (EA left p) c (if cnt (dropL (cs p) kn)=1 then min first p else first) D:=by
 obtain⟨d,g,a,b,i,j,k⟩:=h;have e:Dr S cs kn left=Dr S cs kn (EA left p):=by
  funext q;unfold Dr;rw[Hm];by_cases e:q=p
  ·subst e;simp[o]
  ·simp[e]
 rw[e]at a b;exact⟨d,g,a,b,i.more hp l,j,k⟩
theorem NxP.gone{w3:World}{c3:Nat}(h:NxP w w2 B v sz S f cs kn bs r left c first D p)
  (hp:p<v.n) (J:S p=true) (L:cnt (dropL (cs p) kn)=0) (x:w3.ranges Tryz.prog 3 CY v.bm r v.n (D.del (.int .i64 (p:Int))) (EA left p) c3) (ht:w2.mapTurned w3 v.bm) (l:B<=v.bm) (o:B<=w.heap.size):
  GH w w3 B v sz S f cs kn bs r (EA left p) c3 first (D.del (.int .i64 (p:Int))):=by
 obtain⟨C,y,E,z,H,A,I⟩:=h;have s:=ht.grown
 have e:∀q,(Dr S cs kn left q&& !decide (q=p))=Dr S cs kn (EA left p) q:=fun q=>by
  unfold Dr;rw[Hm];by_cases e:q=p
  ·subst e;simp[L]
  ·simp[e]
 have u:∀b t m,w2.heap[v.bm]? ≠some (.cells b t m):=by
  obtain⟨P,k,K,_⟩:=y.owns;intro b t m e;rw[K]at e;cases e
 have g:=H.more hp J;rw[if_neg (by omega)]at g;have d:=z.kept s (fun q a=>KJ (z.own q a).1 y.owns);refine⟨C.nocells s u,x,(E.del p).congr e (fun _ _=>rfl),⟨fun q a=>?_,fun q O a i=>?_⟩,g,A.trans (CK s (Nat.le_trans o A.size) fun j N=>by cases N;exact l),I⟩
 ·rw[<-e,Bool.and_eq_true]at a
  exact d.own q a.1
 ·rw[<-e,Bool.and_eq_true]at a i
  exact d.two q O a.1 i.1
def Dz(S:Nat->Bool)(cs:Nat->List Nat)(kn:List Nat)(p:Nat):Bool:=S p&& !decide (cnt (dropL (cs p) kn)=0)
theorem GH.done{wr:World}(h:GH w wr B v sz S f cs kn bs r left c first D)(i:∀y,left y=false)
  (j:∀p,S p=true->p<v.n/\(f p).1≠v.kg) (g:B<=v.bm):
  PS wr B v sz (Dz S cs kn) f (fun p=>dropL (cs p) kn) kn bs/\Below B w wr/\first<=v.n/\(first<v.n->S first=true/\cnt (dropL (cs first) kn)=1)/\∀p,S p=true->cnt (dropL (cs p) kn)=1->first<=p:=by
 obtain⟨o,s,k,d,b,u,z⟩:=h;have e:Dr S cs kn left=Dz S cs kn:=by funext q;unfold Dr Dz;rw[i];simp
 have l:H6 cs kn left=fun p=>dropL (cs p) kn:=by funext q;unfold H6;rw[i];simp
 rw[e]at k d;rw[l]at d;refine⟨⟨o,⟨D,s.owns,k⟩,d,fun p hp=>?_,g⟩,u,b.1,fun a=>⟨(b.2.1 a).1,(b.2.1 a).2.2⟩,fun p hp x=>b.2.2 p hp (i _) x⟩;unfold Dz at hp;rw[Bool.and_eq_true]at hp;exact j p hp.1
theorem qG(B:Nat)(v:PV)(sz:Nat)(S:Nat->Bool)(f:Nat->Nat×Nat)(cs:Nat->List Nat)(kn:List Nat)(bs:List ByteArray)(w:World)(h:PS w B v sz S f cs kn bs)(hB:B<=w.heap.size)(hz:sz<=1048576)(af:kn.length<=1048576)(hn:v.n<=1048576):
  Calls Tryz.prog 279 #[.pointer (some ⟨v.g,0,none⟩)] w fun e w'=> ∃first:Nat,e=.returned (.tuple #[.int .i64 (first:Int),.bool (decide (first<v.n))])/\PS w' B v sz (Dz S cs kn) f (fun p=>dropL (cs p) kn) kn bs/\Below B w w'/\
   first<=v.n/\(first<v.n->S first=true/\cnt (dropL (cs first) kn)=1)/\∀p,S p=true->cnt (dropL (cs p) kn)=1->first<=p:=by
 obtain⟨h1,⟨D0,h2,h3⟩,h4,h5,h6⟩:=h;obtain⟨x0,x1,x2,x3⟩:=h1.cells;have I:=Ab h5;have k:=Ab (fun w0 O hg=>GH.start (w0:=w0) h1 h3 h4 O hg hB);have H2:=Ab h2;clear h1 h2 h3 h4 h5;go_enter Tryz.func279,Tryz.ntmps279;go_wp2_with (first|(at_range;refine wpList_range_own _ rfl _ 394 rfl 3 40 IQ Tryz.underlying394 CY v.bm v.n D0 rfl (Aa H2) ?_;intro w0 y W ag;have Q:=Ab (Aa k w0 y W);clear y W ag k H2));go_frame;go_loopw [5] (fun i wr=> ∃(first c:Nat) (left:Lit->Bool) (D:DataW Value),i=.int .i64 (first:Int)/\first<=1048576/\Hid (GH w wr B v sz S f cs kn bs w.heap.size left c first D)) (fun _ wr=>wr.rangeLeft v.bm w.heap.size)
 case atStart=>exact⟨_,_,_,_,rfl,hn,Q⟩
 case round=>
  obtain⟨first,c,left,D,rfl,V,H⟩:=hrel;clear Q x0 x1 x2 x3;have l:=Ab (Aa H).2.1.left_eq;go_wp2_with (first|(at_next;refine dJ rfl _ rfl v.bm w.heap.size v.n sz D left c (Dr S cs kn left) f (Aa H).2.2.1 rfl (Aa H).2.1 ?_ ?_))
  ·intro Y
   have HD:=Ab ((Aa H).done Y (Aa I) h6);clear H Y I l;go_wp2;go_ret2;exact⟨first,by simp,Aa HD⟩
  ·intro p gp cp w1 c1 hf hp Y A al X aj
   obtain⟨o1,q,p1,ae,N,K,T⟩:=(Aa H).step (Aa I) hf hp Y A X hB;have E:=oi B (some ⟨gp,0,none⟩) cp (cs p) (some ⟨v.kg,0,none⟩) kn.length v.kc kn w1 (by rw[q];exact o1) p1.known.at'.2 (.inr fun ad e=>by cases e;simp[Value.ownBlock,ae]) (by omega) af;rw[q]at E;have C:=Ab E;have P:=Ab (fun w2 (ho:Own w2 B (.slice (some ⟨gp,0,none⟩) sz cp) (dropL (cs p) kn))=>GP (some ⟨gp,0,none⟩) sz cp (dropL (cs p) kn) w2 (by have:=ho.at';rw[this.1];exact this.2) hz);have HP:=Ab T;obtain⟨-,y1, -, -⟩:=p1.cells;clear E T p1 o1 q A Y hp hf X H;rcases Nat.lt_trichotomy (cnt (dropL (cs p) kn)) 1 with J|J|J
   ·have L:cnt (dropL (cs p) kn)=0:=by omega
    rw[L]at P;have x:=Ab (fun w2 w3 c3 (s:NxP w w2 B v sz S f cs kn bs w.heap.size left c1 first D p) O ht=>s.gone (w3:=w3) (c3:=c3) N K L O ht h6 hB);clear J L;go_wp2_with (first|(go_at_call 306;refine(Aa C).mono ?_;rintro e w2 ⟨rfl,a,d⟩;have o:=Ab (Aa P w2 a);have b:=Ab (Aa HP w2 d a);obtain⟨z0,z1,z2,z3⟩:=(Aa b).1.cells;clear a d)|(go_at_call 180;refine(Aa o).mono ?_;rintro e w9 ⟨rfl,j⟩;obtain rfl:=j.symm;clear j)|(at_delete;refine wpList_delete_ranges _ rfl _ _ 394 3 rfl 40 IQ Tryz.underlying394 CY v.bm w.heap.size v.n D (EA left p) c1 rfl (Aa b).2.1 (.int .i64 (p:Int)) (.int .i64 (p:Int)) rfl (K8 (by omega)) ?_;intro w3 c3 u ak ac;rw[show(fun z=>EA left p z&& !z.sameKey (.int .i64 (p:Int)))=EA left p from Maps.strike_twice left _]at u;have R:=Ab (Aa x w2 w3 c3 (Aa b) u ac);clear u ac;go_frame));go_roundw
    case rel=>exact⟨first,c3,_,_,rfl,V,R⟩
    case measure=>rw[(Aa R).2.1.left_eq,Aa l];omega
   ·rw[J]at P
    have x:=Ab (fun w2 (s:NxP w w2 B v sz S f cs kn bs w.heap.size left c1 first D p)=>s.stay N K (by omega));rw[J,if_pos rfl]at x;have Z:=fun wx ts t=>Jc first p ts t wx
    obtain⟨mn,aa⟩:∃mn,mn=min first p:=⟨_,rfl⟩
    rw[<-aa]at Z x;have ab:mn<=1048576:=by omega
    clear J aa;go_wp2_with (first|(go_at_call 306;refine(Aa C).mono ?_;rintro e w2 ⟨rfl,a,d⟩;have o:=Ab (Aa P w2 a);have b:=Ab (Aa HP w2 d a);clear a d)|(go_at_call 180;refine(Aa o).mono ?_;rintro e w9 ⟨rfl,j⟩;obtain rfl:=j.symm;clear j));go_roundw
    case rel=>exact⟨mn,c1,_,_,rfl,ab,Ab (Aa x w2 (Aa b))⟩
    case measure=>rw[(Aa b).2.1.left_eq,Aa l];omega
   ·have x:=Ab (fun w2 (s:NxP w w2 B v sz S f cs kn bs w.heap.size left c1 first D p)=>s.stay N K (by omega))
    rw[if_neg (by omega)]at x;have ah:((cnt (dropL (cs p) kn):Int)==0)=false:=by rw[beq_eq_false_iff_ne];omega
    have ai:((cnt (dropL (cs p) kn):Int)==1)=false:=by rw[beq_eq_false_iff_ne];omega
    clear J;generalize cnt (dropL (cs p) kn)=cr at*;go_wp2_with (first|(go_at_call 306;refine(Aa C).mono ?_;rintro e w2 ⟨rfl,a,d⟩;have o:=Ab (Aa P w2 a);have b:=Ab (Aa HP w2 d a);clear a d)|(go_at_call 180;refine(Aa o).mono ?_;rintro e w9 ⟨rfl,j⟩;obtain rfl:=j.symm;clear j));go_roundw
    case rel=>exact⟨first,c1,_,_,rfl,V,Ab (Aa x w2 (Aa b))⟩
    case measure=>rw[(Aa b).2.1.left_eq,Aa l];omega
theorem Ar.at'{a:Option Addr}{n:Nat}{ss:List ByteArray}(h:Ar w B (.slice a n c) ss):n=ss.length/\As w a ss.length ss:=by
 obtain⟨d,c1,e,b⟩:=h.texts;simp only[Value.slice.injEq]at e;obtain⟨rfl,rfl,rfl⟩:=e;exact⟨rfl,b⟩
theorem VX(B:Nat)(v:PV)(kn:List Nat)(bs:List ByteArray)(rs:List RV)(p:Nat)(w:World)(h:A2 w B v kn bs)(A:Aj w v.a v.n rs)(L:Af rs)(hp:p<v.n)(V:v.n<=1048576)(J:shorts bs)(C:bs.length<=1048576):
  Calls Tryz.prog 307 #[.pointer (some ⟨v.g,0,none⟩),.int .i64 (p:Int)] w fun e w'=>e=.returned (.string (Do bs (rs.getD p .dflt).xs (rs.getD p .dflt).s))/\Below w.heap.size w w':=by
 obtain⟨g,a,n,c,kg,kc,bg,bc,bm⟩:=v;simp only at*;obtain⟨b,off,rfl,o⟩:=A.at hp;obtain⟨O,P⟩:=o p hp;have i:=A.2.1 p hp;have R:=L p;obtain⟨x0,x1,T,x3⟩:=h.cells;have l:=h.blocks.at'.2;have q:=h.lt;have Q:(p:Int)<(n:Int):=by omega
 generalize rs.getD p .dflt=r at*;have d:Below w.heap.size w (w.alloc (.cells #[.slice r.a r.n r.c,.string r.s] 73)):=(Below.refl _ _).alloc (Nat.le_refl _) _;have H:=GT w (.slice r.a r.n r.c) (.string r.s);have u:(st (Br bs r.xs bs.length)).size<=1048576:=by rw[Xu (I4 _ _ _)];exact PM bs r.xs J _
 have X:=cell_regrown H.1;have Y:=cell_regrown H.2;have Z:=cell_regrown ((d.cell (p:=⟨g,2,none⟩) q).trans T);have z:=Cr (W:=w.alloc (.cells #[.slice r.a r.n r.c,.string r.s] 73)) (fun w' j=>QR (some ⟨bg,0,none⟩) bs.length bc bs r.a r.n r.c r.xs w' ((l.below d).below j) J C ((i.below d).below j) (by omega));have k:=Cr (W:=w.alloc (.cells #[.slice r.a r.n r.c,.string r.s] 73)) (fun w' j=>cJ r.s (st (Br bs r.xs bs.length)) w' (by omega) u);have B1:=Ab d;clear o A L i l H u d h q;go_enter Tryz.func307,Tryz.ntmps307;go_wp2_with fail;refine wp_region_quiet_below (by kernel_rfl) (by kernel_rfl) ?_
 repeat (with_reducible refine wpQuiet_step (fun K y=>?_);go_simp;first|(with_reducible refine y _ ?_;clear y K)|(apply Exists.intro;apply And.intro;(intro _;first|(go_at_call 198;exact z _ _)|(go_at_call 315;exact k _ _));with_reducible refine y _ ?_;clear y K))
 refine wpQuiet_nil ?_;intro _ E;obtain⟨⟨N,I⟩,x⟩:=E;subst x;go_wp2;go_ret;exact⟨rfl,Ad (Aa B1) (below_regrown _ N I)⟩
def toldTo(k:Int)(kn:List Nat)(bs:List ByteArray)(m:Nat):List (List Nat×ByteArray):=((List.range m).filter fun b=>Ai kn b).map fun(b:Nat)=>(unitL k (b:Int),bs.getD b ByteArray.empty)
theorem jt{k:Int}(h:Ai kn m=true):toldTo k kn bs (m+1)=toldTo k kn bs m++[(unitL k (m:Int),bs.getD m ByteArray.empty)]:=by
 unfold toldTo;rw[List.range_succ,List.filter_append,List.map_append];simp only[List.filter_cons,List.filter_nil,h,if_true,List.map_cons,List.map_nil]
theorem nG{k:Int}(h:Ai kn m=false):toldTo k kn bs (m+1)=toldTo k kn bs m:=by
 unfold toldTo;rw[List.range_succ,List.filter_append,List.map_append];simp only[List.filter_cons,List.filter_nil,h,Bool.false_eq_true,if_false,List.map_nil,List.append_nil]
theorem SS(k:Int)(kn:List Nat)(bs:List ByteArray)(m:Nat):(toldTo k kn bs m).length<=m:=by
 unfold toldTo;rw[List.length_map];have:=List.length_filter_le (fun b=>Ai kn b) (List.range m);simpa using this
theorem qm(B:Nat)(v:PV)(kn:List Nat)(bs:List ByteArray)(w:World)(h:A2 w B v kn bs)(ai:bs.length<=1048576)(ae:kn.length<=1048576):
  Calls Tryz.prog 280 #[.pointer (some ⟨v.g,0,none⟩)] w fun e w'=> ∃j q c1 s,e=.returned (.slice j q c1)/\Es w w' j q c1 (toldTo (bs.length:Int) kn bs bs.length) s:=by
 obtain⟨g,a,n,c,kg,kc,bg,bc,bm⟩:=v;simp only at*;obtain⟨x0,x1,X,x3⟩:=h.cells;simp only at x0 x1 X x3;have H:=Ab h;clear h;go_enter Tryz.func280,Tryz.ntmps280;go_wp2;go_loopw [3,11] (fun o i wr=> ∃k:Nat,∃j:Option Addr,∃q c1:Nat,∃s:List RV,k<=bs.length/\i=.int .i64 k/\o=.slice j q c1/\Hid (Es w wr j q c1 (toldTo (bs.length:Int) kn bs k) s)) (fun _ i _=>bs.length-(intOf i).toNat)
 case atStart=>exact⟨0,none,0,0,[],Nat.zero_le _,rfl,rfl,Ab (Es.nil w)⟩
 case round=>
  obtain⟨k,j,q,c1,s,hk,rfl,rfl,C⟩:=hrel;clear x0 x1 X x3;by_cases R:k<bs.length
  ·have K:=(Aa H).below (Aa C).2.2.2.2
   obtain⟨x0,x1,X,x3⟩:=K.cells;simp only at x0 x1 X x3;obtain⟨b9,ah,e9,O⟩:=(K.blocks.at'.2).at R;simp only[Option.some.injEq,Addr.mk.injEq,and_true]at e9;obtain⟨rfl,rfl⟩:=e9;have ac:=O k R;rw[Nat.zero_add]at ac;have ag:(k:Int)<(bs.length:Int):=by omega
   have d:=Ab (Vc (some ⟨kg,0,none⟩) kn.length kc kn k wr K.known.at'.2 ae (by omega));have z:=Ab (fun h=>jt (k:=(bs.length:Int)) (kn:=kn) (bs:=bs) (m:=k) h);have y:=Ab (fun h=>nG (k:=(bs.length:Int)) (kn:=kn) (bs:=bs) (m:=k) h);have Q:=K.lt;simp only at Q;have af:s.length<=1048576:=by
    have:=congrArg List.length (Aa C).2.2.2.1;rw[List.length_map]at this;have:=SS (bs.length:Int) kn bs k;omega
   clear K O;generalize bs.getD k ByteArray.empty=t at*;cases l:Ai kn k
   ·rw[l]at d
    have Y:=Ab (Aa y l);clear z y;go_wp2_with (go_at_call 238;refine(Aa d).mono ?_;rintro e w1 ⟨rfl,b⟩;have u:=Ab b;clear b);go_roundw
    case rel=>exact⟨k+1,j,q,c1,s,by omega,by go_num,rfl,Ab (by rw[Aa Y];exact(Aa C).below (Aa u))⟩
    case measure=>simp[intOf];omega
   ·rw[l]at d
    have Y:=Ab (Aa z l);have I:=Ab (fun w1=>V3 (bs.length:Int) (k:Int) w1 (by omega));clear z y;obtain⟨Z,W⟩:∃Z,Z=unitL (bs.length:Int) (k:Int):=⟨_,rfl⟩;rw[<-W]at Y I;clear W;go_wp2_with (first|(go_at_call 238;refine(Aa d).mono ?_;rintro e w1 ⟨rfl,b⟩;have z2:=(b.cell (p:=⟨g,2,none⟩) Q).trans X;have u:=Ab b;clear b)|(go_at_call 258;refine(Aa I _).mono ?_;rintro e w2 ⟨v2,rfl,A,L⟩;obtain⟨a2,c2,rfl,V⟩:=A.row;have E:=Ab A;have ab:=Ab V;have x:=Ab ((Aa C).below (Ad (Aa u) L));clear A L V)|(at_builtin;refine RI rfl (.tmp 22) (.tmp 32) rfl w.heap.size (.slice j q c1) s ⟨a2,Z.length,c2,Z,t⟩ rfl rfl (Aa x).1 (Aa x).2.2.2.2.size af ?_;intro v3 w3 T P N;obtain⟨a3,m3,c3,rfl,J⟩:=(Aa x).push (Ae.one (Aa ab) (Aa E).cap) (CB.own (Aa E)) T P N;have aa:=Ab J;clear T P N J));go_roundw
    case rel=>exact⟨k+1,a3,m3,c3,_,by omega,by go_num,rfl,Ab (by rw[Aa Y];exact Aa aa)⟩
    case measure=>simp[intOf];omega
  ·have ad:k=bs.length:=by omega
   subst ad;go_wp2;go_ret;exact⟨j,q,c1,s,rfl,Aa C⟩
def Fx(S:Nat->Bool)(cs:Nat->List Nat)(bs:List ByteArray)(rs:List RV)(m:Nat):List (List Nat×ByteArray):=((List.range m).filter fun p=>S p).map fun(p:Nat)=>(cs p,Do bs (rs.getD p .dflt).xs (rs.getD p .dflt).s)
theorem im{rs:List RV}(h:S m=true):Fx S cs bs rs (m+1)=Fx S cs bs rs m++[(cs m,Do bs (rs.getD m .dflt).xs (rs.getD m .dflt).s)]:=by
 unfold Fx;rw[List.range_succ,List.filter_append,List.map_append];simp only[List.filter_cons,List.filter_nil,h,if_true,List.map_cons,List.map_nil]
theorem mN{rs:List RV}(h:S m=false):Fx S cs bs rs (m+1)=Fx S cs bs rs m:=by
 unfold Fx;rw[List.range_succ,List.filter_append,List.map_append];simp only[List.filter_cons,List.filter_nil,h,Bool.false_eq_true,if_false,List.map_nil,List.append_nil]
theorem il(S:Nat->Bool)(cs:Nat->List Nat)(bs:List ByteArray)(rs:List RV)(m:Nat):(Fx S cs bs rs m).length<=m:=by
 unfold Fx;rw[List.length_map];have:=List.length_filter_le (fun b=>S b) (List.range m);simpa using this
theorem qy(B:Nat)(v:PV)(sz:Nat)(S:Nat->Bool)(f:Nat->Nat×Nat)(cs:Nat->List Nat)(kn:List Nat)(bs:List ByteArray)(rs:List RV)(w:World)(h:PS w B v sz S f cs kn bs)(hR:Aj w v.a v.n rs)(hs:Af rs)(hn:v.n<=1048576)(hb:shorts bs)(T:bs.length<=1048576):
  Calls Tryz.prog 281 #[.pointer (some ⟨v.g,0,none⟩)] w fun e w'=> ∃d l c1 q,e=.returned (.slice d l c1)/\Es w w' d l c1 (Fx S cs bs rs v.n) q:=by
 obtain⟨x0,x1,x2,x3⟩:=h.1.cells;have H:=Ab h;have HR:=Ab hR;have HS:=Ab hs;clear h hR hs;go_enter Tryz.func281,Tryz.ntmps281;go_wp2;go_loopw [3,12] (fun o i wr=> ∃k:Nat,∃d:Option Addr,∃l c1:Nat,∃q:List RV,k<=v.n/\i=.int .i64 k/\o=.slice d l c1/\Hid (Es w wr d l c1 (Fx S cs bs rs k) q)) (fun _ i _=>v.n-(intOf i).toNat)
 case atStart=>exact⟨0,none,0,0,[],Nat.zero_le _,rfl,rfl,Ab (Es.nil w)⟩
 case round=>
  obtain⟨k,d,l,c1,q,hk,rfl,rfl,C⟩:=hrel;clear x0 x1 x2 x3;by_cases X:k<v.n
  ·have E:=(Aa H).below (Aa C).2.2.2.2
   obtain⟨x0,x1,x2,x3⟩:=E.1.cells;have aa:(k:Int)<(v.n:Int):=by omega
   have z:=Ab (fun h=>im (S:=S) (cs:=cs) (bs:=bs) (rs:=rs) (m:=k) h);have x:=Ab (fun h=>mN (S:=S) (cs:=cs) (bs:=bs) (rs:=rs) (m:=k) h);have Y:q.length<=1048576:=by
    have:=congrArg List.length (Aa C).2.2.2.1;rw[List.length_map]at this;have:=il S cs bs rs k;omega
   obtain⟨D,Q,j⟩:=E.2.1;have I:=Ab (VX B v kn bs rs k wr E.1 ((Aa HR).below (Aa C).2.2.2.2) (Aa HS) X hn hb T);cases b:S k
   ·obtain⟨az,nz,cz,W⟩:=iy Q j b (by omega)
    have P:=Ab (Aa x b);clear z x E Q j I;go_wp2;go_roundw
    case rel=>exact⟨k+1,d,l,c1,q,by omega,by go_num,rfl,Ab (by rw[Aa P];exact Aa C)⟩
    case measure=>simp[intOf];omega
   ·have W:=iz Q j b (by omega)
    have P:=Ab (Aa z b);have HO:=Ab (E.2.2.1.own k b).1;clear z x E Q j;generalize Do bs (rs.getD k .dflt).xs (rs.getD k .dflt).s=t at*;generalize (f k).1=gk at*;generalize (f k).2=ck at*;obtain⟨Z,O⟩:∃Z,Z=cs k:=⟨_,rfl⟩;rw[<-O]at P HO;clear O;go_wp2_with (first|(go_at_call 307;refine(Aa I).mono ?_;rintro e w2 ⟨rfl,A⟩;have y:=Ab ((Aa HO).below A);have u:=Ab ((Aa C).below A);clear A)|(at_builtin;refine RI rfl (.tmp 25) (.tmp 31) rfl w.heap.size (.slice d l c1) q ⟨some ⟨gk,0,none⟩,sz,ck,Z,t⟩ rfl rfl (Aa u).1 (Aa u).2.2.2.2.size Y ?_;intro v3 w3 N L K;obtain⟨a3,m3,c3,rfl,J⟩:=(Aa u).push (Ae.one (by have:=(Aa y).at';exact this.1▸this.2) (Aa y).cap) (CB.own (Aa y)) N L K;have R:=Ab J;clear N L K J));go_roundw
    case rel=>exact⟨k+1,a3,m3,c3,_,by omega,by go_num,rfl,Ab (by rw[Aa P];exact Aa R)⟩
    case measure=>simp[intOf];omega
  ·have V:k=v.n:=by omega
   subst V;go_wp2;go_ret;exact⟨d,l,c1,q,rfl,Aa C⟩
theorem A2.gb(h:A2 w B v kn bs):v.g≠v.bg:=fun e=>by
 obtain⟨b,a⟩:=h.blocks.blk;have:=h.box;rw[e,a]at this;simp only[Option.some.injEq,Obj.cells.injEq]at this;exact absurd this.2.1 (by decide)
theorem PS.told{w1 w3:World}{b:Nat}{t:ByteArray}(h:PS w B v sz S f cs kn bs)(y:B<=w.heap.size)(l:Below w.heap.size w w1)(d:w1.grownBy w2 (some v.bg))
  (K:Ar w2 B (.slice (some ⟨v.bg,0,none⟩) bs.length v.bc) (bs.set b t)) (i:w2.grownBy w3 (some v.kg)) (s:Own w3 B (.slice (some ⟨v.kg,0,none⟩) kn.length v.kc) (BE kn b true)):PS w3 B v sz S f cs (BE kn b true) (bs.set b t)/\Below B w w3:=by
 obtain⟨n,⟨D,x,O⟩,N,s1,V⟩:=h.below l;obtain⟨W,a⟩:=n.blocks.blk;obtain⟨ck,q⟩:=n.known.blk
 have A:v.g≠v.bg:=fun e=>by
  have:=n.box;rw[e,a]at this;simp only[Option.some.injEq,Obj.cells.injEq]at this;exact absurd this.2.1 (by decide)
 have C:v.g≠v.kg:=fun e=>by
  have:=n.box;rw[e,q]at this;simp only[Option.some.injEq,Obj.cells.injEq]at this;exact absurd this.2.1 (by decide)
 have z:v.bg≠v.kg:=fun e=>by
  rw[e,q]at a;simp only[Option.some.injEq,Obj.cells.injEq]at a;exact absurd a.2.1 (by decide)
 have I:v.bm≠v.bg:=fun e=>by
  obtain⟨X,u,L,_⟩:=x;rw[e,a]at L;cases L
 have J:v.kg≠v.bm:=KJ n.known x
 have H:∀p,S p=true->(f p).1≠v.bg:=fun p hp e=>by
  obtain⟨c2,o⟩:=(N.own p hp).1.blk;rw[e,a]at o;simp only[Option.some.injEq,Obj.cells.injEq]at o;exact absurd o.2.1 (by decide)
 have R:=N.kept d H;have T:=R.kept i (fun p hp=>(s1 p hp).2);have P:=(x.kept d (fun e=>I (by simpa using e))).kept i (fun e=>J (by simpa using e.symm));have Q:=n.box;refine⟨⟨⟨?_,by rw[Ir];exact s,?_⟩,⟨D,P,O⟩,T,s1,V⟩,?_⟩
 ·rw[Ir,List.length_set]
  exact(i.block v.g (Nat.lt_of_lt_of_le n.lt d.size) (by simpa using C)).trans ((d.block v.g n.lt (by simpa using A)).trans Q)
 ·rw[List.length_set]
  exact World.ownsRow.kept K i (.inr fun e=>z (by simpa [Value.ownBlock]using e))
 ·have B1:=l.mono y
  refine(B1.trans (CK d (Nat.le_trans y l.size) fun j E=>by cases E;exact(World.ownsRow.lt n.blocks v.bg rfl).1)).trans (CK i (Nat.le_trans y (Nat.le_trans l.size d.size)) fun j E=>by cases E;exact(s.lt (k:=v.kg) rfl).1)
theorem qk(B:Nat)(v:PV)(sz:Nat)(S:Nat->Bool)(f:Nat->Nat×Nat)(cs:Nat->List Nat)(kn:List Nat)(bs:List ByteArray)(rs:List RV)(p b:Nat)(w:World)(ht:Tab w)(h:PS w B v sz S f cs kn bs)(hB:B<=w.heap.size)(hR:Aj w v.a v.n rs)(hs:Af rs)(hn:v.n<=1048576)(hb:shorts bs)(Z:bs.length<=1048576)(hz:sz<=1048576)(ac:kn.length<=1048576)
  (hp:S p=true) (hf:firstI (cs p)=(b:Int)) (X:b<bs.length) (Y:b/64<kn.length):
  Calls Tryz.prog 282 #[.pointer (some ⟨v.g,0,none⟩),.int .i64 (p:Int)] w fun e w'=>e=.returned (.tuple #[])/\PS w' B v sz S f cs (BE kn b true) (bs.set b (Do bs (rs.getD p .dflt).xs (rs.getD p .dflt).s))/\Below B w w':=by
 obtain⟨x0,x1,x2,x3⟩:=h.1.cells;have af:=(h.2.2.2.1 p hp).1;obtain⟨D,hD,y⟩:=h.2.1;have ad:=XZ hD y hp (by omega);have J:=(h.2.2.1.own p hp).1;have HF:=Ab (JE (some ⟨(f p).1,0,none⟩) sz (f p).2 (cs p) w ht (by have:=J.at';exact this.1▸this.2) hz);rw[hf]at HF;have T:=Ab (fun wx (z:Below w.heap.size w wx)=>VX B v kn bs rs p wx (h.1.below z) (hR.below z) hs af hn hb Z);have I:=h.1.lt;have ab:=h.1.gb;have E:¬v.bg=v.g:=fun e=>ab e.symm;have H:=Ab h;generalize Do bs (rs.getD p .dflt).xs (rs.getD p .dflt).s=t at*;have u:=Ab (fun(w1 w2 w3:World) j ag ae k l=>PS.told (w1:=w1) (w2:=w2) (w3:=w3) (b:=b) (t:=t) h hB j ag ae k l);have ah:(b:Int)<(bs.length:Int):=by omega
 clear hD y J hR hs ht h hf;generalize (f p).1=gp at*;generalize (f p).2=cp at*;go_enter Tryz.func282,Tryz.ntmps282;go_wp2_with (go_at_call 222;refine(Aa HF).mono ?_;rintro e w9 ⟨rfl,K⟩;obtain rfl:=K.symm;clear K);go_region_held (fun w'=>w'.cell? ⟨v.g,2,none⟩=some (.slice (some ⟨v.bg,0,none⟩) bs.length v.bc)) (go_keep) (first|(go_at_call 307;refine(Aa T _ ((Below.refl _ _).drew)).mono ?_;rintro e w1 ⟨rfl,j⟩;have d:Below w.heap.size w w1:=Ad ((Below.refl w.heap.size w).drew) j;have z2:=(d.cell (p:=⟨v.g,2,none⟩) I).trans x2;have z1:=(d.cell (p:=⟨v.g,1,none⟩) I).trans x1;have o:=(Aa H).below d;obtain⟨g9,c9,e9,ai,aj,A,C⟩:=o.1.blocks.at (by omega);simp only[Value.slice.injEq,Option.some.injEq,Addr.mk.injEq,and_true,true_and]at e9;obtain⟨V,W⟩:=e9;subst V W;have y0:=A b X;have y1:=C b;have i:=Ab o;have L:=Ab d;clear o d A C j));have q1:(w1.setCell ⟨v.bg,b,none⟩ (.string t)).cell? ⟨v.g,1,none⟩=some (.slice (some ⟨v.kg,0,none⟩) kn.length v.kc):=(World.cell?_setCell_other (h:=fun h=>E (by injection h)) ..).trans z1;have P:=Ab ((Aa i).1.blocks.stored b t);have x:=Ab (BF w1 v.bg b (.string t));generalize (w1.setCell ⟨v.bg,b,none⟩ (.string t))=w2 at*
 have O:=Ab (show Own w2 B (.slice (some ⟨v.kg,0,none⟩) kn.length v.kc) kn from(Aa i).1.known.kept (Aa x) (.inr fun e=>by
  obtain⟨cb,aa⟩:=(Aa i).1.blocks.blk;obtain⟨ck,q⟩:=(Aa i).1.known.blk;simp only[Value.ownBlock,Option.some.injEq]at e;rw[e,aa]at q;simp only[Option.some.injEq,Obj.cells.injEq]at q;exact absurd q.2.1 (by decide)))
 have R:=Ab (rr B v.kg v.kc kn b w2 (Aa O) Y ac);clear z1 z2 y0 y1 x0 x1 x2 x3 ad;go_wp2_with (go_at_call 308;refine(Aa R).mono ?_;rintro e w3 ⟨rfl,l,k⟩;have Q:=Ab l;have N:=Ab k;clear l k);go_end0;exact⟨rfl,Aa u w1 w2 w3 (Aa L) (Aa x) (Aa P) (Aa N) (Aa Q)⟩
end Go.Proofs.YtfpmnekaockodaaGreatDoor
