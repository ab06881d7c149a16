/- Laws for the proof. -/
import Derived.Test.YtfpmnekaockodaaGreatDoorU7
set_option linter.all false
open Go.Proofs.Tryz
open List renaming mem_cons_self->U,mem_cons_of_mem->Y,getD_eq_getElem?_getD->γ,mem_append_left->ζ
open Nat renaming testBit_xor->α,le_refl->β,eq_of_testBit_eq->δ,xor_zero->ε,xor_assoc->η,lt_of_lt_of_le->θ,xor_self->ι
namespace Go.Proofs.YtfpmnekaockodaaGreatDoor
open Go.RowKit
set_option maxRecDepth 4000
structure EP where
 kd:Int
 nd:Int
 n:Int
 at_:Int
 by_:Int
 a:Option Addr
 dn:Nat
 dc:Nat
 xs:List Nat
def EP.dflt:EP:=⟨0,0,0,0,0,none,0,0,[]⟩
def EP.cells(e:EP):List Value:=[.int .i64 e.kd,.int .i64 e.nd,.int .i64 e.n,.int .i64 e.at_,.int .i64 e.by_,.slice e.a e.dn e.dc]
def DE(w:World)(a:Option Addr)(n:Nat)(c:List EP):Prop:=
 c.length=n/\(∀i,i<n->RowAt w (c.getD i .dflt).a (c.getD i .dflt).dn (c.getD i .dflt).xs)/\(n=0\/∃b off,a=some ⟨b,off,none⟩/\∀i,i<n->∀j u,(c.getD i .dflt).cells[j]? =some u->w.cell? ⟨b,off+i*6+j,none⟩=some u)
def DE.at{w:World}{a:Option Addr}{n:Nat}{c:List EP}(h:DE w a n c){i:Nat}(e:i<n):∃b off,a=some ⟨b,off,none⟩/\∀i,i<n->∀j u,(c.getD i .dflt).cells[j]? =some u->w.cell? ⟨b,off+i*6+j,none⟩=some u:=by
 rcases h.2.2 with d|d
 ·omega
 ·exact d
def DE.below{w w':World}{a:Option Addr}{n:Nat}{d:List EP}(h:DE w a n d)(e:Below w.heap.size w w'):DE w' a n d:=by
 refine⟨h.1,fun i c=>(h.2.1 i c).below e,?_⟩;rcases h.2.2 with k|⟨b,off,rfl,f⟩
 ·exact .inl k
 ·exact .inr ⟨b,off,rfl,fun i c j u g=>(e.cell (World.block_lt_of_cell? w _ (f i c j u g))).trans (f i c j u g)⟩
end Go.Proofs.YtfpmnekaockodaaGreatDoor
namespace Go.Proofs.YtfpmnekaockodaaGreatDoor
open Go.ChangeShapes Go.WideShapes Go.ChangeAt Go.RowKit
set_option maxRecDepth 4000
def Yr:Tryz.prog.cellsOf 42=6:=by kernel_rfl
def qW{W:World}{H:Type}{enc:TypeId×Value->H}{g:Nat}{cs:List Value}{x:DataW H×List MemPlace}(k:cs.length=6)
  (h:DataW.trod enc Tryz.prog W 0 (fun _=>true) true g 42 cs=some x):∃d:EP,cs=d.cells/\RowAt W d.a d.dn d.xs/\d.dn<=9223372036854775807:=by
 match cs,k with
 |[c0,c1,c2,c3,c4,c5],_=>
  obtain⟨e,n,_,_,_,j,f⟩:=DataW.trod_struct underlying42 h;have I:e.length=6:=j;obtain⟨J,m⟩:=Dr (l:=e) (i:=0) (by omega);obtain⟨K,o⟩:=Dr (l:=e) (i:=1) (by omega);obtain⟨L,p⟩:=Dr (l:=e) (i:=2) (by omega);obtain⟨N,q⟩:=Dr (l:=e) (i:=3) (by omega);obtain⟨O,r⟩:=Dr (l:=e) (i:=4) (by omega);obtain⟨P,s⟩:=Dr (l:=e) (i:=5) (by omega);obtain⟨y,rfl⟩:=EW ((f 0 _ rfl).trans m);obtain⟨z,rfl⟩:=EW ((f 1 _ rfl).trans o);obtain⟨C,rfl⟩:=EW ((f 2 _ rfl).trans p);obtain⟨D,rfl⟩:=EW ((f 3 _ rfl).trans q);obtain⟨E,rfl⟩:=EW ((f 4 _ rfl).trans r);obtain⟨a,l,c,xs,rfl,v,u,_⟩:=mU ((f 5 _ rfl).trans s);exact⟨⟨y,z,C,D,E,a,l,c,xs⟩,rfl,v,u⟩
end Go.Proofs.YtfpmnekaockodaaGreatDoor
namespace Go.Proofs.YtfpmnekaockodaaGreatDoor
open Go.ChangeShapes Go.WideShapes Go.ChangeAt Go.RowKit
set_option maxRecDepth 4000
def Wg(Q:Nat->EP->Prop):∀n,(∀i,i<n->∃r,Q i r)->∃rs:List EP,rs.length=n/\∀i,i<n->Q i (rs.getD i .dflt)
 |0,_=>⟨[],rfl,fun i a=>by omega⟩
 |n+1,h=>by
  obtain⟨rs,c,d⟩:=Wg Q n (fun i a=>h i (by omega));obtain⟨r,hp⟩:=h n (by omega);refine⟨rs++[r],by simp[c],fun i a=>?_⟩;by_cases e:i<n
  ·have:=d i e
   rwa[show(rs++[r]).getD i .dflt=rs.getD i .dflt from by simp[γ,List.getElem?_append_left (show i<rs.length by omega)]]
  ·obtain rfl:i=n:=by omega
   rwa[show(rs++[r]).getD i .dflt=r from by simp[γ,<-c]]
def aF{W:World}{H:Type}{enc:TypeId×Value->H}{a:Option Addr}{len cap:Nat}{d:DataW H}{ps:List MemPlace}
  (h:DataW.Trod enc Tryz.prog W 0 (fun _=>true) true 37 (.slice a len cap) d ps):∃C,DE W a len C/\len<=9223372036854775807/\∀i,(C.getD i .dflt).dn<=9223372036854775807:=by
 obtain⟨E,O⟩:=h;rcases Go.Deep.open_slice underlying37 O with⟨e,_⟩|⟨x,l,c,m,n,D,V,e,_,X,P,y,_,S⟩
 ·simp[Value.cells]at e
  obtain⟨rfl,rfl,rfl⟩:=e;exact⟨[],⟨rfl,fun i g=>by omega,.inl rfl⟩,by decide,fun i=>Nat.zero_le _⟩
 ·simp[Value.cells]at e
  obtain⟨rfl,rfl,rfl⟩:=e;have Q:m=cap:=by simpa using y
  have J:=K4 P
  obtain⟨T,z,s⟩:=Wg (fun i d=>(∀j u,d.cells[j]? =some u->W.cell? ((x.add (i*6)).add j)=some u)/\RowAt W d.a d.dn d.xs/\d.dn<=9223372036854775807) len (fun i g=>by
   obtain⟨K,I,N⟩:=S i (by omega);rw[Yr]at I;obtain⟨_,o,f⟩:=World.cells?_some I;obtain⟨p,rfl,R⟩:=qW o N;exact⟨p,fun j u r=>(f j (by have:=(List.getElem?_eq_some_iff.1 r).1;simpa [EP.cells]using this)).trans r,R⟩)
  refine⟨T,⟨z,fun i g=>(s i g).2.1,?_⟩,by omega,fun i=>?_⟩
  ·by_cases L:len=0
   ·exact .inl L
   ·obtain⟨b,off,q⟩:=x
    have v:=(s 0 (by omega)).1 0 _ rfl;have k:q=none:=by simpa [Addr.add]using World.cell?_spot v
    subst k;refine .inr ⟨b,off,rfl,fun i g j u r=>?_⟩;have v:=(s i g).1 j u r;rwa[Ix,Ix]at v
  ·by_cases g:i<len
   ·exact(s i g).2.2
   ·rw[γ,List.getElem?_eq_none (by omega)]
    exact Nat.zero_le _
end Go.Proofs.YtfpmnekaockodaaGreatDoor
namespace Go.Proofs.YtfpmnekaockodaaGreatDoor
open Go.RowKit
set_option maxRecDepth 4000
def Jd{k e:IntKind}{a b c d:Int}(h:a=c)(f:b=d):Ending.returned (.tuple #[.int k a,.int e b])=.returned (.tuple #[.int k c,.int e d]):=by rw[h,f]
def aO{n z:Nat}(h:0<n%z\/n/z=0):kc n z=n/z+1:=if_pos h
def bD{n z:Nat}(h:¬(0<n%z\/n/z=0)):kc n z=n/z:=if_neg h
set_option maxHeartbeats 400000 in
def Ww(n z:Int)(w:World)(R:n<=9223372036854775807):
  Calls Tryz.prog 25 #[.int .i64 n,.int .i64 z] w fun e w'=>e=.returned (.tuple #[.int .i64 (planK n z),.int .i64 (planE n z)])/\w'=w:=by
 by_cases h:n<0\/z<1\/64<z
 ·rw[(MF h).1,(MF h).2]
  by_cases D:n<0
  ·clear h
   go_enter func25,ntmps25;go_wp2;go_ret2;exact⟨rfl,rfl⟩
  ·by_cases E:z<1
   ·clear h
    go_enter func25,ntmps25;go_wp2;go_ret2;exact⟨rfl,rfl⟩
   ·have Q:64<z:=by omega
    clear h;go_enter func25,ntmps25;go_wp2;go_ret2;exact⟨rfl,rfl⟩
 ·obtain⟨N,rfl⟩:∃N:Nat,n=(N:Int):=⟨n.toNat,by omega⟩
  obtain⟨Z,rfl⟩:∃Z:Nat,z=(Z:Int):=⟨z.toNat,by omega⟩;have s:1<=Z:=by omega
  have u:Z<=64:=by omega
  have L:(1:Int)<=(Z:Int):=by omega
  have O:(Z:Int)<=64:=by omega
  have I:(0:Int)<=(N:Int):=by omega
  have eq:(N:Int)/(Z:Int)=((N/Z:Nat):Int):=by simp
  have P:(N:Int)%(Z:Int)=((N%Z:Nat):Int):=by simp
  have S:N/Z<=N:=Nat.div_le_self _ _;have J:N/Z+N%Z<=N:=by
   have D:=Nat.div_add_mod N Z;have E:=Nat.le_mul_of_pos_left (N/Z) (show 0<Z by omega);omega
  have g:=Ab (fun h=>aO (n:=N) (z:=Z) h);have m:=Ab (fun h=>bD (n:=N) (z:=Z) h);have d:=Ab (fun h=>MZ (n:=N) s u h);have f:=Ab (fun h=>UM (n:=N) s u h);generalize kc N Z=k at*;obtain⟨y,j⟩:∃y,planE (N:Int) (Z:Int)=y:=⟨_,rfl⟩;obtain⟨C,l⟩:∃C,planK (N:Int) (Z:Int)=C:=⟨_,rfl⟩;rw[j,l];rw[j,l]at d f;clear h j l;generalize N/Z=q at*;generalize N%Z=r at*;by_cases K:0<r
  ·have a:=Aa g (.inl K)
   have o:=Ab a;by_cases p:128<q+1
   ·have H:(128:Int)<(q:Int)+1:=by omega
    have c:=Ab (Aa f (by omega));clear g m d f a;go_enter func25,ntmps25;go_wp2;go_ret2;exact⟨Jd (Aa c).2.symm (Aa c).1.symm,rfl⟩
   ·have c:=Ab (Aa d (by omega))
    clear g m d f a;go_enter func25,ntmps25;go_wp2;go_ret2;exact⟨Jd (by rw[(Aa c).2,Aa o];go_num) (Aa c).1.symm,rfl⟩
  ·by_cases v:q=0
   ·subst v
    have a:=Aa g (.inr rfl);have o:=Ab a;have c:=Ab (Aa d (by omega));clear g m d f a;go_enter func25,ntmps25;go_wp2;go_ret2;exact⟨Jd (by rw[(Aa c).2,Aa o];rfl) (Aa c).1.symm,rfl⟩
   ·have a:=Aa m (by omega)
    have o:=Ab a;by_cases p:128<q
    ·have c:=Ab (Aa f (by omega))
     clear g m d f a;go_enter func25,ntmps25;go_wp2;go_ret2;exact⟨Jd (Aa c).2.symm (Aa c).1.symm,rfl⟩
    ·have c:=Ab (Aa d (by omega))
     clear g m d f a;go_enter func25,ntmps25;go_wp2;go_ret2;exact⟨Jd (by rw[(Aa c).2,Aa o]) (Aa c).1.symm,rfl⟩
set_option maxHeartbeats 400000 in
def mX(n z:Int)(w:World)(V:n<=9223372036854775807):
  Calls Tryz.prog 46 #[.int .i64 n,.int .i64 z] w fun e w'=>e=.returned (.tuple #[.int .i64 (planK n z),.int .i64 (planE n z)])/\w'=w:=by
 by_cases h:n<0\/z<1\/64<z
 ·rw[(MF h).1,(MF h).2]
  by_cases R:n<0
  ·clear h
   go_enter func46,ntmps46;go_wp2;go_ret2;exact⟨rfl,rfl⟩
  ·by_cases S:z<1
   ·clear h
    go_enter func46,ntmps46;go_wp2;go_ret2;exact⟨rfl,rfl⟩
   ·have T:64<z:=by omega
    clear h;go_enter func46,ntmps46;go_wp2;go_ret2;exact⟨rfl,rfl⟩
 ·obtain⟨N,rfl⟩:∃N:Nat,n=(N:Int):=⟨n.toNat,by omega⟩
  obtain⟨Z,rfl⟩:∃Z:Nat,z=(Z:Int):=⟨z.toNat,by omega⟩;have f:1<=Z:=by omega
  have l:Z<=64:=by omega
  have P:(1:Int)<=(Z:Int):=by omega
  have Q:(Z:Int)<=64:=by omega
  have O:(0:Int)<=(N:Int):=by omega
  by_cases a:128<kc N Z
  ·have j:=(KY N Z 128 f (by decide)).1 a
   have u:(Z:Int)*128<(N:Int):=by omega
   have g:=Ab (UM f l a);obtain⟨o,c⟩:∃o,planE (N:Int) (Z:Int)=o:=⟨_,rfl⟩;obtain⟨p,d⟩:∃p,planK (N:Int) (Z:Int)=p:=⟨_,rfl⟩;rw[c,d];rw[c,d]at g;clear c d a j h;go_enter func46,ntmps46;go_wp2;go_ret2;exact⟨Jd (Aa g).2.symm (Aa g).1.symm,rfl⟩
  ·have j:¬128*Z<N:=fun h=>a ((KY N Z 128 f (by decide)).2 h)
   have u:(N:Int)<=(Z:Int)*128:=by omega
   have g:=Ab (MZ (n:=N) f l (by omega));obtain⟨o,c⟩:∃o,planE (N:Int) (Z:Int)=o:=⟨_,rfl⟩;obtain⟨p,d⟩:∃p,planK (N:Int) (Z:Int)=p:=⟨_,rfl⟩;rw[c,d];rw[c,d]at g;have J:kc N Z<=128:=by omega
   clear c d a j h;go_enter func46,ntmps46;go_wp2;go_loop [6] (fun v=> ∃k:Nat,1<=k/\k<=kc N Z/\v=.int .i64 k) (fun v=>kc N Z-(intOf v).toNat)
   case atStart=>exact⟨1,β _,J0 _ _,rfl⟩
   case round=>
    obtain⟨k,q,I,rfl⟩:=hrel;have L:k*Z<=8192:=Nat.le_trans (Nat.mul_le_mul (show k<=128 by omega) l) (by decide);have D:(k:Int)*(Z:Int)=((k*Z:Nat):Int):=by simp
    have s:=Ab (KY N Z k f q);have C:=Ab (fun h=>bC N Z k f q h);have E:(k:Int)<=128:=by omega
    by_cases r:k*Z<N
    ·have y:=(Aa s).2 r
     generalize k*Z=m at*;generalize kc N Z=K at*;clear s C;go_wp2;go_round
     case rel=>exact⟨k+1,by omega,by omega,by go_num⟩
     case measure=>simp[intOf];omega
    ·have y:¬k<kc N Z:=fun h=>r ((Aa s).1 h)
     have H:=Ab (show kc N Z=k by omega);generalize k*Z=m at*;generalize kc N Z=K at*;clear s C;go_wp2;go_ret2;exact⟨Jd (by rw[(Aa g).2,Aa H]) (Aa g).1.symm,rfl⟩
end Go.Proofs.YtfpmnekaockodaaGreatDoor
namespace Go.Proofs.YtfpmnekaockodaaGreatDoor
open Go.RowKit
set_option maxRecDepth 4000
variable {F:Nat->Prop}{w w1 w2 w':World}
structure Tu(F:Nat->Prop)(w w':World):Prop where
 os:w'.os=w.os
 tape:w'.tape=w.tape
 output:w'.output=w.output
 size:w.heap.size<=w'.heap.size
 block:∀k,k<w.heap.size->¬F k->w'.heap[k]? =w.heap[k]?
def Tu.refl(F:Nat->Prop)(w:World):Tu F w w:=⟨rfl,rfl,rfl,β _,fun _ _ _=>rfl⟩
def Tu.trans{G:Nat->Prop}(h:Tu F w w1)(k:Tu G w1 w2)(e:∀j,j<w.heap.size->G j->F j):Tu F w w2:=
 ⟨k.os.trans h.os,k.tape.trans h.tape,k.output.trans h.output,Nat.le_trans h.size k.size,fun j a c=>(k.block j (θ a h.size) fun d=>c (e j a d)).trans (h.block j a c)⟩
def Tu.of_below(h:Below w.heap.size w w'):Tu F w w':=⟨h.os,h.tape,h.output,h.size,fun j a _=>h.block j a⟩
def Tu.of_gb{r:Option Nat}(h:w.grownBy w' r)(d:∀j,j<w.heap.size->r=some j->F j):Tu F w w':=
 ⟨h.os,h.tape,h.output,h.size,fun j a c=>h.block j a fun e=>c (d j a e.symm)⟩
def Tu.below(h:Tu F w w'){B:Nat}(c:B<=w.heap.size)(d:∀j,j<B->¬F j):Below B w w':=
 ⟨h.os,h.tape,h.output,h.size,fun j a=>h.block j (θ a c) (d j a)⟩
def Tu.then(h:Tu F w w1)(k:Below w1.heap.size w1 w2):Tu F w w2:=h.trans (Tu.of_below (F:=F) k) fun _ _ h=>h
def Tu.after(h:Below w.heap.size w w1)(k:Tu F w1 w2):Tu F w w2:=(Tu.of_below (F:=F) h).trans k fun _ _ h=>h
def Own.blkU{B g:Nat}{v:Value}{xs:List Nat}(h:Own w B v xs)(c:v.ownBlock=some g):∃a,w.heap[g]? =some (.cells a 265 (0,0)):=by
 rcases h.2.2 with⟨rfl,_⟩|⟨g',cap,a,rfl,_,d,_⟩
 ·cases c
 ·simp only[Value.ownBlock,Option.some.injEq]at c
  exact⟨a,c▸d⟩
def Own.tu{B:Nat}{v:Value}{xs:List Nat}(h:Own w B v xs)(ht:Tu F w w')(f:∀j,v.ownBlock=some j->¬F j):Own w' B v xs:=by
 refine⟨h.1,h.2.1,?_⟩;rcases h.2.2 with e|⟨g,cap,c,d,k,a,r⟩
 ·exact .inl e
 ·exact .inr ⟨g,cap,c,d,k,(ht.block g (Array.getElem?_eq_some_iff.1 a).1 (f g (by rw[d];rfl))).trans a,r⟩
def GY{q:Nat}(h:Below w.heap.size w w1)(ht:Tu (fun j=>j=q) w1 w2)(c:w.heap.size<=q):Below w.heap.size w w2:=
 h.trans (ht.below h.size fun j a e=>by omega)
end Go.Proofs.YtfpmnekaockodaaGreatDoor
namespace Go.Proofs.YtfpmnekaockodaaGreatDoor.Ech
variable {B A:List Nat}{x i b:Nat}
def Kh:Nat->Nat->Nat
 |0,_=>0
 |f+1,x=>if x%2=1 then 0 else Kh f (x/2)+1
def low(x:Nat):Nat:=Kh x x
def Oz:∀f x,x≠0->x<=f->x.testBit (Kh f x)=true/\∀j,j<Kh f x->x.testBit j=false
 |0,x,h,a=>absurd (Nat.le_zero.1 a) h
 |f+1,x,h,a=>by
  unfold Kh;by_cases e:x%2=1
  ·rw[if_pos e]
   exact⟨by rw[Nat.testBit_zero];simpa using e,fun j g=>by omega⟩
  ·rw[if_neg e]
   obtain⟨c,d⟩:=Oz f (x/2) (by omega) (by omega);refine⟨by rw[Nat.testBit_succ];exact c,fun j g=>?_⟩;cases j with
   |zero=>rw[Nat.testBit_zero];simpa using e
   |succ j=>rw[Nat.testBit_succ];exact d j (by omega)
def low_bit(h:x≠0):x.testBit (low x)=true:=(Oz x x h (β _)).1
def low_none{j:Nat}(h:x≠0)(a:j<low x):x.testBit j=false:=(Oz x x h (β _)).2 j a
def ne_of_bit(h:x.testBit i=true):x≠0:=by
 rintro rfl;simp at h
def low_unique(h:x.testBit i=true)(d:∀j,j<i->x.testBit j=false):low x=i:=by
 have c:=ne_of_bit h;rcases Nat.lt_trichotomy (low x) i with a|a|a
 ·have:=d _ a;rw[low_bit c]at this;cases this
 ·exact a
 ·have:=low_none c a;rw[h]at this;cases this
def QX(h:x.testBit i=true):low x<=i:=by
 rcases Nat.lt_or_ge i (low x)with a|a
 ·have:=low_none (ne_of_bit h) a;rw[h]at this;cases this
 ·exact a
def S5(b p q:Nat):(b^^^p)^^^(b^^^q)=p^^^q:=by
 apply δ;intro i;simp only[α];cases b.testBit i<;>cases p.testBit i<;>cases q.testBit i<;>rfl
def VM(b p q:Nat):(b^^^p)^^^q=b^^^(p^^^q):=η b p q
def Qh(b p q:Nat):p^^^(b^^^q)=b^^^(p^^^q):=by
 apply δ;intro i;simp only[α];cases b.testBit i<;>cases p.testBit i<;>cases q.testBit i<;>rfl
def eq_of_xor{a:Nat}(h:a^^^b=0):a=b:=by
 apply δ;intro i;have:=congrArg (fun x=>x.testBit i) h;simp only[α,Nat.zero_testBit]at this;revert this;cases a.testBit i<;>cases b.testBit i<;>simp
def Yf(a b:Nat):(a^^^b)^^^b=a:=by rw[η,ι,ε]
def red(B:List Nat)(v:Nat):Nat:=B.foldl (fun r b=>if b≠0/\r.testBit (low b)=true then r^^^b else r) v
def BQ:List Nat->Nat->Nat
 |[],_=>0
 |b::B,x=>if x.testBit (low b)=true then b^^^BQ B x else BQ B x
def Red(B:List Nat):Prop:=(∀b∈B,b≠0)/\B.Pairwise fun a b=>low a<low b/\a.testBit (low b)=false
def Sp(B:List Nat)(x:Nat):Prop:=∃l:List Nat,(∀b∈l,b∈B)/\l.foldr (fun b a=>b^^^a) 0=x
def Sp.zero:Sp B 0:=⟨[],(fun _ h=>by cases h),rfl⟩
def Sp.add(f:b∈B)(h:Sp B x):Sp B (b^^^x):=by
 obtain⟨l,d,rfl⟩:=h;refine⟨b::l,fun c a=>?_,rfl⟩;rcases List.mem_cons.1 a with e|a
 ·rw[e];exact f
 ·exact d c a
def Sp.ind{P:Nat->Prop}(d:P 0)(f:∀b x,b∈B->P x->P (b^^^x)){x:Nat}(h:Sp B x):P x:=by
 obtain⟨l,a,rfl⟩:=h
 induction l with
 |nil=>exact d
 |cons b l g=>exact f b _ (a b U) (g fun c e=>a c (Y _ e))
def Sp.of_mem(h:b∈B):Sp B b:=by
 have:=Sp.add h Sp.zero;rwa[ε]at this
def Sp.xor{y:Nat}(h:Sp B x)(k:Sp B y):Sp B (x^^^y):=by
 refine Sp.ind (P:=fun x=>Sp B (x^^^y)) (by rw[Nat.zero_xor];exact k) (fun b x a c=>?_) h;rw[VM];exact .add a c
def Sp.of(h:∀a∈A,Sp B a)(k:Sp A x):Sp B x:=by
 exact Sp.ind (P:=fun x=>Sp B x) .zero (fun b x c d=>(h _ c).xor d) k
def Sp.mono(h:∀a∈A,a∈B)(k:Sp A x):Sp B x:=k.of fun a c=>.of_mem (h a c)
def U9(B:List Nat)(x y:Nat):BQ B (x^^^y)=BQ B x^^^BQ B y:=by
 induction B with
 |nil=>simp[BQ]
 |cons b B a=>
  simp only[BQ,α,a];cases x.testBit (low b)<;>cases y.testBit (low b)
  ·simp
  ·simp[Qh]
  ·simp[VM]
  ·simp only[Bool.xor_self,if_true]
   rw[S5];rfl
def Mm(h:∀b∈B,x.testBit (low b)=false):BQ B x=0:=by
 induction B with
 |nil=>rfl
 |cons b B c=>
  simp only[BQ];rw[h b U,if_neg (by decide)];exact c fun b a=>h b (Y _ a)
def NM(h:∀b∈B,b.testBit i=false):(BQ B x).testBit i=false:=by
 induction B with
 |nil=>simp[BQ]
 |cons b B e=>
  have c:=h b U;have a:=e fun b d=>h b (Y _ d);simp only[BQ];split
  ·rw[α,c,a];rfl
  ·exact a
def PO(B:List Nat)(x:Nat):Sp B (BQ B x):=by
 induction B with
 |nil=>exact .zero
 |cons b B e=>
  have c:Sp (b::B) (BQ B x):=e.mono fun a d=>Y _ d;simp only[BQ];split
  ·exact .add U c
  ·exact c
def Red.tail(h:Red (b::B)):Red B:=⟨fun a c=>h.1 a (Y _ c),(List.pairwise_cons.1 h.2).2⟩
def Red.head(h:Red (b::B)):∀a∈B,low b<low a/\b.testBit (low a)=false:=(List.pairwise_cons.1 h.2).1
def Red.low_lt(h:Red (b::B)){j:Nat}(d:j<=low b):∀a∈B,a.testBit j=false:=fun a c=>
 low_none (h.1 a (Y _ c)) (Nat.lt_of_le_of_lt d (h.head a c).1)
def Red.nil:Red []:=⟨(fun _ h=>by cases h),List.Pairwise.nil⟩
def Red.two:∀{B:List Nat},Red B->∀{a c:Nat},a∈B->c∈B->a≠c->low a≠low c/\a.testBit (low c)=false
 |[],_,_,_,j,_,_=>by cases j
 |b::B,h,a,c,j,l,f=>by
  rcases List.mem_cons.1 j with k|d
  ·rcases List.mem_cons.1 l with g|e
   ·exact absurd (k.trans g.symm) f
   ·have:=h.head c e
    rw[k];exact⟨by omega,this.2⟩
  ·rcases List.mem_cons.1 l with g|e
   ·have:=h.head a d
    rw[g];exact⟨by omega,h.low_lt (β _) a d⟩
   ·exact h.tail.two d e f
def VF:∀{B:List Nat},Red B->∀{b:Nat},b∈B->BQ B b=b
 |[],_,_,f=>by cases f
 |c::B,h,b,f=>by
  simp only[BQ];rcases List.mem_cons.1 f with e|d
  ·rw[e,if_pos (low_bit (h.1 c U)),Mm (fun a g=>(h.head a g).2),ε]
  ·rw[h.low_lt (β _) b d,if_neg (by decide)]
   exact VF h.tail d
def P2(h:Red B){x:Nat}(k:Sp B x):BQ B x=x:=by
 refine Sp.ind (P:=fun x=>BQ B x=x) (Mm fun b _=>Nat.zero_testBit _) (fun b x a c=>?_) k;rw[U9,VF h a,c]
def VE:∀{B:List Nat},Red B->∀{b:Nat} (x:Nat),b∈B->(BQ B x).testBit (low b)=x.testBit (low b)
 |[],_,_,_,d=>by cases d
 |c::B,h,b,x,d=>by
  simp only[BQ];rcases List.mem_cons.1 d with e|a
  ·have g:=NM (x:=x) (h.low_lt (β (low c)))
   rw[e];split
   ·rename_i f;rw[α,g,low_bit (h.1 c U),f];rfl
   ·rename_i f;rw[g];simpa using f
  ·have j:=VE h.tail x a
   split
   ·rw[α,(h.head b a).2,j];simp
   ·exact j
def Lj:∀{B:List Nat},Red B->∀v,red B v=v^^^BQ B v
 |[],_,v=>by simp[red,BQ]
 |c::B,h,v=>by
  show red B _=_;rw[Lj h.tail];simp only[BQ];by_cases d:v.testBit (low c)=true
  ·rw[if_pos ⟨h.1 c U,d⟩,if_pos d,U9,Mm (fun a e=>(h.head a e).2),ε,η]
  ·rw[if_neg (fun k=>d k.2),if_neg d]
def P0(h:Red B)(v:Nat){b:Nat}(a:b∈B):(red B v).testBit (low b)=false:=by
 rw[Lj h,α,VE h v a];cases v.testBit (low b)<;>rfl
def red_zero(h:Red B)(v:Nat):red B v=0↔Sp B v:=by
 rw[Lj h];constructor
 ·intro k
  rw[eq_of_xor k];exact PO B v
 ·intro k
  rw[P2 h k,ι]
def upd(r b:Nat):Nat:=if b.testBit (low r)=true then b^^^r else b
def put(r:Nat):List Nat->List Nat
 |[]=>[r]
 |b::B=>if low r<low b then r::b::B else b::put r B
def ins(B:List Nat)(v:Nat):List Nat:=if red B v=0 then B else put (red B v) (B.map (upd (red B v)))
def Jb{r x:Nat}:∀{B:List Nat},x∈put r B↔x=r\/x∈B
 |[]=>by simp[put]
 |b::B=>by
  simp only[put];split
  ·simp
  ·rw[List.mem_cons,Jb,List.mem_cons]
   constructor
   ·rintro(h|h|h)
    ·exact .inr (.inl h)
    ·exact .inl h
    ·exact .inr (.inr h)
   ·rintro(h|h|h)
    ·exact .inr (.inl h)
    ·exact .inl h
    ·exact .inr (.inr h)
def Tm(r:Nat):∀B:List Nat,(put r B).length=B.length+1
 |[]=>rfl
 |b::B=>by
  simp only[put];split
  ·rfl
  ·simp[Tm r B]
def UQ{r:Nat}:∀{C:List Nat},(C.Pairwise fun a b=>low a<low b/\a.testBit (low b)=false)->(∀c∈C,low c≠low r/\c.testBit (low r)=false/\r.testBit (low c)=false)->
  (put r C).Pairwise fun a b=>low a<low b/\a.testBit (low b)=false
 |[],_,_=>by simp[put]
 |c::C,h,k=>by
  obtain⟨j,l⟩:=List.pairwise_cons.1 h;simp only[put];split
  ·rename_i g
   refine List.pairwise_cons.2 ⟨fun a f=>?_,h⟩;refine⟨?_,(k a f).2.2⟩;rcases List.mem_cons.1 f with e|d
   ·rw[e];exact g
   ·have:=(j a d).1;omega
  ·rename_i g
   have m:=k c U;refine List.pairwise_cons.2 ⟨fun a f=>?_,UQ l fun a f=>k a (Y _ f)⟩;rcases Jb.1 f with e|d
   ·rw[e];exact⟨by omega,m.2.1⟩
   ·exact j a d
def upd_low(h:Red B){v b:Nat}(g:red B v≠0)(f:b∈B):low (upd (red B v) b)=low b/\upd (red B v) b≠0:=by
 have c:=P0 h v f;have a:=h.1 b f;unfold upd;split
 ·rename_i k
  have m:low b<low (red B v):=by
   have n:=QX k;have o:low b≠low (red B v):=by
    intro e;rw[e,low_bit g]at c;cases c
   omega
  have d:(b^^^red B v).testBit (low b)=true:=by rw[α,low_bit a,c];rfl
  exact⟨low_unique d fun j l=>by rw[α,low_none a l,low_none g (by omega)];rfl,ne_of_bit d⟩
 ·exact⟨rfl,a⟩
def aQ(h:Red B){v b c:Nat}(a:c∈B):(upd (red B v) b).testBit (low c)=b.testBit (low c):=by
 unfold upd;split
 ·rw[α,P0 h v a];simp
 ·rfl
def aR{r:Nat}(c:r≠0):(upd r b).testBit (low r)=false:=by
 unfold upd;split
 ·rename_i a;rw[α,a,low_bit c];rfl
 ·rename_i a;simpa using a
def Red.ins(h:Red B)(v:Nat):Red (ins B v):=by
 unfold Ech.ins;split
 ·exact h
 ·rename_i f
  refine⟨fun x n=>?_,UQ ?_ ?_⟩
  ·rcases Jb.1 n with e|k
   ·rw[e];exact f
   ·obtain⟨b,d,rfl⟩:=List.mem_map.1 k
    exact(upd_low h f d).2
  ·rw[List.pairwise_map]
   refine List.Pairwise.imp_of_mem ?_ h.2;intro a b l d g;rw[(upd_low h f l).1,(upd_low h f d).1,aQ h d];exact g
  ·intro c m
   obtain⟨b,d,rfl⟩:=List.mem_map.1 m;have j:=P0 h v d;rw[(upd_low h f d).1];refine⟨fun e=>?_,aR f,j⟩;rw[e,low_bit f]at j;cases j
def XX(r b:Nat):b=upd r b\/b=r^^^upd r b:=by
 unfold upd;split
 ·right
  rw[Qh,ι,ε]
 ·exact .inl rfl
def Qy(h:Red B)(v x:Nat):Sp (ins B v) x↔Sp (v::B) x:=by
 have q:Sp (v::B) (BQ B v):=(PO B v).mono fun a d=>Y _ d;have g:Sp (v::B) (red B v):=by rw[Lj h];exact(Sp.of_mem U).xor q
 unfold ins;split
 ·rename_i o
  have l:=(red_zero h v).1 o
  exact⟨fun k=>k.mono fun a d=>Y _ d,fun k=>k.of fun a d=>by
   rcases List.mem_cons.1 d with e|c
   ·rw[e];exact l
   ·exact .of_mem c⟩
 ·rename_i o
  have n:∀b∈B,Sp (put (red B v) (B.map (upd (red B v)))) b:=fun b j=>by
   have m:Sp (put (red B v) (B.map (upd (red B v)))) (upd (red B v) b):=.of_mem (Jb.2 (.inr (List.mem_map.2 ⟨b,j,rfl⟩)));rcases XX (red B v) b with e|e
   ·rw[e];exact m
   ·rw[e];exact(Sp.of_mem (Jb.2 (.inl rfl))).xor m
  constructor
  ·intro k
   refine k.of fun a d=>?_;rcases Jb.1 d with e|c
   ·rw[e];exact g
   ·obtain⟨b,j,rfl⟩:=List.mem_map.1 c
    have f:Sp (v::B) b:=.of_mem (Y _ j);unfold upd;split
    ·exact f.xor g
    ·exact f
  ·intro k
   refine k.of fun a d=>?_;rcases List.mem_cons.1 d with e|c
   ·have l:v=red B v^^^BQ B v:=by rw[Lj h,Yf]
    have p:=(Sp.of_mem (Jb.2 (.inl rfl))).xor ((PO B v).of n);rw[<-l]at p;rw[e];exact p
   ·exact n a c
def jG(B:List Nat)(v:Nat):(ins B v).length<=B.length+1:=by
 unfold ins;split
 ·omega
 ·rw[Tm,List.length_map];exact β _
def basis(l:List Nat):List Nat:=l.foldl ins []
def OH:∀(l B:List Nat),Red B->Red (l.foldl ins B)/\(∀x,Sp (l.foldl ins B) x↔Sp (B++l) x)/\(l.foldl ins B).length<=B.length+l.length
 |[],B,h=>⟨h,fun x=>by simp,by simp⟩
 |v::l,B,h=>by
  obtain⟨g,j,m⟩:=OH l (ins B v) (h.ins v);refine⟨g,fun x=>?_,?_⟩
  ·show Sp (l.foldl ins (ins B v)) x↔_
   rw[j];constructor
   ·intro k
    refine k.of fun a d=>?_;rcases List.mem_append.1 d with d|d
    ·refine((Qy h v a).1 (.of_mem d)).mono fun c f=>?_
     rcases List.mem_cons.1 f with e|f
     ·rw[e];simp
     ·simp[f]
    ·exact .of_mem (by simp[d])
   ·intro k
    refine k.of fun a d=>?_;rcases List.mem_append.1 d with d|d
    ·exact((Qy h v a).2 (.of_mem (Y _ d))).mono fun c f=>ζ _ f
    ·rcases List.mem_cons.1 d with e|d
     ·rw[e]
      exact((Qy h v v).2 (.of_mem U)).mono fun c f=>ζ _ f
     ·exact .of_mem (List.mem_append_right _ d)
  ·show(l.foldl ins (ins B v)).length<=_
   have:=jG B v;simp only[List.length_cons];omega
def red_basis(l:List Nat):Red (basis l):=(OH l [] .nil).1
def sp_basis(l:List Nat)(x:Nat):Sp (basis l) x↔Sp l x:=(OH l [] .nil).2.1 x
def Wi:∀{A:List Nat},Red A->∀{x:Nat},BQ A x≠0->∃a∈A,low (BQ A x)=low a
 |[],_,x,h=>by simp[BQ]at h
 |c::A,h,x,d=>by
  simp only[BQ]at d⊢;split
  ·have g:=h.1 c U
   refine⟨c,U,low_unique ?_ fun j f=>?_⟩
   ·rw[α,low_bit g,NM (h.low_lt (β _))];rfl
   ·rw[α,low_none g f,NM (h.low_lt (Nat.le_of_lt f))];rfl
  ·rename_i l
   rw[if_neg l]at d;obtain⟨a,k,e⟩:=Wi h.tail d;exact⟨a,Y _ k,e⟩
def QY(h:Red A){x:Nat}(k:Sp A x)(c:x≠0):∃a∈A,low x=low a:=by
 have e:=P2 h k;have:=Wi h (x:=x) (by rw[e];exact c);rwa[e]at this
def Wd(f:Red A)(k:Red B)(o:∀x,Sp A x↔Sp B x):∀a∈A,a∈B:=by
 intro a g;obtain⟨b,l,h⟩:=QY k ((o a).1 (.of_mem g)) (f.1 a g);have s:Sp A (a^^^b):=(Sp.of_mem g).xor ((o b).2 (.of_mem l));have p:BQ A (a^^^b)=0:=by
  refine Mm fun c m=>?_;rw[α];by_cases e:a=c
  ·subst e
   rw[low_bit (f.1 a g),h,low_bit (k.1 b l)];rfl
  ·obtain⟨d,r,j⟩:=QY k ((o c).1 (.of_mem m)) (f.1 c m)
   have q:=f.two g m e;have n:b≠d:=by
    rintro rfl;exact q.1 (h.trans j.symm)
   rw[q.2,j,(k.two l r n).2];rfl
 rw[P2 f s]at p;rw[eq_of_xor p];exact l
def Sw:∀{A B:List Nat},Red A->Red B->(∀x,x∈A↔x∈B)->A=B
 |[],[],_,_,_=>rfl
 |[],b::B,_,_,h=>by have:=(h b).2 U;cases this
 |a::A,[],_,_,h=>by have:=(h a).1 U;cases this
 |a::A,b::B,c,d,h=>by
  have e:a=b:=by
   rcases List.mem_cons.1 ((h a).1 U)with e|l
   ·exact e
   ·rcases List.mem_cons.1 ((h b).2 U)with e|m
    ·exact e.symm
    ·have n:=(d.head a l).1
     have o:=(c.head b m).1;omega
  subst e;have f:a∉A:=fun k=>by have:=(c.head a k).1;omega
  have g:a∉B:=fun k=>by have:=(d.head a k).1;omega
  rw[Sw c.tail d.tail fun x=>?_];constructor
  ·intro k
   rcases List.mem_cons.1 ((h x).1 (Y _ k))with e|j
   ·rw[e]at k;exact absurd k f
   ·exact j
  ·intro k
   rcases List.mem_cons.1 ((h x).2 (Y _ k))with e|j
   ·rw[e]at k;exact absurd k g
   ·exact j
def uniq(a:Red A)(c:Red B)(d:∀x,Sp A x↔Sp B x):A=B:=
 Sw a c fun x=>⟨Wd a c d x,Wd c a (fun y=>(d y).symm) x⟩
end Go.Proofs.YtfpmnekaockodaaGreatDoor.Ech
