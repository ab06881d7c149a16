/-
  Laws that the proof stands on.
-/
import Derived.Test.YtfpmnekaockodaaGreatDoorU7
import Derived.Laws.Cover2
namespace Go.Proofs.YtfpmnekaockodaaGreatDoor
open Go.ChangeShapes Go.WideShapes Go.ChangeAt Go.RowKit
set_option linter.unusedVariables false
set_option linter.unusedSimpArgs false
set_option maxRecDepth 4000
variable {fuel:Nat}{H:Type}{v:Value}{W:World}
theorem Xr : Tryz.prog.globalNamed "bucketline/soliton.plain" = some 1 := by kernel_rfl
theorem XY:(Tryz.prog.globals[1]?).map (·.type)=some 362:=by kernel_rfl
theorem Yp:Tryz.prog.cellsOf 362=127:=by kernel_rfl
theorem Ym:Tryz.prog.cellsOf 112=1:=by kernel_rfl
def CI:List Int:=[524288,174762,87381,52428,34952,24966,18724,14563,11650,9532,7943,6721,5761,4993,4369,3855,3426,3066,2759,2496,2269,2072,1899,1747,1613,1493,1387,1291,1205,1127,1057,992,934,881,832,787,745,707,672,639,608,580,554,529,506,485,464,445,427,411,395,380,366,353,340,328,317,306,296,286,277,268,260,252,244,237,230,223,217,210,205,199,194,188,183,179,174,170,165,161,157,154,150,146,143,140,136,133,130,128,125,122,119,117,114,112,110,108,105,103,101,99,97,96,94,92,90,89,87,85,84,82,81,79,78,77,75,74,73,72,71,69,68,67,66,65,64]
theorem hU:CI.length=127:=by decide+kernel
theorem hJ(i:Nat)(a:i<127):CI.getD i 0=((1048576/((i+2)*(i+1)):Nat):Int):=by
 have h:∀j:Fin 127,CI.getD j.val 0=((1048576/((j.val+2)*(j.val+1)):Nat):Int):=by decide+kernel
 exact h ⟨i,a⟩
theorem lX{P:Program}{w:World}{x:String×DataW Unit}{r:List (String×DataW Unit)}(h:laidMet P (x::r) w):laidMet P r w:=by
 obtain⟨ps,⟨g,t,cs,fuel,p,q,_,_,_,_,d,rfl⟩,c,a⟩:=h;exact⟨q,d,(List.nodup_append.1 c).2.1,fun b off hp=>a b off (List.mem_append_right _ hp)⟩
set_option maxRecDepth 100000 in
theorem Zt {W : World} (h : laidMetH Tryz.prog Rows.netChecksRow.laid W) : Lib.TabIs Tryz.prog W "bucketline/soliton.plain" .u32 CI :=
 Lib.tabIs_of_head (rest:=[]) Xr XY Tryz.underlying362 Tryz.underlying112 Ym Yp (lX h)
structure Bt(w:World):Prop where
 tab:Tab w
 pl:B8 w
theorem Bt.below{w w':World}(h:Bt w)(a:Below w.heap.size w w'):Bt w':=⟨h.tab.below a,h.pl.below a⟩
theorem YT(h:laidMetH Tryz.prog Rows.netChecksRow.laid W):Bt W:=
 ⟨Zs h,fun i a=>by rw[(Zt h).cell Xr i (by rw[hU];exact a),hJ i a]⟩
theorem oX{b:Nat}(h:(Lit.float .f64 b).wf=true):b<18446744073709551616:=by simpa [Lit.wf]using h
theorem fk{enc:TypeId×Value->H}{x:DataW H×List MemPlace}
  (h:DataW.trod enc Tryz.prog W 0 (fun _=>true) true fuel 23 [v]=some x):∃b,v=.float .f64 b/\b<18446744073709551616:=by
 cases fuel with
 |zero=>simp[DataW.trod]at h
 |succ fuel=>
  cases v<;>simp[DataW.trod,Tryz.underlying23]at h;obtain⟨⟨rfl,h⟩,_⟩:=h;exact⟨_,rfl,oX h⟩
theorem fz{enc:TypeId×Value->H}{x:DataW H×List MemPlace}
  (h:DataW.trod enc Tryz.prog W 0 (fun _=>true) true fuel 27 [v]=some x):∃a len cap xs,v=.slice a len cap/\IntzAt W a len xs/\len<=9223372036854775807/\(a=none->len=0/\cap=0)/\len<=cap:=by
 rcases open_ints Tryz.underlying27 Tryz.underlying3 (by kernel_rfl) h with⟨f,_⟩|⟨x,l,c,n,f,_,m,r,u,_,d,s⟩
 ·simp only[List.cons.injEq,and_true]at f
  exact⟨_,_,_,[],f,⟨rfl,.inl rfl⟩,by decide,fun _=>⟨rfl,rfl⟩,Nat.le_refl _⟩
 ·simp only[List.cons.injEq,and_true]at f
  have y:n.length=c:=by simpa using u
  refine⟨_,_,_,n.take l,f,⟨by simp;omega,?_⟩,Nat.le_trans m (PW r),(fun e=>by cases e),m⟩;by_cases o:l=0
  ·exact .inl o
  ·obtain⟨b,off,k⟩:=x
   have p:=d 0 (by omega);have g:k=none:=by simpa [Addr.add]using World.cell?_spot p
   subst g;refine .inr ⟨b,off,rfl,fun i q=>?_⟩;have j:=d i (by omega);rw[KX]at j;rw[j];simp[List.getD_eq_getElem?_getD,q]
theorem Yo:Tryz.prog.cellsOf 29=2:=by kernel_rfl
theorem Yn:Tryz.prog.cellsOf 25=10:=by kernel_rfl
theorem pY{enc:TypeId×Value->H}{cs:List Value}{x:DataW H×List MemPlace}(f:cs.length=2)
  (h:DataW.trod enc Tryz.prog W 0 (fun _=>true) true fuel 29 cs=some x):∃d:Er,cs=[.int .i64 d.kd,.slice d.a d.n d.c]/\IntzAt W d.a d.n d.tos/\d.n<=9223372036854775807/\(d.a=none->d.n=0/\d.c=0)/\d.n<=d.c:=by
 match cs,f with
 |[c0,c1],_=>
  obtain⟨g,n,_,_,_,e,j⟩:=DataW.trod_struct Tryz.underlying29 h;have s:g.length=2:=e;obtain⟨u,k⟩:=Fm (l:=g) (i:=0) (by omega);obtain⟨y,m⟩:=Fm (l:=g) (i:=1) (by omega);obtain⟨kd,rfl⟩:=It ((j 0 _ rfl).trans k);obtain⟨a,len,cap,xs,rfl,o,p,q,r⟩:=fz ((j 1 _ rfl).trans m);exact⟨⟨kd,a,len,cap,xs⟩,rfl,o,p,q,r⟩
theorem Vo(Q:Nat->Er->Prop):∀n,(∀i,i<n->∃r,Q i r)->∃rs:List Er,rs.length=n/\∀i,i<n->Q i (rs.getD i .dflt)
 |0,_=>⟨[],rfl,fun i a=>by omega⟩
 |n+1,h=>by
  obtain⟨rs,c,d⟩:=Vo Q n (fun i a=>h i (by omega));obtain⟨r,hp⟩:=h n (by omega);refine⟨rs++[r],by simp[c],fun i a=>?_⟩;by_cases e:i<n
  ·have:=d i e
   rwa[show(rs++[r]).getD i .dflt=rs.getD i .dflt from by simp[List.getD_eq_getElem?_getD,List.getElem?_append_left (show i<rs.length by omega)]]
  ·obtain rfl:i=n:=by omega
   rwa[show(rs++[r]).getD i .dflt=r from by simp[List.getD_eq_getElem?_getD,<-c]]
structure BJ(w:World)(f:Bl):Prop where
 nds:BK w f.a f.n f.ds
 len:f.n<=9223372036854775807
 obj:f.obj.size<=9223372036854775807
 rate:f.rate<18446744073709551616
 tos:∀i,i<f.n->(f.ds.getD i .dflt).n<=9223372036854775807/\((f.ds.getD i .dflt).a=none->(f.ds.getD i .dflt).n=0/\(f.ds.getD i .dflt).c=0)
 caps:∀i,i<f.n->(f.ds.getD i .dflt).n<=(f.ds.getD i .dflt).c
theorem lI{enc:TypeId×Value->H}{y:DataW H×List MemPlace}
  (O:DataW.trod enc Tryz.prog W 0 (fun _=>true) true fuel 22 [v]=some y):∃a len cap f,v=.slice a len cap/\BK W a len f/\len<=9223372036854775807/\∀i,i<len->(f.getD i .dflt).n<=9223372036854775807/\((f.getD i .dflt).a=none->(f.getD i .dflt).n=0/\(f.getD i .dflt).c=0)/\(f.getD i .dflt).n<=(f.getD i .dflt).c:=by
 rcases Go.Deep.open_slice Tryz.underlying22 O with⟨e,_⟩|⟨x,l,c,m,n,D,T,e,_,V,P,z,_,S⟩
 ·simp only[List.cons.injEq,and_true]at e
  exact⟨_,_,_,[],e,⟨rfl,fun i g=>by omega,.inl rfl⟩,by decide,fun i g=>by omega⟩
 ·simp only[List.cons.injEq,and_true]at e
  have Q:m=c:=by simpa using z
  have I:=PW P
  obtain⟨f,C,s⟩:=Vo (fun i d=>(∀j u,[(.int .i64 d.kd:Value),.slice d.a d.n d.c][j]? =some u->W.cell? ((x.add (i*2)).add j)=some u)/\IntzAt W d.a d.n d.tos/\d.n<=9223372036854775807/\(d.a=none->d.n=0/\d.c=0)/\d.n<=d.c) l (fun i g=>by
   obtain⟨K,E,N⟩:=S i (by omega);rw[Yo]at E;obtain⟨_,o,h⟩:=World.cells?_some E;obtain⟨p,rfl,R⟩:=pY o N;exact⟨p,fun j u J=>(h j (by have:=(List.getElem?_eq_some_iff.1 J).1;simpa using this)).trans J,R⟩)
  refine⟨_,_,_,f,e,⟨C,fun i g=>(s i g).2.1,?_⟩,by omega,fun i g=>(s i g).2.2⟩;by_cases L:l=0
  ·exact .inl L
  ·obtain⟨b,off,q⟩:=x
   have r:=(s 0 (by omega)).1 0 _ rfl;have k:q=none:=by simpa [Addr.add]using World.cell?_spot r
   subst k;refine .inr ⟨b,off,rfl,fun i g=>?_⟩;have r:=(s i g).1;refine⟨?_,?_⟩
   ·have:=r 0 _ rfl;rwa[KX,KX]at this
   ·have:=r 1 _ rfl;rwa[KX,KX]at this
theorem ZX{enc:TypeId×Value->H}{base:Nat}{d:DataW H}{ps:List MemPlace}(J:Value.okWide Tryz.prog W .any base 25 v)
  (h:DataW.Trod enc Tryz.prog W 0 (fun _=>true) true 25 v d ps):∃f:Bl,v=f.val/\BJ W f:=by
 obtain⟨cs,rfl,m⟩:=okWide_struct Tryz.underlying25 J;obtain⟨fuel,c⟩:=h;obtain⟨cs⟩:=cs
 match cs,m.trans Yn with
 |[c0,c1,c2,c3,c4,c5,V,X,Y,Z],_=>
  obtain⟨e,n,_,_,_,g,c⟩:=DataW.trod_struct Tryz.underlying25 c;have hl:e.length=10:=g;obtain⟨y0,o⟩:=Fm (l:=e) (i:=0) (by omega);obtain⟨y1,p⟩:=Fm (l:=e) (i:=1) (by omega);obtain⟨y2,q⟩:=Fm (l:=e) (i:=2) (by omega);obtain⟨y3,r⟩:=Fm (l:=e) (i:=3) (by omega);obtain⟨y4,u⟩:=Fm (l:=e) (i:=4) (by omega);obtain⟨y5,y⟩:=Fm (l:=e) (i:=5) (by omega);obtain⟨y6,z⟩:=Fm (l:=e) (i:=6) (by omega);obtain⟨y7,C⟩:=Fm (l:=e) (i:=7) (by omega);obtain⟨y8,D⟩:=Fm (l:=e) (i:=8) (by omega);obtain⟨y9,E⟩:=Fm (l:=e) (i:=9) (by omega);obtain⟨a,len,cap,K,rfl,I,g2,k⟩:=lI ((c 0 _ rfl).trans o);obtain⟨s,rfl,gs⟩:=qp ((c 1 _ rfl).trans p);obtain⟨L,rfl⟩:=It ((c 2 _ rfl).trans q);obtain⟨N,rfl⟩:=It ((c 3 _ rfl).trans r);obtain⟨O,rfl⟩:=It ((c 4 _ rfl).trans u);obtain⟨P,rfl⟩:=It ((c 5 _ rfl).trans y);obtain⟨Q,rfl⟩:=It ((c 6 _ rfl).trans z);obtain⟨R,rfl,gr⟩:=fk ((c 7 _ rfl).trans C);obtain⟨S,rfl⟩:=It ((c 8 _ rfl).trans D);obtain⟨T,rfl⟩:=It ((c 9 _ rfl).trans E);exact⟨⟨a,len,cap,K,s,L,N,O,P,Q,R,S,T⟩,rfl,⟨I,g2,gs,gr,fun i j=>⟨(k i j).1,(k i j).2.1⟩,fun i j=>(k i j).2.2⟩⟩
end Go.Proofs.YtfpmnekaockodaaGreatDoor
namespace Go.Proofs.YtfpmnekaockodaaGreatDoor
open Go.RowKit
set_option linter.unusedVariables false
set_option linter.unusedSimpArgs false
set_option maxRecDepth 4000
theorem I9{k e:IntKind}{a b c d:Int}(h:a=c)(f:b=d):Ending.returned (.tuple #[.int k a,.int e b])=.returned (.tuple #[.int k c,.int e d]):=by rw[h,f]
theorem aF{n z:Nat}(h:0<n%z\/n/z=0):kc n z=n/z+1:=if_pos h
theorem aW{n z:Nat}(h:¬(0<n%z\/n/z=0)):kc n z=n/z:=if_neg h
set_option maxHeartbeats 400000 in
theorem U5(n z:Int)(w:World)(T:n<=9223372036854775807):
  Calls Tryz.prog 25 #[.int .i64 n,.int .i64 z] w fun e w'=>e=.returned (.tuple #[.int .i64 (planK n z),.int .i64 (planE n z)])/\w'=w:=by
 by_cases h:n<0\/z<1\/64<z
 ·rw[(Mz h).1,(Mz h).2]
  by_cases E:n<0
  ·clear h
   go_enter Tryz.func25,Tryz.ntmps25;go_wp2;go_ret2;exact⟨rfl,rfl⟩
  ·by_cases I:z<1
   ·clear h
    go_enter Tryz.func25,Tryz.ntmps25;go_wp2;go_ret2;exact⟨rfl,rfl⟩
   ·have S:64<z:=by omega
    clear h;go_enter Tryz.func25,Tryz.ntmps25;go_wp2;go_ret2;exact⟨rfl,rfl⟩
 ·obtain⟨N,rfl⟩:∃N:Nat,n=(N:Int):=⟨n.toNat,by omega⟩
  obtain⟨Z,rfl⟩:∃Z:Nat,z=(Z:Int):=⟨z.toNat,by omega⟩;have s:1<=Z:=by omega
  have u:Z<=64:=by omega
  have P:(1:Int)<=(Z:Int):=by omega
  have Q:(Z:Int)<=64:=by omega
  have K:(0:Int)<=(N:Int):=by omega
  have eq:(N:Int)/(Z:Int)=((N/Z:Nat):Int):=by simp
  have R:(N:Int)%(Z:Int)=((N%Z:Nat):Int):=by simp
  have V:N/Z<=N:=Nat.div_le_self _ _;have L:N/Z+N%Z<=N:=by
   have E:=Nat.div_add_mod N Z;have I:=Nat.le_mul_of_pos_left (N/Z) (show 0<Z by omega);omega
  have g:=Ab (fun h=>aF (n:=N) (z:=Z) h);have m:=Ab (fun h=>aW (n:=N) (z:=Z) h);have d:=Ab (fun h=>MR (n:=N) s u h);have f:=Ab (fun h=>TC (n:=N) s u h);generalize kc N Z=k at*;obtain⟨C,j⟩:∃C,planE (N:Int) (Z:Int)=C:=⟨_,rfl⟩;obtain⟨D,l⟩:∃D,planK (N:Int) (Z:Int)=D:=⟨_,rfl⟩;rw[j,l];rw[j,l]at d f;clear h j l;generalize N/Z=q at*;generalize N%Z=r at*;by_cases O:0<r
  ·have a:=Aa g (.inl O)
   have o:=Ab a;by_cases p:128<q+1
   ·have J:(128:Int)<(q:Int)+1:=by omega
    have c:=Ab (Aa f (by omega));clear g m d f a;go_enter Tryz.func25,Tryz.ntmps25;go_wp2;go_ret2;exact⟨I9 (Aa c).2.symm (Aa c).1.symm,rfl⟩
   ·have c:=Ab (Aa d (by omega))
    clear g m d f a;go_enter Tryz.func25,Tryz.ntmps25;go_wp2;go_ret2;exact⟨I9 (by rw[(Aa c).2,Aa o];go_num) (Aa c).1.symm,rfl⟩
  ·by_cases y:q=0
   ·subst y
    have a:=Aa g (.inr rfl);have o:=Ab a;have c:=Ab (Aa d (by omega));clear g m d f a;go_enter Tryz.func25,Tryz.ntmps25;go_wp2;go_ret2;exact⟨I9 (by rw[(Aa c).2,Aa o];rfl) (Aa c).1.symm,rfl⟩
   ·have a:=Aa m (by omega)
    have o:=Ab a;by_cases p:128<q
    ·have c:=Ab (Aa f (by omega))
     clear g m d f a;go_enter Tryz.func25,Tryz.ntmps25;go_wp2;go_ret2;exact⟨I9 (Aa c).2.symm (Aa c).1.symm,rfl⟩
    ·have c:=Ab (Aa d (by omega))
     clear g m d f a;go_enter Tryz.func25,Tryz.ntmps25;go_wp2;go_ret2;exact⟨I9 (by rw[(Aa c).2,Aa o]) (Aa c).1.symm,rfl⟩
set_option maxHeartbeats 400000 in
theorem mB(n z:Int)(w:World)(X:n<=9223372036854775807):
  Calls Tryz.prog 46 #[.int .i64 n,.int .i64 z] w fun e w'=>e=.returned (.tuple #[.int .i64 (planK n z),.int .i64 (planE n z)])/\w'=w:=by
 by_cases h:n<0\/z<1\/64<z
 ·rw[(Mz h).1,(Mz h).2]
  by_cases S:n<0
  ·clear h
   go_enter Tryz.func46,Tryz.ntmps46;go_wp2;go_ret2;exact⟨rfl,rfl⟩
  ·by_cases T:z<1
   ·clear h
    go_enter Tryz.func46,Tryz.ntmps46;go_wp2;go_ret2;exact⟨rfl,rfl⟩
   ·have V:64<z:=by omega
    clear h;go_enter Tryz.func46,Tryz.ntmps46;go_wp2;go_ret2;exact⟨rfl,rfl⟩
 ·obtain⟨N,rfl⟩:∃N:Nat,n=(N:Int):=⟨n.toNat,by omega⟩
  obtain⟨Z,rfl⟩:∃Z:Nat,z=(Z:Int):=⟨z.toNat,by omega⟩;have f:1<=Z:=by omega
  have l:Z<=64:=by omega
  have Q:(1:Int)<=(Z:Int):=by omega
  have R:(Z:Int)<=64:=by omega
  have P:(0:Int)<=(N:Int):=by omega
  by_cases a:128<kc N Z
  ·have j:=(KR N Z 128 f (by decide)).1 a
   have u:(Z:Int)*128<(N:Int):=by omega
   have g:=Ab (TC f l a);obtain⟨o,c⟩:∃o,planE (N:Int) (Z:Int)=o:=⟨_,rfl⟩;obtain⟨p,d⟩:∃p,planK (N:Int) (Z:Int)=p:=⟨_,rfl⟩;rw[c,d];rw[c,d]at g;clear c d a j h;go_enter Tryz.func46,Tryz.ntmps46;go_wp2;go_ret2;exact⟨I9 (Aa g).2.symm (Aa g).1.symm,rfl⟩
  ·have j:¬128*Z<N:=fun h=>a ((KR N Z 128 f (by decide)).2 h)
   have u:(N:Int)<=(Z:Int)*128:=by omega
   have g:=Ab (MR (n:=N) f l (by omega));obtain⟨o,c⟩:∃o,planE (N:Int) (Z:Int)=o:=⟨_,rfl⟩;obtain⟨p,d⟩:∃p,planK (N:Int) (Z:Int)=p:=⟨_,rfl⟩;rw[c,d];rw[c,d]at g;have L:kc N Z<=128:=by omega
   clear c d a j h;go_enter Tryz.func46,Tryz.ntmps46;go_wp2;go_loop [6] (fun v=> ∃k:Nat,1<=k/\k<=kc N Z/\v=.int .i64 k) (fun v=>kc N Z-(intOf v).toNat)
   case atStart=>exact⟨1,Nat.le_refl _,JT _ _,rfl⟩
   case round=>
    obtain⟨k,q,J,rfl⟩:=hrel;have O:k*Z<=8192:=Nat.le_trans (Nat.mul_le_mul (show k<=128 by omega) l) (by decide);have D:(k:Int)*(Z:Int)=((k*Z:Nat):Int):=by simp
    have s:=Ab (KR N Z k f q);have C:=Ab (fun h=>aV N Z k f q h);have E:(k:Int)<=128:=by omega
    by_cases r:k*Z<N
    ·have y:=(Aa s).2 r
     generalize k*Z=m at*;generalize kc N Z=K at*;clear s C;go_wp2;go_round
     case rel=>exact⟨k+1,by omega,by omega,by go_num⟩
     case measure=>simp[intOf];omega
    ·have y:¬k<kc N Z:=fun h=>r ((Aa s).1 h)
     have I:=Ab (show kc N Z=k by omega);generalize k*Z=m at*;generalize kc N Z=K at*;clear s C;go_wp2;go_ret2;exact⟨I9 (by rw[(Aa g).2,Aa I]) (Aa g).1.symm,rfl⟩
end Go.Proofs.YtfpmnekaockodaaGreatDoor
namespace Go.Proofs.YtfpmnekaockodaaGreatDoor
open Go.RowKit
set_option linter.unusedVariables false
set_option linter.unusedSimpArgs false
set_option maxRecDepth 4000
variable {F:Nat->Prop}{w w1 w2 w':World}
structure Tu(F:Nat->Prop)(w w':World):Prop where
 os:w'.os=w.os
 tape:w'.tape=w.tape
 output:w'.output=w.output
 size:w.heap.size<=w'.heap.size
 block:∀k,k<w.heap.size->¬F k->w'.heap[k]? =w.heap[k]?
theorem Tu.refl(F:Nat->Prop)(w:World):Tu F w w:=⟨rfl,rfl,rfl,Nat.le_refl _,fun _ _ _=>rfl⟩
theorem Tu.trans{G:Nat->Prop}(h:Tu F w w1)(k:Tu G w1 w2)(e:∀j,j<w.heap.size->G j->F j):Tu F w w2:=
 ⟨k.os.trans h.os,k.tape.trans h.tape,k.output.trans h.output,Nat.le_trans h.size k.size,fun j a c=>(k.block j (Nat.lt_of_lt_of_le a h.size) fun d=>c (e j a d)).trans (h.block j a c)⟩
theorem Tu.of_below(h:Below w.heap.size w w'):Tu F w w':=⟨h.os,h.tape,h.output,h.size,fun j a _=>h.block j a⟩
theorem Tu.of_gb{r:Option Nat}(h:w.grownBy w' r)(d:∀j,j<w.heap.size->r=some j->F j):Tu F w w':=
 ⟨h.os,h.tape,h.output,h.size,fun j a c=>h.block j a fun e=>c (d j a e.symm)⟩
theorem Tu.below(h:Tu F w w'){B:Nat}(c:B<=w.heap.size)(d:∀j,j<B->¬F j):Below B w w':=
 ⟨h.os,h.tape,h.output,h.size,fun j a=>h.block j (Nat.lt_of_lt_of_le a c) (d j a)⟩
theorem Tu.then(h:Tu F w w1)(k:Below w1.heap.size w1 w2):Tu F w w2:=h.trans (Tu.of_below (F:=F) k) fun _ _ h=>h
theorem Tu.after(h:Below w.heap.size w w1)(k:Tu F w1 w2):Tu F w w2:=(Tu.of_below (F:=F) h).trans k fun _ _ h=>h
theorem Own.blkU{B g:Nat}{v:Value}{xs:List Nat}(h:Own w B v xs)(c:v.ownBlock=some g):∃a,w.heap[g]? =some (.cells a 265 (0,0)):=by
 rcases h.2.2 with⟨rfl,_⟩|⟨g',cap,a,rfl,_,d,_⟩
 ·cases c
 ·simp only[Value.ownBlock,Option.some.injEq]at c
  exact⟨a,c▸d⟩
theorem Own.tu{B:Nat}{v:Value}{xs:List Nat}(h:Own w B v xs)(ht:Tu F w w')(f:∀j,v.ownBlock=some j->¬F j):Own w' B v xs:=by
 refine⟨h.1,h.2.1,?_⟩;rcases h.2.2 with e|⟨g,cap,c,d,k,a,r⟩
 ·exact .inl e
 ·exact .inr ⟨g,cap,c,d,k,(ht.block g (Array.getElem?_eq_some_iff.1 a).1 (f g (by rw[d];rfl))).trans a,r⟩
theorem GM{q:Nat}(h:Below w.heap.size w w1)(ht:Tu (fun j=>j=q) w1 w2)(c:w.heap.size<=q):Below w.heap.size w w2:=
 h.trans (ht.below h.size fun j a e=>by omega)
end Go.Proofs.YtfpmnekaockodaaGreatDoor
namespace Go.Proofs.YtfpmnekaockodaaGreatDoor.Ech
variable {B A:List Nat}{x i b:Nat}
def Ka:Nat->Nat->Nat
 |0,_=>0
 |f+1,x=>if x%2=1 then 0 else Ka f (x/2)+1
def low(x:Nat):Nat:=Ka x x
theorem OI:∀f x,x≠0->x<=f->x.testBit (Ka f x)=true/\∀j,j<Ka f x->x.testBit j=false
 |0,x,h,a=>absurd (Nat.le_zero.1 a) h
 |f+1,x,h,a=>by
  unfold Ka;by_cases e:x%2=1
  ·rw[if_pos e]
   exact⟨by rw[Nat.testBit_zero];simpa using e,fun j g=>by omega⟩
  ·rw[if_neg e]
   obtain⟨c,d⟩:=OI f (x/2) (by omega) (by omega);refine⟨by rw[Nat.testBit_succ];exact c,fun j g=>?_⟩;cases j with
   |zero=>rw[Nat.testBit_zero];simpa using e
   |succ j=>rw[Nat.testBit_succ];exact d j (by omega)
theorem low_bit(h:x≠0):x.testBit (low x)=true:=(OI x x h (Nat.le_refl _)).1
theorem low_none{j:Nat}(h:x≠0)(a:j<low x):x.testBit j=false:=(OI x x h (Nat.le_refl _)).2 j a
theorem ne_of_bit(h:x.testBit i=true):x≠0:=by
 rintro rfl;simp at h
theorem low_unique(h:x.testBit i=true)(d:∀j,j<i->x.testBit j=false):low x=i:=by
 have c:=ne_of_bit h;rcases Nat.lt_trichotomy (low x) i with a|a|a
 ·have:=d _ a;rw[low_bit c]at this;cases this
 ·exact a
 ·have:=low_none c a;rw[h]at this;cases this
theorem Q0(h:x.testBit i=true):low x<=i:=by
 rcases Nat.lt_or_ge i (low x)with a|a
 ·have:=low_none (ne_of_bit h) a;rw[h]at this;cases this
 ·exact a
theorem SS(b p q:Nat):(b^^^p)^^^(b^^^q)=p^^^q:=by
 apply Nat.eq_of_testBit_eq;intro i;simp only[Nat.testBit_xor];cases b.testBit i<;>cases p.testBit i<;>cases q.testBit i<;>rfl
theorem V5(b p q:Nat):(b^^^p)^^^q=b^^^(p^^^q):=Nat.xor_assoc b p q
theorem PP(b p q:Nat):p^^^(b^^^q)=b^^^(p^^^q):=by
 apply Nat.eq_of_testBit_eq;intro i;simp only[Nat.testBit_xor];cases b.testBit i<;>cases p.testBit i<;>cases q.testBit i<;>rfl
theorem eq_of_xor{a:Nat}(h:a^^^b=0):a=b:=by
 apply Nat.eq_of_testBit_eq;intro i;have:=congrArg (fun x=>x.testBit i) h;simp only[Nat.testBit_xor,Nat.zero_testBit]at this;revert this;cases a.testBit i<;>cases b.testBit i<;>simp
theorem qc(a b:Nat):(a^^^b)^^^b=a:=by rw[Nat.xor_assoc,Nat.xor_self,Nat.xor_zero]
def red(B:List Nat)(v:Nat):Nat:=B.foldl (fun r b=>if b≠0/\r.testBit (low b)=true then r^^^b else r) v
def BW:List Nat->Nat->Nat
 |[],_=>0
 |b::B,x=>if x.testBit (low b)=true then b^^^BW B x else BW B x
def Red(B:List Nat):Prop:=(∀b∈B,b≠0)/\B.Pairwise fun a b=>low a<low b/\a.testBit (low b)=false
def Sp(B:List Nat)(x:Nat):Prop:=∃l:List Nat,(∀b∈l,b∈B)/\l.foldr (fun b a=>b^^^a) 0=x
theorem Sp.zero:Sp B 0:=⟨[],(fun _ h=>by cases h),rfl⟩
theorem Sp.add(f:b∈B)(h:Sp B x):Sp B (b^^^x):=by
 obtain⟨l,d,rfl⟩:=h;refine⟨b::l,fun c a=>?_,rfl⟩;rcases List.mem_cons.1 a with e|a
 ·rw[e];exact f
 ·exact d c a
theorem Sp.ind{P:Nat->Prop}(d:P 0)(f:∀b x,b∈B->P x->P (b^^^x)){x:Nat}(h:Sp B x):P x:=by
 obtain⟨l,a,rfl⟩:=h
 induction l with
 |nil=>exact d
 |cons b l g=>exact f b _ (a b List.mem_cons_self) (g fun c e=>a c (List.mem_cons_of_mem _ e))
theorem Sp.of_mem(h:b∈B):Sp B b:=by
 have:=Sp.add h Sp.zero;rwa[Nat.xor_zero]at this
theorem Sp.xor{y:Nat}(h:Sp B x)(k:Sp B y):Sp B (x^^^y):=by
 refine Sp.ind (P:=fun x=>Sp B (x^^^y)) (by rw[Nat.zero_xor];exact k) (fun b x a c=>?_) h;rw[V5];exact .add a c
theorem Sp.of(h:∀a∈A,Sp B a)(k:Sp A x):Sp B x:=by
 exact Sp.ind (P:=fun x=>Sp B x) .zero (fun b x c d=>(h _ c).xor d) k
theorem Sp.mono(h:∀a∈A,a∈B)(k:Sp A x):Sp B x:=k.of fun a c=>.of_mem (h a c)
theorem Vz(B:List Nat)(x y:Nat):BW B (x^^^y)=BW B x^^^BW B y:=by
 induction B with
 |nil=>simp[BW]
 |cons b B a=>
  simp only[BW,Nat.testBit_xor,a];cases x.testBit (low b)<;>cases y.testBit (low b)
  ·simp
  ·simp[PP]
  ·simp[V5]
  ·simp only[Bool.xor_self,if_true]
   rw[SS];rfl
theorem Mf(h:∀b∈B,x.testBit (low b)=false):BW B x=0:=by
 induction B with
 |nil=>rfl
 |cons b B c=>
  simp only[BW];rw[h b List.mem_cons_self,if_neg (by decide)];exact c fun b a=>h b (List.mem_cons_of_mem _ a)
theorem NG(h:∀b∈B,b.testBit i=false):(BW B x).testBit i=false:=by
 induction B with
 |nil=>simp[BW]
 |cons b B e=>
  have c:=h b List.mem_cons_self;have a:=e fun b d=>h b (List.mem_cons_of_mem _ d);simp only[BW];split
  ·rw[Nat.testBit_xor,c,a];rfl
  ·exact a
theorem PH(B:List Nat)(x:Nat):Sp B (BW B x):=by
 induction B with
 |nil=>exact .zero
 |cons b B e=>
  have c:Sp (b::B) (BW B x):=e.mono fun a d=>List.mem_cons_of_mem _ d;simp only[BW];split
  ·exact .add List.mem_cons_self c
  ·exact c
theorem Red.tail(h:Red (b::B)):Red B:=⟨fun a c=>h.1 a (List.mem_cons_of_mem _ c),(List.pairwise_cons.1 h.2).2⟩
theorem Red.head(h:Red (b::B)):∀a∈B,low b<low a/\b.testBit (low a)=false:=(List.pairwise_cons.1 h.2).1
theorem Red.low_lt(h:Red (b::B)){j:Nat}(d:j<=low b):∀a∈B,a.testBit j=false:=fun a c=>
 low_none (h.1 a (List.mem_cons_of_mem _ c)) (Nat.lt_of_le_of_lt d (h.head a c).1)
theorem Red.nil:Red []:=⟨(fun _ h=>by cases h),List.Pairwise.nil⟩
theorem Red.two:∀{B:List Nat},Red B->∀{a c:Nat},a∈B->c∈B->a≠c->low a≠low c/\a.testBit (low c)=false
 |[],_,_,_,j,_,_=>by cases j
 |b::B,h,a,c,j,l,f=>by
  rcases List.mem_cons.1 j with k|d
  ·rcases List.mem_cons.1 l with g|e
   ·exact absurd (k.trans g.symm) f
   ·have:=h.head c e
    rw[k];exact⟨by omega,this.2⟩
  ·rcases List.mem_cons.1 l with g|e
   ·have:=h.head a d
    rw[g];exact⟨by omega,h.low_lt (Nat.le_refl _) a d⟩
   ·exact h.tail.two d e f
theorem Vy:∀{B:List Nat},Red B->∀{b:Nat},b∈B->BW B b=b
 |[],_,_,f=>by cases f
 |c::B,h,b,f=>by
  simp only[BW];rcases List.mem_cons.1 f with e|d
  ·rw[e,if_pos (low_bit (h.1 c List.mem_cons_self)),Mf (fun a g=>(h.head a g).2),Nat.xor_zero]
  ·rw[h.low_lt (Nat.le_refl _) b d,if_neg (by decide)]
   exact Vy h.tail d
theorem PC(h:Red B){x:Nat}(k:Sp B x):BW B x=x:=by
 refine Sp.ind (P:=fun x=>BW B x=x) (Mf fun b _=>Nat.zero_testBit _) (fun b x a c=>?_) k;rw[Vz,Vy h a,c]
theorem Vx:∀{B:List Nat},Red B->∀{b:Nat} (x:Nat),b∈B->(BW B x).testBit (low b)=x.testBit (low b)
 |[],_,_,_,d=>by cases d
 |c::B,h,b,x,d=>by
  simp only[BW];rcases List.mem_cons.1 d with e|a
  ·have g:=NG (x:=x) (h.low_lt (Nat.le_refl (low c)))
   rw[e];split
   ·rename_i f;rw[Nat.testBit_xor,g,low_bit (h.1 c List.mem_cons_self),f];rfl
   ·rename_i f;rw[g];simpa using f
  ·have j:=Vx h.tail x a
   split
   ·rw[Nat.testBit_xor,(h.head b a).2,j];simp
   ·exact j
theorem La:∀{B:List Nat},Red B->∀v,red B v=v^^^BW B v
 |[],_,v=>by simp[red,BW]
 |c::B,h,v=>by
  show red B _=_;rw[La h.tail];simp only[BW];by_cases d:v.testBit (low c)=true
  ·rw[if_pos ⟨h.1 c List.mem_cons_self,d⟩,if_pos d,Vz,Mf (fun a e=>(h.head a e).2),Nat.xor_zero,Nat.xor_assoc]
  ·rw[if_neg (fun k=>d k.2),if_neg d]
theorem P8(h:Red B)(v:Nat){b:Nat}(a:b∈B):(red B v).testBit (low b)=false:=by
 rw[La h,Nat.testBit_xor,Vx h v a];cases v.testBit (low b)<;>rfl
theorem red_zero(h:Red B)(v:Nat):red B v=0↔Sp B v:=by
 rw[La h];constructor
 ·intro k
  rw[eq_of_xor k];exact PH B v
 ·intro k
  rw[PC h k,Nat.xor_self]
def upd(r b:Nat):Nat:=if b.testBit (low r)=true then b^^^r else b
def put(r:Nat):List Nat->List Nat
 |[]=>[r]
 |b::B=>if low r<low b then r::b::B else b::put r B
def ins(B:List Nat)(v:Nat):List Nat:=if red B v=0 then B else put (red B v) (B.map (upd (red B v)))
theorem I7{r x:Nat}:∀{B:List Nat},x∈put r B↔x=r\/x∈B
 |[]=>by simp[put]
 |b::B=>by
  simp only[put];split
  ·simp
  ·rw[List.mem_cons,I7,List.mem_cons]
   constructor
   ·rintro(h|h|h)
    ·exact .inr (.inl h)
    ·exact .inl h
    ·exact .inr (.inr h)
   ·rintro(h|h|h)
    ·exact .inr (.inl h)
    ·exact .inl h
    ·exact .inr (.inr h)
theorem S6(r:Nat):∀B:List Nat,(put r B).length=B.length+1
 |[]=>rfl
 |b::B=>by
  simp only[put];split
  ·rfl
  ·simp[S6 r B]
theorem TG{r:Nat}:∀{C:List Nat},(C.Pairwise fun a b=>low a<low b/\a.testBit (low b)=false)->(∀c∈C,low c≠low r/\c.testBit (low r)=false/\r.testBit (low c)=false)->
  (put r C).Pairwise fun a b=>low a<low b/\a.testBit (low b)=false
 |[],_,_=>by simp[put]
 |c::C,h,k=>by
  obtain⟨j,l⟩:=List.pairwise_cons.1 h;simp only[put];split
  ·rename_i g
   refine List.pairwise_cons.2 ⟨fun a f=>?_,h⟩;refine⟨?_,(k a f).2.2⟩;rcases List.mem_cons.1 f with e|d
   ·rw[e];exact g
   ·have:=(j a d).1;omega
  ·rename_i g
   have m:=k c List.mem_cons_self;refine List.pairwise_cons.2 ⟨fun a f=>?_,TG l fun a f=>k a (List.mem_cons_of_mem _ f)⟩;rcases I7.1 f with e|d
   ·rw[e];exact⟨by omega,m.2.1⟩
   ·exact j a d
theorem upd_low(h:Red B){v b:Nat}(g:red B v≠0)(f:b∈B):low (upd (red B v) b)=low b/\upd (red B v) b≠0:=by
 have c:=P8 h v f;have a:=h.1 b f;unfold upd;split
 ·rename_i k
  have m:low b<low (red B v):=by
   have n:=Q0 k;have o:low b≠low (red B v):=by
    intro e;rw[e,low_bit g]at c;cases c
   omega
  have d:(b^^^red B v).testBit (low b)=true:=by rw[Nat.testBit_xor,low_bit a,c];rfl
  exact⟨low_unique d fun j l=>by rw[Nat.testBit_xor,low_none a l,low_none g (by omega)];rfl,ne_of_bit d⟩
 ·exact⟨rfl,a⟩
theorem YZ(h:Red B){v b c:Nat}(a:c∈B):(upd (red B v) b).testBit (low c)=b.testBit (low c):=by
 unfold upd;split
 ·rw[Nat.testBit_xor,P8 h v a];simp
 ·rfl
theorem Y0{r:Nat}(c:r≠0):(upd r b).testBit (low r)=false:=by
 unfold upd;split
 ·rename_i a;rw[Nat.testBit_xor,a,low_bit c];rfl
 ·rename_i a;simpa using a
theorem Red.ins(h:Red B)(v:Nat):Red (ins B v):=by
 unfold Ech.ins;split
 ·exact h
 ·rename_i f
  refine⟨fun x n=>?_,TG ?_ ?_⟩
  ·rcases I7.1 n with e|k
   ·rw[e];exact f
   ·obtain⟨b,d,rfl⟩:=List.mem_map.1 k
    exact(upd_low h f d).2
  ·rw[List.pairwise_map]
   refine List.Pairwise.imp_of_mem ?_ h.2;intro a b l d g;rw[(upd_low h f l).1,(upd_low h f d).1,YZ h d];exact g
  ·intro c m
   obtain⟨b,d,rfl⟩:=List.mem_map.1 m;have j:=P8 h v d;rw[(upd_low h f d).1];refine⟨fun e=>?_,Y0 f,j⟩;rw[e,low_bit f]at j;cases j
theorem rF(r b:Nat):b=upd r b\/b=r^^^upd r b:=by
 unfold upd;split
 ·right
  rw[PP,Nat.xor_self,Nat.xor_zero]
 ·exact .inl rfl
theorem Qo(h:Red B)(v x:Nat):Sp (ins B v) x↔Sp (v::B) x:=by
 have q:Sp (v::B) (BW B v):=(PH B v).mono fun a d=>List.mem_cons_of_mem _ d;have g:Sp (v::B) (red B v):=by rw[La h];exact(Sp.of_mem List.mem_cons_self).xor q
 unfold ins;split
 ·rename_i o
  have l:=(red_zero h v).1 o
  exact⟨fun k=>k.mono fun a d=>List.mem_cons_of_mem _ d,fun k=>k.of fun a d=>by
   rcases List.mem_cons.1 d with e|c
   ·rw[e];exact l
   ·exact .of_mem c⟩
 ·rename_i o
  have n:∀b∈B,Sp (put (red B v) (B.map (upd (red B v)))) b:=fun b j=>by
   have m:Sp (put (red B v) (B.map (upd (red B v)))) (upd (red B v) b):=.of_mem (I7.2 (.inr (List.mem_map.2 ⟨b,j,rfl⟩)));rcases rF (red B v) b with e|e
   ·rw[e];exact m
   ·rw[e];exact(Sp.of_mem (I7.2 (.inl rfl))).xor m
  constructor
  ·intro k
   refine k.of fun a d=>?_;rcases I7.1 d with e|c
   ·rw[e];exact g
   ·obtain⟨b,j,rfl⟩:=List.mem_map.1 c
    have f:Sp (v::B) b:=.of_mem (List.mem_cons_of_mem _ j);unfold upd;split
    ·exact f.xor g
    ·exact f
  ·intro k
   refine k.of fun a d=>?_;rcases List.mem_cons.1 d with e|c
   ·have l:v=red B v^^^BW B v:=by rw[La h,qc]
    have p:=(Sp.of_mem (I7.2 (.inl rfl))).xor ((PH B v).of n);rw[<-l]at p;rw[e];exact p
   ·exact n a c
theorem fx(B:List Nat)(v:Nat):(ins B v).length<=B.length+1:=by
 unfold ins;split
 ·omega
 ·rw[S6,List.length_map];exact Nat.le_refl _
def basis(l:List Nat):List Nat:=l.foldl ins []
theorem OB:∀(l B:List Nat),Red B->Red (l.foldl ins B)/\(∀x,Sp (l.foldl ins B) x↔Sp (B++l) x)/\(l.foldl ins B).length<=B.length+l.length
 |[],B,h=>⟨h,fun x=>by simp,by simp⟩
 |v::l,B,h=>by
  obtain⟨g,j,m⟩:=OB l (ins B v) (h.ins v);refine⟨g,fun x=>?_,?_⟩
  ·show Sp (l.foldl ins (ins B v)) x↔_
   rw[j];constructor
   ·intro k
    refine k.of fun a d=>?_;rcases List.mem_append.1 d with d|d
    ·refine((Qo h v a).1 (.of_mem d)).mono fun c f=>?_
     rcases List.mem_cons.1 f with e|f
     ·rw[e];simp
     ·simp[f]
    ·exact .of_mem (by simp[d])
   ·intro k
    refine k.of fun a d=>?_;rcases List.mem_append.1 d with d|d
    ·exact((Qo h v a).2 (.of_mem (List.mem_cons_of_mem _ d))).mono fun c f=>List.mem_append_left _ f
    ·rcases List.mem_cons.1 d with e|d
     ·rw[e]
      exact((Qo h v v).2 (.of_mem List.mem_cons_self)).mono fun c f=>List.mem_append_left _ f
     ·exact .of_mem (List.mem_append_right _ d)
  ·show(l.foldl ins (ins B v)).length<=_
   have:=fx B v;simp only[List.length_cons];omega
theorem red_basis(l:List Nat):Red (basis l):=(OB l [] .nil).1
theorem sp_basis(l:List Nat)(x:Nat):Sp (basis l) x↔Sp l x:=(OB l [] .nil).2.1 x
theorem Vp:∀{A:List Nat},Red A->∀{x:Nat},BW A x≠0->∃a∈A,low (BW A x)=low a
 |[],_,x,h=>by simp[BW]at h
 |c::A,h,x,d=>by
  simp only[BW]at d⊢;split
  ·have g:=h.1 c List.mem_cons_self
   refine⟨c,List.mem_cons_self,low_unique ?_ fun j f=>?_⟩
   ·rw[Nat.testBit_xor,low_bit g,NG (h.low_lt (Nat.le_refl _))];rfl
   ·rw[Nat.testBit_xor,low_none g f,NG (h.low_lt (Nat.le_of_lt f))];rfl
  ·rename_i l
   rw[if_neg l]at d;obtain⟨a,k,e⟩:=Vp h.tail d;exact⟨a,List.mem_cons_of_mem _ k,e⟩
theorem Q1(h:Red A){x:Nat}(k:Sp A x)(c:x≠0):∃a∈A,low x=low a:=by
 have e:=PC h k;have:=Vp h (x:=x) (by rw[e];exact c);rwa[e]at this
theorem VV(f:Red A)(k:Red B)(o:∀x,Sp A x↔Sp B x):∀a∈A,a∈B:=by
 intro a g;obtain⟨b,l,h⟩:=Q1 k ((o a).1 (.of_mem g)) (f.1 a g);have s:Sp A (a^^^b):=(Sp.of_mem g).xor ((o b).2 (.of_mem l));have p:BW A (a^^^b)=0:=by
  refine Mf fun c m=>?_;rw[Nat.testBit_xor];by_cases e:a=c
  ·subst e
   rw[low_bit (f.1 a g),h,low_bit (k.1 b l)];rfl
  ·obtain⟨d,r,j⟩:=Q1 k ((o c).1 (.of_mem m)) (f.1 c m)
   have q:=f.two g m e;have n:b≠d:=by
    rintro rfl;exact q.1 (h.trans j.symm)
   rw[q.2,j,(k.two l r n).2];rfl
 rw[PC f s]at p;rw[eq_of_xor p];exact l
theorem SH:∀{A B:List Nat},Red A->Red B->(∀x,x∈A↔x∈B)->A=B
 |[],[],_,_,_=>rfl
 |[],b::B,_,_,h=>by have:=(h b).2 List.mem_cons_self;cases this
 |a::A,[],_,_,h=>by have:=(h a).1 List.mem_cons_self;cases this
 |a::A,b::B,c,d,h=>by
  have e:a=b:=by
   rcases List.mem_cons.1 ((h a).1 List.mem_cons_self)with e|l
   ·exact e
   ·rcases List.mem_cons.1 ((h b).2 List.mem_cons_self)with e|m
    ·exact e.symm
    ·have n:=(d.head a l).1
     have o:=(c.head b m).1;omega
  subst e;have f:a∉A:=fun k=>by have:=(c.head a k).1;omega
  have g:a∉B:=fun k=>by have:=(d.head a k).1;omega
  rw[SH c.tail d.tail fun x=>?_];constructor
  ·intro k
   rcases List.mem_cons.1 ((h x).1 (List.mem_cons_of_mem _ k))with e|j
   ·rw[e]at k;exact absurd k f
   ·exact j
  ·intro k
   rcases List.mem_cons.1 ((h x).2 (List.mem_cons_of_mem _ k))with e|j
   ·rw[e]at k;exact absurd k g
   ·exact j
theorem uniq(a:Red A)(c:Red B)(d:∀x,Sp A x↔Sp B x):A=B:=
 SH a c fun x=>⟨VV a c d x,VV c a (fun y=>(d y).symm) x⟩
end Go.Proofs.YtfpmnekaockodaaGreatDoor.Ech
