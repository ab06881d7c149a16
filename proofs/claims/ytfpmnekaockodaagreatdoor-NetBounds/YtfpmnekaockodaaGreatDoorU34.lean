/- Laws for the proof. -/
import Derived.Test.YtfpmnekaockodaaGreatDoorU33
namespace Go.Proofs.YtfpmnekaockodaaGreatDoor
open Go.RowKit
set_option linter.all false
set_option maxRecDepth 4000
set_option maxHeartbeats 8000000
variable {L:List Nat}{g B n N:Nat}{w w':World}
def GD(n:Nat):List Int:=A8 (List.range n)
theorem Gf(n:Nat):(GD n).length=n:=by simp[GD,A8]
theorem V7(n i:Nat)(h:i<n):(GD n).getD i 0=(i:Int):=by
 rw[GD,L2];simp[List.getD_eq_getElem?_getD,h]
theorem io{tmps:Array Value}{W:World}{u0:Value}(b:tmps.getD 2 undef=.pointer (some ⟨g,0,none⟩))(c:Cn 327 W g u0):
  (results Tryz.f235 tmps).run Tryz.prog W=.ok (.agg #[u0]) W:=by
 have d:=c.at0;have a:tmps[2]?.getD undef=.pointer (some ⟨g,0,none⟩):=by simpa using b
 simp[results,Tryz.results235,go_sem,a,d]
theorem qs(n:Nat)(I:n<=1048576)(w:World):
  Calls Tryz.prog 235 #[.int .i64 (n:Int)] w fun e w'=> ∃b,e=.returned (.agg #[.slice (some ⟨b,0,none⟩) n n])/\Am w' w.heap.size (.slice (some ⟨b,0,none⟩) n n) (GD n)/\Below w.heap.size w w':=by
 have v:=Mg n I (w.alloc (.cells #[.slice none 0 0] 327));have s:=Mf (w.alloc (.cells #[.slice none 0 0] 327)) n I (List.replicate n 0) rfl;have z:=Ab (WE 327 w (.slice none 0 0));have l:=Bc w (.cells #[.slice none 0 0] 327);have f:Below w.heap.size w (w.alloc (.cells #[.slice none 0 0] 327)):=(Below.refl _ _).alloc (Nat.le_refl _) _;rw[l]at s v;have j:Am ((w.alloc (.cells #[.slice none 0 0] 327)).alloc (.cells (madeCells #[.int .i64 0] n) 3)) (w.heap.size+1) (.slice (some ⟨w.heap.size+1,0,none⟩) n n) (Df (GD n) 0):=by
  rw[ND,Gf];exact s
 have y:=Ab j;have x:=Ab (f.alloc f.size (.cells (madeCells #[.int .i64 0] n) 3));have A:=Ab ((Aa z).belowB ((Below.refl (w.heap.size+1) (w.alloc (.cells #[.slice none 0 0] 327))).alloc (by rw[l];exact Nat.le_refl _) (.cells (madeCells #[.int .i64 0] n) 3)) (Nat.lt_succ_self _));clear s j f z;go_enter Tryz.func235,Tryz.ntmps235;go_wp2;go_loopw [9] (fun i wr=> ∃k:Nat,k<=n/\i=.int .i64 k/\Hid (Am wr (w.heap.size+1) (.slice (some ⟨w.heap.size+1,0,none⟩) n n) (Df (GD n) k)/\Cn 327 wr w.heap.size (.slice none 0 0)/\Below w.heap.size w wr)) (fun i _=>n-(intOf i).toNat)
 case atStart=>exact⟨0,Nat.zero_le _,rfl,Ab ⟨Aa y,Aa A,Aa x⟩⟩
 case round=>
  obtain⟨k,H,rfl,c⟩:=hrel;clear y A x;by_cases h:k<n
  ·obtain⟨g,cap,e,_,Q,D,E⟩:=(Aa c).1.at (by rw[LI _ _ (by rw[Gf];exact H),Gf];omega)
   have O:g=w.heap.size+1:=by
    simp only[Value.slice.injEq,Option.some.injEq,Addr.mk.injEq,and_true]at e;exact e.1.symm
   subst O;have u:=D k (by rw[LI _ _ (by rw[Gf];exact H),Gf];omega);have P:=E k;have d:=(Aa c).1.stored k (k:Int);rw[<-V7 n k h,NC _ _ (by rw[Gf];exact h),V7 n k h]at d;have q:=Ab (show _/\_/\_ from⟨d,(Aa c).2.1.kept (BF wr (w.heap.size+1) k (.int .i64 (k:Int))) (fun e=>by have:=Option.some.inj e;omega),(Aa c).2.2.setCell (p:=⟨w.heap.size+1,k,none⟩) (by show w.heap.size<=w.heap.size+1;omega) (.int .i64 (k:Int))⟩);clear D E d c e;go_wp2;go_roundw
   case rel=>exact⟨k+1,by omega,by go_num,Ab (Aa q)⟩
   case measure=>simp[intOf];omega
  ·obtain rfl:k=n:=by omega
   obtain⟨r,m,C⟩:=Aa c;have J:=m.at0;have K:=m.frz 0;have a:=NQ (GD k);rw[Gf]at a;rw[a]at r;have o:=Ab (show _/\_/\_ from⟨(show Am _ _ _ _ from r.kept (BF _ w.heap.size 0 (.slice (some ⟨w.heap.size+1,0,none⟩) k k)) (Nat.lt_succ_self _)),m.set0 (.slice (some ⟨w.heap.size+1,0,none⟩) k k),C.setCell (p:=⟨w.heap.size,0,none⟩) (Nat.le_refl _) (.slice (some ⟨w.heap.size+1,0,none⟩) k k)⟩);clear c r m C a;go_wp2;exact bodyPost_ret (io rfl (Aa o).2.1) rfl ⟨_,rfl,(Aa o).1.mono (Nat.le_succ _),(Aa o).2.2⟩
theorem Zm(k:Int)(n:Nat):∃m:Int,(∀(a:Array TypeId) (t:TypeId) (w:World),(Builtin.min_ a t #[.int .i64 k,.int .i64 (n:Int)]).run Tryz.prog w=.ok (.int .i64 m) w)/\∀i:Nat,(i:Int)<m↔i<min k.toNat n:=by
 refine⟨if (n:Int)<k then(n:Int)else k,fun a t w=>by rw[run_min_int2],fun i=>?_⟩;split<;>omega
theorem Am.lt'{v:Value}{xs:List Int}(h:Am w B v xs){k:Nat}(a:v.ownBlock=some k):B<=k:=(World.ownsRow.lt h k a).1
theorem Zi{b:Nat}(h:Am w B (.slice (some ⟨b,0,none⟩) n n) (GD n))(p:n<=1048576):
  Bo (w.alloc (.cells #[.slice (some ⟨b,0,none⟩) n n] 327)) w.heap.size B (w.heap.size+1) (GD n):=by
 have d:w.ownsRow B 3 1 (.slice (some ⟨b,0,none⟩) n n) n (cellsZ (GD n)):=by
  have j:=h;unfold Am at j;rwa[Gf]at j
 rcases d.2 with⟨e,_⟩|⟨g,cap,l,e,m,o,q,s,r,ht⟩
 ·simp at e
 ·simp only[Value.slice.injEq,Option.some.injEq,Addr.mk.injEq,and_true]at e
  obtain⟨rfl,_,_⟩:=e;have f:=(Array.getElem?_eq_some_iff.1 o).1;have c:(w.alloc (.cells #[.slice (some ⟨b,0,none⟩) n n] 327)).heap[b]? =w.heap[b]? :=Below.heap_alloc _ _ _ f;refine⟨b,0,n,by rw[Gf];exact WE _ _ _,by rw[Gf];exact Nat.le_refl _,p,⟨m,by omega,by omega,by omega,by omega⟩,fun i k=>?_,fun i=>?_⟩
  ·rw[Nat.zero_add,World.cell?_of_block (a:=⟨b,i,none⟩) c,d.cellAt i (by rw[Gf]at k;omega),Hl _ i k]
  ·rw[World.frozen?_of_block (a:=⟨b,i,none⟩) c]
   exact d.frozenAt i
theorem eD(g B:Nat)(L:List Nat)(N n:Nat)(k:Int)(w:World)(h:Az w g B L N)(hB:B<=w.heap.size)(hN:N<=549755813888)(hn:n<=128):
  Calls Tryz.prog 197 #[.pointer (some ⟨g,0,none⟩),.int .i64 (n:Int),.int .i64 k] w fun e w'=> ∃v,e=.returned v/\Am w' w.heap.size v (A8 (Di L N n (min k.toNat n)))/\Az w' g B L (N+min k.toNat n)/\w.grownBy w' (some g):=by
 obtain⟨m,ao,hm⟩:=Zm k n;have ap:=h.1;have al:min k.toNat n<=n:=Nat.min_le_right _ _;generalize min k.toNat n=r at*;have HU:=Ab (qs n (by omega) w);have h0:¬((n:Int)<0):=by omega
 have h1:¬((128:Int)<(n:Int)):=by omega
 have Y:=Ab h;have HM:=Ab hm;clear h hm;go_enter Tryz.func197,Tryz.ntmps197;go_wp2_with (go_at_call 235;refine(Aa HU).mono ?_;rintro e w1 ⟨b,rfl,J,d⟩;have u:=Ab J;have l:=Ab d;clear J d);go_loopw [8,25] (fun t i wr=> ∃q:Nat,q<=r/\i=.int .i64 q/\Hid (Am wr (w1.heap.size+1) t (A8 (Ek L N (List.range n) q))/\Bo wr w1.heap.size w.heap.size (w1.heap.size+1) (A8 (B9 L N (List.range n) q))/\Az wr g B L (N+q)/\w.grownBy wr (some g)/\w1.heap.size+1<=wr.heap.size)) (fun _ i _=>r-(intOf i).toNat)
 case atStart=>
  have d:=Aa l;have hA:Below w.heap.size w1 (w1.alloc (.cells #[.slice (some ⟨b,0,none⟩) n n] 327)):=(Below.refl _ _).alloc d.size _;exact⟨0,Nat.zero_le _,rfl,Ab ⟨Am.nil _ _,Zi (Aa u) (by omega),(Aa Y).below ((d.trans hA).mono hB),CN (d.trans hA) _,by rw[Bc];exact Nat.le_refl _⟩⟩
 case round=>
  obtain⟨q,hq,rfl,Z⟩:=hrel;have aq:w.heap.size<=w1.heap.size:=(Aa l).size;have p:=Aa HM q;by_cases S:q<r
  ·have V:(q:Int)<m:=p.2 S
   obtain⟨y,hS,E,I,O⟩:=Aa Z;have f:=NX L N (List.range n) q (by rw[List.length_range];omega);rw[List.length_range]at f;obtain⟨b',off,c,k1,k2,k3,k4,k5,k6⟩:=hS;have HS:=Ab (show Bo wr w1.heap.size w.heap.size (w1.heap.size+1) (A8 (B9 L N (List.range n) q)) from⟨b',off,c,k1,k2,k3,k4,k5,k6⟩);have k0:=k1.at0;rw[Ip,f]at k0;have HX:=Ab (Tt g B L (N+q) (n-q) wr E (by omega) (by omega) (by omega));have hj:BN L (N+q+1)%(n-q)<n-q:=Nat.mod_lt _ (by omega);have HP:=Ab (show Ek L N (List.range n) (q+1)=Ek L N (List.range n) q++[(B9 L N (List.range n) q).getD (BN L (N+q+1)%(n-q)) 0] from by show Ek L N (List.range n) q++_=_;rw[f]);have HL:=Ab (show B9 L N (List.range n) (q+1)=(B9 L N (List.range n) q).eraseIdx (BN L (N+q+1)%(n-q)) from by show(B9 L N (List.range n) q).eraseIdx _=_;rw[f]);have X:(A8 (B9 L N (List.range n) q)).getD (BN L (N+q+1)%(n-q)) 0=(((B9 L N (List.range n) q).getD (BN L (N+q+1)%(n-q)) 0:Nat):Int):=L2 _ _
   have hT:∀w2,Bo w2 w1.heap.size w.heap.size (w1.heap.size+1) (A8 (B9 L N (List.range n) q))->w1.heap.size+1<=w2.heap.size->Calls Tryz.prog 236 #[.pointer (some ⟨w1.heap.size,0,none⟩),.int .i64 ((BN L (N+q+1)%(n-q):Nat):Int)] w2 fun e w'=>
     e=.returned (.int .i64 (((B9 L N (List.range n) q).getD (BN L (N+q+1)%(n-q)) 0:Nat):Int))/\Bo w' w1.heap.size w.heap.size (w1.heap.size+1) (A8 (B9 L N (List.range n) (q+1)))/\Kc w.heap.size (w1.heap.size+1) w2 w':=by
    intro w2 am an;have:=ny w1.heap.size w.heap.size (w1.heap.size+1) (BN L (N+q+1)%(n-q)) _ w2 am (by rw[Ip,f];exact hj) an;rw[X,<-eW,<-Aa HL]at this;exact this
   have HT:=Ab hT;have HO:=Ab y;have HG:=Ab I;have af:=Ab (LN L N (List.range n) q);clear k1 k2 k3 k4 k5 k6 E y I hj f Z p u l HU Y hT X HL;generalize (B9 L N (List.range n) q).getD (BN L (N+q+1)%(n-q)) 0=x at*;generalize BN L (N+q+1)%(n-q)=j at*;go_wp2_with (first|(go_at_call 201;refine(Aa HX).mono ?_;rintro e w2 ⟨rfl,H,a⟩;have ag:=Ab ((Aa HS).kept a (by omega) O);have ac:=Ab ((Aa HO).kept a (by have:=a.size;omega));have z:=Ab (BD (Aa HG) a (.inl rfl));have aa:=Ab H;have C:=Ab (Nat.le_trans O a.size);clear H a)|(go_at_call 236;refine(Aa HT _ (Aa ag) (Aa C)).mono ?_;rintro e w3 ⟨rfl,K,o⟩;have ah:=Ab K;have ab:=Ab o;have ad:=Ab ((Aa ac).mid o);have D:=Ab (Nat.le_trans (Aa C) o.size);clear K o)|(at_builtin;refine RK rfl _ _ rfl (w1.heap.size+1) u8 _ (x:Int) rfl rfl (Aa ad) (Aa D) (by rw[Ip,Aa af];omega) ?_;intro s4 w4 T Q;have ae:=Ab T;have s:=Ab Q;clear T Q));go_roundw
   case rel=>
    have W:w.heap.size<=w2.heap.size:=(Aa z).size;have ak:Below w.heap.size w2 w3:=(Aa ab).below W;have P:Below w.heap.size w2 w4:=ak.trans ((Aa s).mono (by omega));refine⟨q+1,by omega,by go_num,Ab ⟨?_,(Aa ah).below (Aa s),(Aa aa).below (P.mono hB),JT (Aa z) P,Nat.le_trans (Aa D) (Aa s).size⟩⟩;rw[Aa HP,RP];exact Aa ae
   case measure=>simp[intOf];omega
  ·have V:¬((q:Int)<m):=fun h=>S (p.1 h)
   obtain rfl:q=r:=by omega
   obtain⟨y,hS,E,I,O⟩:=Aa Z;have A:=Ab (VQ (w1.heap.size+1) u8 _ wr y (by rw[Ip,LN];omega));rw[kS L N n q al]at A;have HO:=Ab y;have HG:=Ab I;have Y:=Ab E;have HZ:=Ab O;clear y hS E I O Z p u l HU;go_wp2_with (go_at_call 237;refine(Aa A).mono ?_;rintro e w5 ⟨rfl,aj,ai⟩);go_ret;have R:Below (w1.heap.size+1) wr w5:=CK ai (Aa HZ) (fun k hk=>((Aa HO).lt' hk));exact⟨_,rfl,aj.mono (by omega),(Aa Y).below (R.mono (by omega)),JT (Aa HG) (R.mono (by omega))⟩
def Is{α:Type}(a b:α):Prop:=a=b
theorem Is.eq{α:Type}{a b:α}(h:Is a b):a=b:=h
theorem Am.atB{a:Option Addr}{c:Nat}{xs:List Int}(h:Am w B (.slice a n c) xs):IntzAt w a n xs:=by
 obtain⟨d,c1,e,b⟩:=h.ints;simp only[Value.slice.injEq]at e;obtain⟨rfl,rfl,rfl⟩:=e;exact b
theorem Own.atB{a:Option Addr}{c:Nat}{xs:List Nat}(h:Own w B (.slice a n c) xs):RowAt w a n xs:=by
 obtain⟨d,c1,e,b⟩:=h.row;simp only[Value.slice.injEq]at e;obtain⟨rfl,rfl,rfl⟩:=e;exact b
theorem Z5(w:World)(n:Nat)(a:n<=1048576):
  Own (w.alloc (.cells (madeCells #[.int .u64 0] n) 265)) w.heap.size (.slice (some ⟨w.heap.size,0,none⟩) n n) (List.replicate n 0):=by
 refine⟨eQ n,by simp[cellsU],.inr ⟨w.heap.size,n,madeCells #[.int .u64 0] n,by simp,Nat.le_refl _,heap_alloc_new w _,by simp,by unfold maxLen;omega,by simp[size_madeCells],?_⟩⟩;rw[toList_madeCells_one,List.take_of_length_le (by simp)];simp[cellsU]
theorem rJ(xs:List Nat)(i:Nat)(on:Bool):Fa xs (i:Int) on=BE xs i on:=by
 unfold Fa;rw[if_neg (by omega),Int.toNat_natCast]
theorem mV(k:Nat)(a:Option Addr)(n c:Nat)(ns:List Nat)(w:World)(h:IntzAt w a n (A8 ns))(Z:n<=1048576)(P:∀i,ns.getD i 0<=1048576):
  Calls Tryz.prog 196 #[.int .i64 (k:Int),.slice a n c] w fun e w'=> ∃v,e=.returned v/\Own w' w.heap.size v (Em k ns)/\Below w.heap.size w w':=by
 have r:ns.length=n:=by rw[<-h.1,Ip]
 have X:=D6 (k:Int);have O:=Ab (Hn (k:Int) w);have I:=Ab (fun j=>LP k (ns.take j));have A:=Z5 w (sizeOfK (k:Int)) (by omega);rw[<-qz k,show([]:List Nat)=ns.take 0 from rfl]at A;have p:Below w.heap.size w (w.alloc (.cells (madeCells #[.int .u64 0] (sizeOfK (k:Int))) 265)):=(Below.refl _ _).alloc (Nat.le_refl _) _;have C:=QM (sizeOfK (k:Int)) (by omega) w;have J:=Ab A;have D:=Ab p;have H:=Ab h;have u:=Ab r;have E:=Ab P;have K:=Ab (fun j S=>mU k ns j S);clear A p h r P;generalize sizeOfK (k:Int)=m at*;generalize w.alloc (.cells (madeCells #[.int .u64 0] m) 265)=w0 at*;go_enter Tryz.func196,Tryz.ntmps196;go_wp2_with (go_at_call 176;refine(Aa O).mono ?_;rintro e w1 ⟨rfl,V⟩;obtain rfl:=V.symm;clear V);go_loopw [5,13] (fun v i wr=> ∃(j:Nat) (b:Option Addr) (s:Nat),j<=n/\i=.int .i64 j/\v=.slice b m s/\Hid (Own wr w.heap.size (.slice b m s) (Em k (ns.take j))/\Below w.heap.size w wr)) (fun _ i _=>n-(intOf i).toNat)
 case atStart=>exact⟨0,_,_,Nat.zero_le _,rfl,rfl,Ab ⟨Aa J,Aa D⟩⟩
 case round=>
  rename_i wr;obtain⟨j,b,s,S,rfl,rfl,l⟩:=hrel;clear J D C O;by_cases o:j<n
  ·have T:(j:Int)<(n:Int):=by omega
   obtain⟨Y,off,rfl,Q⟩:=((Aa H).below (Aa l).2).at o;have d:=Q j o;rw[L2]at d;have hx:=Aa E j;have z:=Ab (Xa b m s _ ((ns.getD j 0:Nat):Int) true wr (Aa l).1.atB (by omega) (by omega));rw[rJ,<-Aa K j (by rw[Aa u];exact o)]at z;generalize ns.getD j 0=x at*;clear Q;go_wp2_with fail;refine(Aa z).mono ?_;rintro e w2 ⟨v2,rfl,f,q⟩;obtain⟨W,c2,rfl, -⟩:=f.row;rw[Aa I]at f⊢;have y:=Ab (show _/\_ from⟨f.mono (Aa l).2.size,Ad (Aa l).2 q⟩);clear f q l d z;go_wp2;go_roundw
   case rel=>exact⟨j+1,W,c2,by omega,by go_num,rfl,y⟩
   case measure=>simp[intOf];omega
  ·obtain rfl:j=n:=by omega
   have R:ns.take j=ns:=List.take_of_length_le (by rw[Aa u];exact Nat.le_refl _);rw[R]at l;clear R H u E K I;go_wp2;go_ret;exact⟨_,rfl,(Aa l).1,(Aa l).2⟩
theorem AX.kept{v0 b c v3 v4 v5 d:Value}{row:Option Nat}(h:AX w g v0 b c v3 v4 v5 d)(e:w.grownBy w' row)(a:some g≠row):AX w' g v0 b c v3 v4 v5 d:=(e.block g h.lt a).trans h
theorem Az.blk(h:Az w g B L N):∃a n c,AW 246 w g (.slice a n c) (.int .i64 (N:Int)):=by
 obtain⟨d,e,a,n,c,b,_⟩:=h;exact⟨a,n,c,b⟩
theorem Bn.drawn{b:Nat}{o l z:Int}{s:Nat}{ss:List ByteArray}(h:Bn w g o l z s ss)(f:w.grownBy w' (some b))(e:Az w b B L N):Bn w' g o l z s ss:=by
 obtain⟨a,n,c,d⟩:=e.blk;exact h.kept f d
theorem B8.kept{k:Nat}{T:TypeId}{d:Option Addr}{m f:Nat}{i:Int}(h:B8 w)(l:w.grownBy w' (some k))(b:AW T w k (.slice d m f) (.int .i64 i)):B8 w':=by
 intro j c;refine l.cell (h j c) (fun e=>?_);have e:1=k:=Option.some.inj e;subst e;have a:=h j c;unfold AW at b;rw[cell_of_row w 1 _ _ _ _ b]at a
 match j,a with
 |0,a=>simp at a
 |1,a=>simp at a
 |q+2,a=>simp at a
theorem B8.drawn{b:Nat}(h:B8 w)(f:w.grownBy w' (some b))(e:Az w b B L N):B8 w':=by
 obtain⟨a,n,c,d⟩:=e.blk;exact h.kept f d
theorem ee{tmps:Array Value}{W:World}{u0 u1 u2 u3 u4 u5 u6:Value}(b:tmps.getD 4 undef=.pointer (some ⟨g,0,none⟩))(c:AX W g u0 u1 u2 u3 u4 u5 u6):
  (results Tryz.f167 tmps).run Tryz.prog W=.ok (.agg #[u0,u1,u2,u3,u4,u5,u6]) W:=by
 obtain⟨d,e,f,h,i,j,k⟩:=c.at;have a:tmps[4]?.getD undef=.pointer (some ⟨g,0,none⟩):=by simpa using b
 simp[results,Tryz.results167,go_sem,a,d,e,f,h,i,j,k]
theorem oo(g I B:Nat)(o l z:Int)(s k:Nat)(ss:List ByteArray)(L:List Nat)(N:Nat)(w:World)(r:Bn w g o l z s ss)(hk:ss.length=k)(h1:1<=k)(h2:k<=128)(hs:s<=k)(ai:shorts ss)(ht:B8 w)
  (A:Az w I B L N) (hB:B<=w.heap.size) (hN:N<=274877906944):
  Calls Tryz.prog 167 #[.pointer (some ⟨g,0,none⟩),.pointer (some ⟨I,0,none⟩)] w fun e w'=> ∃a c,e=.returned (.agg #[.int .i64 o,.int .i64 l,.int .i64 (k:Int),.int .i64 z,.int .i64 0,.slice a (sizeOfK (k:Int)) c,.string (st (Br ss (Dj k s L N) k))])/\
   RowAt w' a (sizeOfK (k:Int)) (Dj k s L N)/\Az w' I B L (Nv k s L N)/\w.grownBy w' (some I):=by
 have au:=A.1;have hL:=A.2.1;have B0:=Ab (Bv w (.cells #[.int .i64 0,.int .i64 0,.int .i64 0,.int .i64 0,.int .i64 0,.slice none 0 0,.string ⟨#[]⟩] 75));have X0:=Ab (CM w (.int .i64 0) (.int .i64 0) (.int .i64 0) (.int .i64 0) (.int .i64 0) (.slice none 0 0) (.string ⟨#[]⟩));have S0:=Ab (r.below (Aa B0));have D0:=Ab (A.below ((Aa B0).mono hB));have av:w.heap.size≠g:=by
  obtain⟨a,c,⟨k0,_⟩,_⟩:=r;exact Nat.ne_of_gt (World.block_lt_of_cell? w ⟨g,0,none⟩ k0)
 have HT:=Ab (nw k s h1 h2 hs _ (ht.below (Aa B0)));have HK:=Ab (aQ g o l z s ss _ (Aa S0));rw[hk]at HK;have D:=(show _ from(Aa S0));obtain⟨_,_,⟨_,_,_,_,D⟩,_⟩:=D;have ak:=Ab hk;have ap:=Ab ai;have C:=PA k s L N h1 (by omega);have am:Is (Nv k s L N) (N+1+degL k s L N):=rfl;have HV:Is (Dj k s L N) (Em k (Di L (N+1) k (degL k s L N))):=rfl;have Y:=Ab (fun a c wx (hi:IntzAt wx a k (tableL k s))=>(show Calls Tryz.prog 193 #[.slice a k c,.int .u64 ((BN L (N+1):Nat):Int)] wx fun e w'=>e=.returned (.int .i64 ((degL k s L N:Nat):Int))/\w'=wx from nZ a k c (tableL k s) (BN L (N+1)) wx hi (by omega) (by have:=jm k s h2 (by omega);omega) (VI hL _)));have V:=Ab (fun wx A=>Ul I B L N wx A (by omega));have H:=Ab (fun wx A hb=>eD I B L (N+1) k ((degL k s L N:Nat):Int) wx A hb (by omega) h2);rw[YR k s L N h1 (by omega)]at H;have S:=Ab (RU L (N+1) k (degL k s L N) C.2)
 have T:=Ab (show∀i,(Di L (N+1) k (degL k s L N)).getD i 0<=1048576 from fun i=>by
  by_cases hi:i<(Di L (N+1) k (degL k s L N)).length
  ·have:=oZ L (N+1) k (degL k s L N) i hi
   omega
  ·rw[Ge (by omega)];omega)
 have aq:=Ab (fC k s L N);have aw:=D6 (k:Int);have aa:=Ab (Hb k s);clear r A ht hk ai hL;generalize Dj k s L N=vs at*;generalize Nv k s L N=nn at*;generalize degL k s L N=dg at*;generalize BN L (N+1)=x at*;generalize Di L (N+1) k dg=ns at*;generalize tableL k s=tb at*;generalize sizeOfK (k:Int)=m at*;have ar:dg<=128:=by omega
 clear C;go_enter Tryz.func167,Tryz.ntmps167
 go_wp2_with (first
  |(go_at_call 192;refine(Aa HK).mono ?_;rintro e w' ⟨rfl,hw⟩;obtain rfl:=hw.symm;clear hw)
  |(go_at_call 194;refine(Aa HT).mono ?_;rintro e w1 ⟨v1,rfl,y,f⟩;obtain⟨a1,c1,rfl,J⟩:=y.ints;rw[Aa aa]at y J⊢;have W:=Ab y;have al:=Ab J;have B1:=Ab (Ad (Aa B0) f);have S1:=Ab ((Aa S0).below f);have X1:=Ab ((Aa X0).below f);have D1:=Ab ((Aa D0).below (f.mono (by rw[Bc];omega)));have Z1:=Ab f.size;clear y J f)
  |(go_at_call 195;refine(Aa V _ (Aa D1)).mono ?_;rintro e w2 ⟨rfl,af,j⟩;have X:=Ab ((Aa W).kept j (by rw[Bc];omega)).atB;have S2:=Ab ((Aa S1).drawn j (Aa D1));have X2:=Ab ((Aa X1).kept j (fun e=>by have:=Option.some.inj e;omega));have D2:=Ab af;have G2:=Ab (BD (CN (Aa B1) (some I)) j (.inl rfl));clear af j)
  |(go_at_call 193;refine(Aa Y _ _ _ (Aa X)).mono ?_;rintro e w' ⟨rfl,hw⟩;obtain rfl:=hw.symm;clear hw)
  |(go_at_call 197;refine(Aa H _ (Aa D2) (Nat.le_trans hB (Aa G2).size)).mono ?_;rintro e w3 ⟨v3,rfl,ah,ag,v⟩;obtain⟨a3,c3,rfl,K⟩:=ah.ints;rw[Ip,Aa S]at K⊢;have R:=Ab K;have S3:=Ab ((Aa S2).drawn v (Aa D2));have X3:=Ab ((Aa X2).kept v (fun e=>by have:=Option.some.inj e;omega));have D3:=Ab ag;have G3:=Ab (BD (Aa G2) v (.inl rfl));clear ah K ag v)
  |(go_at_call 196;refine(mV k a3 dg c3 ns _ (Aa R) (by omega) (Aa T)).mono ?_;rintro e Q ⟨v4,rfl,q,h⟩;rw[<-HV.eq]at q;obtain⟨a4,c4,rfl,O⟩:=q.row;rw[Aa aq]at q O⊢;have an:=Ab q;have Z:=Ab O;have S4:=Ab ((Aa S3).below h);have X4:=Ab ((Aa X3).below h);have D4:=Ab ((Aa D3).below (h.mono (Nat.le_trans hB (Aa G3).size)));have G4:=Ab (JT (Aa G3) (h.mono (Aa G3).size));have Z3:=Ab (Aa X3).lt;clear q O h))
 obtain⟨ab,ac,⟨k0,k1,k2,k3,_⟩,P⟩:=Aa S4;rw[Aa ak]at k3 P;have ao:=Ab (fun wx (hb:Below Q.heap.size Q wx)=>QR ab k ac ss a4 m c4 vs wx (P.below hb) (Aa ap) (by omega) ((Aa Z).below hb) (by omega));clear P HT HK Y V H aa HV S T W al B1 S1 X1 D1 Z1 X S2 X2 D2 G2 R S3 X3 D3 G3 S0 D0 X0;have d:g<Q.heap.size:=World.block_lt_of_cell? Q ⟨g,0,none⟩ k0
 go_region_held (fun w'=>w'.cell? ⟨g,0,none⟩=some (.int .i64 o)/\w'.cell? ⟨g,1,none⟩=some (.int .i64 l)/\w'.cell? ⟨g,2,none⟩=some (.int .i64 z)/\w'.cell? ⟨g,3,none⟩=some (.slice ab k ac)) (go_keep)
  (first|(go_at_call 198;refine(Aa ao _ (Below.refl _ _).drew).mono ?_;rintro e w5 ⟨rfl,ae⟩;have b:Below Q.heap.size Q w5:=(Below.refl _ _).drew.trans ae;have q0:=(b.cell (p:=⟨g,0,none⟩) d).trans k0;have q1:=(b.cell (p:=⟨g,1,none⟩) d).trans k1;have q2:=(b.cell (p:=⟨g,2,none⟩) d).trans k2;have q3:=(b.cell (p:=⟨g,3,none⟩) d).trans k3;have u:=(Aa X4).below b;obtain⟨y0,y1,y2,y3,y4,y5,y6⟩:=u.at;have f0:=u.frz 0;have f1:=u.frz 1;have f2:=u.frz 2;have f3:=u.frz 3;have f4:=u.frz 4;have f5:=u.frz 5;have f6:=u.frz 6;have X5:=Ab u;have E:=Ab b;clear u b ae))
 go_wp2;have aj:w.heap.size<=Q.heap.size:=(Aa G4).size
 refine bodyPost_ret (ee rfl ((Aa X5).sets (.int .i64 o) (.int .i64 l) (.int .i64 (k:Int)) (.int .i64 z) (.int .i64 0) (.slice a4 m c4) (.string (st (Br ss vs k))))) rfl
  ⟨a4,c4,rfl,((Aa Z).below (Aa E)).other7 (fun ad ha hm=>?_) _ _ _ _ _ _ _,?_,JT (Aa G4) (CD ((Aa E).mono aj) (Nat.le_refl _) _ _ _ _ _ _ _)⟩
 ·have h1:=(Aa an).apart ad ha hm
  have h2:=Aa Z3;omega
 ·rw[am.eq]
  exact(Aa D4).below (CD ((Aa E).mono (Nat.le_trans hB aj)) hB _ _ _ _ _ _ _)
end Go.Proofs.YtfpmnekaockodaaGreatDoor
