/-
  Laws that the proof stands on.
-/
import Derived.Test.YtmmikiikddokgaaGreatDoorU33
namespace Go.Proofs.YtmmikiikddokgaaGreatDoor
open Go.RowKit
set_option linter.unusedVariables false
set_option linter.unusedSimpArgs false
set_option maxRecDepth 4000
set_option maxHeartbeats 8000000
variable {L:List Nat}{g B n N:Nat}{w w':World}
def Gq(n:Nat):List Int:=A7 (List.range n)
theorem F6(n:Nat):(Gq n).length=n:=by simp[Gq,A7]
theorem VK(n i:Nat)(h:i<n):(Gq n).getD i 0=(i:Int):=by
 rw[Gq,LN];simp[List.getD_eq_getElem?_getD,h]
theorem gu{tmps:Array Value}{W:World}{u0:Value}(b:tmps.getD 2 undef=.pointer (some ⟨g,0,none⟩))(c:Cl 327 W g u0):
  (results Tryz.f235 tmps).run Tryz.prog W=.ok (.agg #[u0]) W:=by
 have d:=c.at0;have a:tmps[2]?.getD undef=.pointer (some ⟨g,0,none⟩):=by simpa using b
 simp[results,Tryz.results235,go_sem,a,d]
theorem qb(n:Nat)(H:n<=1048576)(w:World):
  Calls Tryz.prog 235 #[.int .i64 (n:Int)] w fun e w'=> ∃b,e=.returned (.agg #[.slice (some ⟨b,0,none⟩) n n])/\Am w' w.heap.size (.slice (some ⟨b,0,none⟩) n n) (Gq n)/\Below w.heap.size w w':=by
 have v:=LS n H (w.alloc (.cells #[.slice none 0 0] 327));have s:=LR (w.alloc (.cells #[.slice none 0 0] 327)) n H (List.replicate n 0) rfl;have z:=Ab (Wn 327 w (.slice none 0 0));have l:=Bc w (.cells #[.slice none 0 0] 327);have f:Below w.heap.size w (w.alloc (.cells #[.slice none 0 0] 327)):=(Below.refl _ _).alloc (Nat.le_refl _) _;rw[l]at s v;have j:Am ((w.alloc (.cells #[.slice none 0 0] 327)).alloc (.cells (madeCells #[.int .i64 0] n) 3)) (w.heap.size+1) (.slice (some ⟨w.heap.size+1,0,none⟩) n n) (Df (Gq n) 0):=by
  rw[Nr,F6];exact s
 have y:=Ab j;have x:=Ab (f.alloc f.size (.cells (madeCells #[.int .i64 0] n) 3));have A:=Ab ((Aa z).belowB ((Below.refl (w.heap.size+1) (w.alloc (.cells #[.slice none 0 0] 327))).alloc (by rw[l];exact Nat.le_refl _) (.cells (madeCells #[.int .i64 0] n) 3)) (Nat.lt_succ_self _));clear s j f z;go_enter Tryz.func235,Tryz.ntmps235;go_wp2;go_loopw [9] (fun i wr=> ∃k:Nat,k<=n/\i=.int .i64 k/\Hid (Am wr (w.heap.size+1) (.slice (some ⟨w.heap.size+1,0,none⟩) n n) (Df (Gq n) k)/\Cl 327 wr w.heap.size (.slice none 0 0)/\Below w.heap.size w wr)) (fun i _=>n-(intOf i).toNat)
 case atStart=>exact⟨0,Nat.zero_le _,rfl,Ab ⟨Aa y,Aa A,Aa x⟩⟩
 case round=>
  obtain⟨k,G,rfl,c⟩:=hrel;clear y A x;by_cases h:k<n
  ·obtain⟨g,cap,e,_,P,D,E⟩:=(Aa c).1.at (by rw[Ls _ _ (by rw[F6];exact G),F6];omega)
   have K:g=w.heap.size+1:=by
    simp only[Value.slice.injEq,Option.some.injEq,Addr.mk.injEq,and_true]at e;exact e.1.symm
   subst K;have u:=D k (by rw[Ls _ _ (by rw[F6];exact G),F6];omega);have O:=E k;have d:=(Aa c).1.stored k (k:Int);rw[<-VK n k h,Nq _ _ (by rw[F6];exact h),VK n k h]at d;have q:=Ab (show _/\_/\_ from⟨d,(Aa c).2.1.kept (BA wr (w.heap.size+1) k (.int .i64 (k:Int))) (fun e=>by have:=Option.some.inj e;omega),(Aa c).2.2.setCell (p:=⟨w.heap.size+1,k,none⟩) (by show w.heap.size<=w.heap.size+1;omega) (.int .i64 (k:Int))⟩);clear D E d c e;go_wp2;go_roundw
   case rel=>exact⟨k+1,by omega,by go_num,Ab (Aa q)⟩
   case measure=>simp[intOf];omega
  ·obtain rfl:k=n:=by omega
   obtain⟨r,m,C⟩:=Aa c;have I:=m.at0;have J:=m.frz 0;have a:=NI (Gq k);rw[F6]at a;rw[a]at r;have o:=Ab (show _/\_/\_ from⟨(show Am _ _ _ _ from r.kept (BA _ w.heap.size 0 (.slice (some ⟨w.heap.size+1,0,none⟩) k k)) (Nat.lt_succ_self _)),m.set0 (.slice (some ⟨w.heap.size+1,0,none⟩) k k),C.setCell (p:=⟨w.heap.size,0,none⟩) (Nat.le_refl _) (.slice (some ⟨w.heap.size+1,0,none⟩) k k)⟩);clear c r m C a;go_wp2;exact bodyPost_ret (gu rfl (Aa o).2.1) rfl ⟨_,rfl,(Aa o).1.mono (Nat.le_succ _),(Aa o).2.2⟩
theorem XZ(k:Int)(n:Nat):∃m:Int,(∀(a:Array TypeId) (t:TypeId) (w:World),(Builtin.min_ a t #[.int .i64 k,.int .i64 (n:Int)]).run Tryz.prog w=.ok (.int .i64 m) w)/\∀i:Nat,(i:Int)<m↔i<min k.toNat n:=by
 refine⟨if (n:Int)<k then(n:Int)else k,fun a t w=>by rw[run_min_int2],fun i=>?_⟩;split<;>omega
theorem Am.lt'{v:Value}{xs:List Int}(h:Am w B v xs){k:Nat}(a:v.ownBlock=some k):B<=k:=(World.ownsRow.lt h k a).1
theorem YP{b:Nat}(h:Am w B (.slice (some ⟨b,0,none⟩) n n) (Gq n))(p:n<=1048576):
  Bn (w.alloc (.cells #[.slice (some ⟨b,0,none⟩) n n] 327)) w.heap.size B (w.heap.size+1) (Gq n):=by
 have d:w.ownsRow B 3 1 (.slice (some ⟨b,0,none⟩) n n) n (cellsZ (Gq n)):=by
  have j:=h;unfold Am at j;rwa[F6]at j
 rcases d.2 with⟨e,_⟩|⟨g,cap,l,e,m,o,q,s,r,ht⟩
 ·simp at e
 ·simp only[Value.slice.injEq,Option.some.injEq,Addr.mk.injEq,and_true]at e
  obtain⟨rfl,_,_⟩:=e;have f:=(Array.getElem?_eq_some_iff.1 o).1;have c:(w.alloc (.cells #[.slice (some ⟨b,0,none⟩) n n] 327)).heap[b]? =w.heap[b]? :=Below.heap_alloc _ _ _ f;refine⟨b,0,n,by rw[F6];exact Wn _ _ _,by rw[F6];exact Nat.le_refl _,p,⟨m,by omega,by omega,by omega,by omega⟩,fun i k=>?_,fun i=>?_⟩
  ·rw[Nat.zero_add,World.cell?_of_block (a:=⟨b,i,none⟩) c,d.cellAt i (by rw[F6]at k;omega),G8 _ i k]
  ·rw[World.frozen?_of_block (a:=⟨b,i,none⟩) c]
   exact d.frozenAt i
theorem cH(g B:Nat)(L:List Nat)(N n:Nat)(k:Int)(w:World)(h:Az w g B L N)(hB:B<=w.heap.size)(hN:N<=549755813888)(hn:n<=128):
  Calls Tryz.prog 197 #[.pointer (some ⟨g,0,none⟩),.int .i64 (n:Int),.int .i64 k] w fun e w'=> ∃v,e=.returned v/\Am w' w.heap.size v (A7 (Di L N n (min k.toNat n)))/\Az w' g B L (N+min k.toNat n)/\w.grownBy w' (some g):=by
 obtain⟨m,an,hm⟩:=XZ k n;have ao:=h.1;have ak:min k.toNat n<=n:=Nat.min_le_right _ _;generalize min k.toNat n=r at*;have HU:=Ab (qb n (by omega) w);have h0:¬((n:Int)<0):=by omega
 have h1:¬((128:Int)<(n:Int)):=by omega
 have X:=Ab h;have HM:=Ab hm;clear h hm;go_enter Tryz.func197,Tryz.ntmps197;go_wp2_with (go_at_call 235;refine(Aa HU).mono ?_;rintro e w1 ⟨b,rfl,I,d⟩;have u:=Ab I;have l:=Ab d;clear I d);go_loopw [8,25] (fun t i wr=> ∃q:Nat,q<=r/\i=.int .i64 q/\Hid (Am wr (w1.heap.size+1) t (A7 (Ef L N (List.range n) q))/\Bn wr w1.heap.size w.heap.size (w1.heap.size+1) (A7 (BY L N (List.range n) q))/\Az wr g B L (N+q)/\w.grownBy wr (some g)/\w1.heap.size+1<=wr.heap.size)) (fun _ i _=>r-(intOf i).toNat)
 case atStart=>
  have d:=Aa l;have hA:Below w.heap.size w1 (w1.alloc (.cells #[.slice (some ⟨b,0,none⟩) n n] 327)):=(Below.refl _ _).alloc d.size _;exact⟨0,Nat.zero_le _,rfl,Ab ⟨Am.nil _ _,YP (Aa u) (by omega),(Aa X).below ((d.trans hA).mono hB),CM (d.trans hA) _,by rw[Bc];exact Nat.le_refl _⟩⟩
 case round=>
  obtain⟨q,hq,rfl,Y⟩:=hrel;have ap:w.heap.size<=w1.heap.size:=(Aa l).size;have p:=Aa HM q;by_cases R:q<r
  ·have T:(q:Int)<m:=p.2 R
   obtain⟨y,hS,E,H,K⟩:=Aa Y;have f:=Nn L N (List.range n) q (by rw[List.length_range];omega);rw[List.length_range]at f;obtain⟨b',off,c,k1,k2,k3,k4,k5,k6⟩:=hS;have HS:=Ab (show Bn wr w1.heap.size w.heap.size (w1.heap.size+1) (A7 (BY L N (List.range n) q)) from⟨b',off,c,k1,k2,k3,k4,k5,k6⟩);have k0:=k1.at0;rw[Ig,f]at k0;have HX:=Ab (Tk g B L (N+q) (n-q) wr E (by omega) (by omega) (by omega));have hj:BH L (N+q+1)%(n-q)<n-q:=Nat.mod_lt _ (by omega);have HP:=Ab (show Ef L N (List.range n) (q+1)=Ef L N (List.range n) q++[(BY L N (List.range n) q).getD (BH L (N+q+1)%(n-q)) 0] from by show Ef L N (List.range n) q++_=_;rw[f]);have HL:=Ab (show BY L N (List.range n) (q+1)=(BY L N (List.range n) q).eraseIdx (BH L (N+q+1)%(n-q)) from by show(BY L N (List.range n) q).eraseIdx _=_;rw[f]);have W:(A7 (BY L N (List.range n) q)).getD (BH L (N+q+1)%(n-q)) 0=(((BY L N (List.range n) q).getD (BH L (N+q+1)%(n-q)) 0:Nat):Int):=LN _ _
   have hT:∀w2,Bn w2 w1.heap.size w.heap.size (w1.heap.size+1) (A7 (BY L N (List.range n) q))->w1.heap.size+1<=w2.heap.size->Calls Tryz.prog 236 #[.pointer (some ⟨w1.heap.size,0,none⟩),.int .i64 ((BH L (N+q+1)%(n-q):Nat):Int)] w2 fun e w'=>
     e=.returned (.int .i64 (((BY L N (List.range n) q).getD (BH L (N+q+1)%(n-q)) 0:Nat):Int))/\Bn w' w1.heap.size w.heap.size (w1.heap.size+1) (A7 (BY L N (List.range n) (q+1)))/\JW w.heap.size (w1.heap.size+1) w2 w':=by
    intro w2 al am;have:=nB w1.heap.size w.heap.size (w1.heap.size+1) (BH L (N+q+1)%(n-q)) _ w2 al (by rw[Ig,f];exact hj) am;rw[W,<-dk,<-Aa HL]at this;exact this
   have HT:=Ab hT;have HO:=Ab y;have HG:=Ab H;have ae:=Ab (Ly L N (List.range n) q);clear k1 k2 k3 k4 k5 k6 E y H hj f Y p u l HU X hT W HL;generalize (BY L N (List.range n) q).getD (BH L (N+q+1)%(n-q)) 0=x at*;generalize BH L (N+q+1)%(n-q)=j at*;go_wp2_with (first|(go_at_call 201;refine(Aa HX).mono ?_;rintro e w2 ⟨rfl,G,a⟩;have af:=Ab ((Aa HS).kept a (by omega) K);have ab:=Ab ((Aa HO).kept a (by have:=a.size;omega));have z:=Ab (By (Aa HG) a (.inl rfl));have Z:=Ab G;have C:=Ab (Nat.le_trans K a.size);clear G a)|(go_at_call 236;refine(Aa HT _ (Aa af) (Aa C)).mono ?_;rintro e w3 ⟨rfl,J,o⟩;have ag:=Ab J;have aa:=Ab o;have ac:=Ab ((Aa ab).mid o);have D:=Ab (Nat.le_trans (Aa C) o.size);clear J o)|(at_builtin;refine RE rfl _ _ rfl (w1.heap.size+1) u8 _ (x:Int) rfl rfl (Aa ac) (Aa D) (by rw[Ig,Aa ae];omega) ?_;intro s4 w4 S P;have ad:=Ab S;have s:=Ab P;clear S P));go_roundw
   case rel=>
    have V:w.heap.size<=w2.heap.size:=(Aa z).size;have aj:Below w.heap.size w2 w3:=(Aa aa).below V;have O:Below w.heap.size w2 w4:=aj.trans ((Aa s).mono (by omega));refine⟨q+1,by omega,by go_num,Ab ⟨?_,(Aa ag).below (Aa s),(Aa Z).below (O.mono hB),JJ (Aa z) O,Nat.le_trans (Aa D) (Aa s).size⟩⟩;rw[Aa HP,Rp];exact Aa ad
   case measure=>simp[intOf];omega
  ·have T:¬((q:Int)<m):=fun h=>R (p.1 h)
   obtain rfl:q=r:=by omega
   obtain⟨y,hS,E,H,K⟩:=Aa Y;have A:=Ab (V3 (w1.heap.size+1) u8 _ wr y (by rw[Ig,Ly];omega));rw[kJ L N n q ak]at A;have HO:=Ab y;have HG:=Ab H;have X:=Ab E;have HZ:=Ab K;clear y hS E H K Y p u l HU;go_wp2_with (go_at_call 237;refine(Aa A).mono ?_;rintro e w5 ⟨rfl,ai,ah⟩);go_ret;have Q:Below (w1.heap.size+1) wr w5:=CJ ah (Aa HZ) (fun k hk=>((Aa HO).lt' hk));exact⟨_,rfl,ai.mono (by omega),(Aa X).below (Q.mono (by omega)),JJ (Aa HG) (Q.mono (by omega))⟩
def Is{α:Type}(a b:α):Prop:=a=b
theorem Is.eq{α:Type}{a b:α}(h:Is a b):a=b:=h
theorem Am.atB{a:Option Addr}{c:Nat}{xs:List Int}(h:Am w B (.slice a n c) xs):IntzAt w a n xs:=by
 obtain⟨d,c1,e,b⟩:=h.ints;simp only[Value.slice.injEq]at e;obtain⟨rfl,rfl,rfl⟩:=e;exact b
theorem Own.atB{a:Option Addr}{c:Nat}{xs:List Nat}(h:Own w B (.slice a n c) xs):RowAt w a n xs:=by
 obtain⟨d,c1,e,b⟩:=h.row;simp only[Value.slice.injEq]at e;obtain⟨rfl,rfl,rfl⟩:=e;exact b
theorem ZZ(w:World)(n:Nat)(a:n<=1048576):
  Own (w.alloc (.cells (madeCells #[.int .u64 0] n) 265)) w.heap.size (.slice (some ⟨w.heap.size,0,none⟩) n n) (List.replicate n 0):=by
 refine⟨eE n,by simp[cellsU],.inr ⟨w.heap.size,n,madeCells #[.int .u64 0] n,by simp,Nat.le_refl _,heap_alloc_new w _,by simp,by unfold maxLen;omega,by simp[size_madeCells],?_⟩⟩;rw[toList_madeCells_one,List.take_of_length_le (by simp)];simp[cellsU]
theorem rJ(xs:List Nat)(i:Nat)(on:Bool):EZ xs (i:Int) on=Bz xs i on:=by
 unfold EZ;rw[if_neg (by omega),Int.toNat_natCast]
theorem la(k:Nat)(a:Option Addr)(n c:Nat)(ns:List Nat)(w:World)(h:IntzAt w a n (A7 ns))(Y:n<=1048576)(O:∀i,ns.getD i 0<=1048576):
  Calls Tryz.prog 196 #[.int .i64 (k:Int),.slice a n c] w fun e w'=> ∃v,e=.returned v/\Own w' w.heap.size v (Ei k ns)/\Below w.heap.size w w':=by
 have r:ns.length=n:=by rw[<-h.1,Ig]
 have W:=DW (k:Int);have K:=Ab (Hc (k:Int) w);have H:=Ab (fun j=>LC k (ns.take j));have A:=ZZ w (sizeOfK (k:Int)) (by omega);rw[<-rA k,show([]:List Nat)=ns.take 0 from rfl]at A;have p:Below w.heap.size w (w.alloc (.cells (madeCells #[.int .u64 0] (sizeOfK (k:Int))) 265)):=(Below.refl _ _).alloc (Nat.le_refl _) _;have C:=QG (sizeOfK (k:Int)) (by omega) w;have I:=Ab A;have D:=Ab p;have G:=Ab h;have u:=Ab r;have E:=Ab O;have J:=Ab (fun j R=>mR k ns j R);clear A p h r O;generalize sizeOfK (k:Int)=m at*;generalize w.alloc (.cells (madeCells #[.int .u64 0] m) 265)=w0 at*;go_enter Tryz.func196,Tryz.ntmps196;go_wp2_with (go_at_call 176;refine(Aa K).mono ?_;rintro e w1 ⟨rfl,T⟩;obtain rfl:=T.symm;clear T);go_loopw [5,13] (fun v i wr=> ∃(j:Nat) (b:Option Addr) (s:Nat),j<=n/\i=.int .i64 j/\v=.slice b m s/\Hid (Own wr w.heap.size (.slice b m s) (Ei k (ns.take j))/\Below w.heap.size w wr)) (fun _ i _=>n-(intOf i).toNat)
 case atStart=>exact⟨0,_,_,Nat.zero_le _,rfl,rfl,Ab ⟨Aa I,Aa D⟩⟩
 case round=>
  rename_i wr;obtain⟨j,b,s,R,rfl,rfl,l⟩:=hrel;clear I D C K;by_cases o:j<n
  ·have S:(j:Int)<(n:Int):=by omega
   obtain⟨X,off,rfl,P⟩:=((Aa G).below (Aa l).2).at o;have d:=P j o;rw[LN]at d;have Z:=Aa E j;have z:=Ab (WV b m s _ ((ns.getD j 0:Nat):Int) true wr (Aa l).1.atB (by omega) (by omega));rw[rJ,<-Aa J j (by rw[Aa u];exact o)]at z;generalize ns.getD j 0=x at*;clear P;go_wp2_with fail;refine(Aa z).mono ?_;rintro e w2 ⟨v2,rfl,f,q⟩;obtain⟨V,c2,rfl, -⟩:=f.row;rw[Aa H]at f⊢;have y:=Ab (show _/\_ from⟨f.mono (Aa l).2.size,Ad (Aa l).2 q⟩);clear f q l d z;go_wp2;go_roundw
   case rel=>exact⟨j+1,V,c2,by omega,by go_num,rfl,y⟩
   case measure=>simp[intOf];omega
  ·obtain rfl:j=n:=by omega
   have Q:ns.take j=ns:=List.take_of_length_le (by rw[Aa u];exact Nat.le_refl _);rw[Q]at l;clear Q G u E J H;go_wp2;go_ret;exact⟨_,rfl,(Aa l).1,(Aa l).2⟩
theorem AW.kept{v0 b c v3 v4 v5 d:Value}{row:Option Nat}(h:AW w g v0 b c v3 v4 v5 d)(e:w.grownBy w' row)(a:some g≠row):AW w' g v0 b c v3 v4 v5 d:=(e.block g h.lt a).trans h
theorem Az.blk(h:Az w g B L N):∃a n c,AV 246 w g (.slice a n c) (.int .i64 (N:Int)):=by
 obtain⟨d,e,a,n,c,b,_⟩:=h;exact⟨a,n,c,b⟩
theorem Bm.drawn{b:Nat}{o l z:Int}{s:Nat}{ss:List ByteArray}(h:Bm w g o l z s ss)(f:w.grownBy w' (some b))(e:Az w b B L N):Bm w' g o l z s ss:=by
 obtain⟨a,n,c,d⟩:=e.blk;exact h.kept f d
theorem BX.kept{k:Nat}{T:TypeId}{d:Option Addr}{m f:Nat}{i:Int}(h:BX w)(l:w.grownBy w' (some k))(b:AV T w k (.slice d m f) (.int .i64 i)):BX w':=by
 intro j c;refine l.cell (h j c) (fun e=>?_);have e:1=k:=Option.some.inj e;subst e;have a:=h j c;unfold AV at b;rw[cell_of_row w 1 _ _ _ _ b]at a
 match j,a with
 |0,a=>simp at a
 |1,a=>simp at a
 |q+2,a=>simp at a
theorem BX.drawn{b:Nat}(h:BX w)(f:w.grownBy w' (some b))(e:Az w b B L N):BX w':=by
 obtain⟨a,n,c,d⟩:=e.blk;exact h.kept f d
theorem dD{tmps:Array Value}{W:World}{u0 u1 u2 u3 u4 u5 u6:Value}(b:tmps.getD 4 undef=.pointer (some ⟨g,0,none⟩))(c:AW W g u0 u1 u2 u3 u4 u5 u6):
  (results Tryz.f167 tmps).run Tryz.prog W=.ok (.agg #[u0,u1,u2,u3,u4,u5,u6]) W:=by
 obtain⟨d,e,f,h,i,j,k⟩:=c.at;have a:tmps[4]?.getD undef=.pointer (some ⟨g,0,none⟩):=by simpa using b
 simp[results,Tryz.results167,go_sem,a,d,e,f,h,i,j,k]
theorem nt(g H B:Nat)(o l z:Int)(s k:Nat)(ss:List ByteArray)(L:List Nat)(N:Nat)(w:World)(r:Bm w g o l z s ss)(hk:ss.length=k)(h1:1<=k)(h2:k<=128)(hs:s<=k)(ah:shorts ss)(ht:BX w)
  (A:Az w H B L N) (hB:B<=w.heap.size) (hN:N<=274877906944):
  Calls Tryz.prog 167 #[.pointer (some ⟨g,0,none⟩),.pointer (some ⟨H,0,none⟩)] w fun e w'=> ∃a c,e=.returned (.agg #[.int .i64 o,.int .i64 l,.int .i64 (k:Int),.int .i64 z,.int .i64 0,.slice a (sizeOfK (k:Int)) c,.string (st (Bp ss (Dj k s L N) k))])/\
   RowAt w' a (sizeOfK (k:Int)) (Dj k s L N)/\Az w' H B L (Nb k s L N)/\w.grownBy w' (some H):=by
 have ar:=A.1;have hL:=A.2.1;have B0:=Ab (Bt w (.cells #[.int .i64 0,.int .i64 0,.int .i64 0,.int .i64 0,.int .i64 0,.slice none 0 0,.string ⟨#[]⟩] 75));have X0:=Ab (CL w (.int .i64 0) (.int .i64 0) (.int .i64 0) (.int .i64 0) (.int .i64 0) (.slice none 0 0) (.string ⟨#[]⟩));have S0:=Ab (r.below (Aa B0));have D0:=Ab (A.below ((Aa B0).mono hB));have au:w.heap.size≠g:=by
  obtain⟨a,c,⟨k0,_⟩,_⟩:=r;exact Nat.ne_of_gt (World.block_lt_of_cell? w ⟨g,0,none⟩ k0)
 have HT:=Ab (lZ k s h1 h2 hs _ (ht.below (Aa B0)));have HK:=Ab (YK g o l z s ss _ (Aa S0));rw[hk]at HK;have D:=(show _ from(Aa S0));obtain⟨_,_,⟨_,_,_,_,D⟩,_⟩:=D;have aj:=Ab hk;have ao:=Ab ah;have C:=Pq k s L N h1 (by omega);have al:Is (Nb k s L N) (N+1+degL k s L N):=rfl;have HV:Is (Dj k s L N) (Ei k (Di L (N+1) k (degL k s L N))):=rfl;have X:=Ab (fun a c wx (hi:IntzAt wx a k (tableL k s))=>(show Calls Tryz.prog 193 #[.slice a k c,.int .u64 ((BH L (N+1):Nat):Int)] wx fun e w'=>e=.returned (.int .i64 ((degL k s L N:Nat):Int))/\w'=wx from mi a k c (tableL k s) (BH L (N+1)) wx hi (by omega) (by have:=iJ k s h2 (by omega);omega) (Vn hL _)));have T:=Ab (fun wx A=>Ta H B L N wx A (by omega));have G:=Ab (fun wx A hb=>cH H B L (N+1) k ((degL k s L N:Nat):Int) wx A hb (by omega) h2);rw[Yg k s L N h1 (by omega)]at G;have R:=Ab (Ru L (N+1) k (degL k s L N) C.2)
 have S:=Ab (show∀i,(Di L (N+1) k (degL k s L N)).getD i 0<=1048576 from fun i=>by
  by_cases hi:i<(Di L (N+1) k (degL k s L N)).length
  ·have:=oo L (N+1) k (degL k s L N) i hi
   omega
  ·rw[F5 (by omega)];omega)
 have ap:=Ab (eL k s L N);have av:=DW (k:Int);have Z:=Ab (G9 k s);clear r A ht hk ah hL;generalize Dj k s L N=vs at*;generalize Nb k s L N=nn at*;generalize degL k s L N=dg at*;generalize BH L (N+1)=x at*;generalize Di L (N+1) k dg=ns at*;generalize tableL k s=tb at*;generalize sizeOfK (k:Int)=m at*;have aq:dg<=128:=by omega
 clear C;go_enter Tryz.func167,Tryz.ntmps167
 go_wp2_with (first
  |(go_at_call 192;refine(Aa HK).mono ?_;rintro e w' ⟨rfl,hw⟩;obtain rfl:=hw.symm;clear hw)
  |(go_at_call 194;refine(Aa HT).mono ?_;rintro e w1 ⟨v1,rfl,y,f⟩;obtain⟨a1,c1,rfl,I⟩:=y.ints;rw[Aa Z]at y I⊢;have V:=Ab y;have ak:=Ab I;have B1:=Ab (Ad (Aa B0) f);have S1:=Ab ((Aa S0).below f);have X1:=Ab ((Aa X0).below f);have D1:=Ab ((Aa D0).below (f.mono (by rw[Bc];omega)));have Z1:=Ab f.size;clear y I f)
  |(go_at_call 195;refine(Aa T _ (Aa D1)).mono ?_;rintro e w2 ⟨rfl,ae,j⟩;have W:=Ab ((Aa V).kept j (by rw[Bc];omega)).atB;have S2:=Ab ((Aa S1).drawn j (Aa D1));have X2:=Ab ((Aa X1).kept j (fun e=>by have:=Option.some.inj e;omega));have D2:=Ab ae;have G2:=Ab (By (CM (Aa B1) (some H)) j (.inl rfl));clear ae j)
  |(go_at_call 193;refine(Aa X _ _ _ (Aa W)).mono ?_;rintro e w' ⟨rfl,hw⟩;obtain rfl:=hw.symm;clear hw)
  |(go_at_call 197;refine(Aa G _ (Aa D2) (Nat.le_trans hB (Aa G2).size)).mono ?_;rintro e w3 ⟨v3,rfl,ag,af,v⟩;obtain⟨a3,c3,rfl,J⟩:=ag.ints;rw[Ig,Aa R]at J⊢;have Q:=Ab J;have S3:=Ab ((Aa S2).drawn v (Aa D2));have X3:=Ab ((Aa X2).kept v (fun e=>by have:=Option.some.inj e;omega));have D3:=Ab af;have G3:=Ab (By (Aa G2) v (.inl rfl));clear ag J af v)
  |(go_at_call 196;refine(la k a3 dg c3 ns _ (Aa Q) (by omega) (Aa S)).mono ?_;rintro e P ⟨v4,rfl,q,h⟩;rw[<-HV.eq]at q;obtain⟨a4,c4,rfl,K⟩:=q.row;rw[Aa ap]at q K⊢;have am:=Ab q;have Y:=Ab K;have S4:=Ab ((Aa S3).below h);have X4:=Ab ((Aa X3).below h);have D4:=Ab ((Aa D3).below (h.mono (Nat.le_trans hB (Aa G3).size)));have G4:=Ab (JJ (Aa G3) (h.mono (Aa G3).size));have Z3:=Ab (Aa X3).lt;clear q K h))
 obtain⟨aa,ab,⟨k0,k1,k2,k3,_⟩,O⟩:=Aa S4;rw[Aa aj]at k3 O;have an:=Ab (fun wx (hb:Below P.heap.size P wx)=>QL aa k ab ss a4 m c4 vs wx (O.below hb) (Aa ao) (by omega) ((Aa Y).below hb) (by omega));clear O HT HK X T G Z HV R S V ak B1 S1 X1 D1 Z1 W S2 X2 D2 G2 Q S3 X3 D3 G3 S0 D0 X0;have d:g<P.heap.size:=World.block_lt_of_cell? P ⟨g,0,none⟩ k0
 go_region_held (fun w'=>w'.cell? ⟨g,0,none⟩=some (.int .i64 o)/\w'.cell? ⟨g,1,none⟩=some (.int .i64 l)/\w'.cell? ⟨g,2,none⟩=some (.int .i64 z)/\w'.cell? ⟨g,3,none⟩=some (.slice aa k ab)) (go_keep)
  (first|(go_at_call 198;refine(Aa an _ (Below.refl _ _).drew).mono ?_;rintro e w5 ⟨rfl,ac⟩;have b:Below P.heap.size P w5:=(Below.refl _ _).drew.trans ac;have q0:=(b.cell (p:=⟨g,0,none⟩) d).trans k0;have q1:=(b.cell (p:=⟨g,1,none⟩) d).trans k1;have q2:=(b.cell (p:=⟨g,2,none⟩) d).trans k2;have q3:=(b.cell (p:=⟨g,3,none⟩) d).trans k3;have u:=(Aa X4).below b;obtain⟨y0,y1,y2,y3,y4,y5,y6⟩:=u.at;have f0:=u.frz 0;have f1:=u.frz 1;have f2:=u.frz 2;have f3:=u.frz 3;have f4:=u.frz 4;have f5:=u.frz 5;have f6:=u.frz 6;have X5:=Ab u;have E:=Ab b;clear u b ac))
 go_wp2;have ai:w.heap.size<=P.heap.size:=(Aa G4).size
 refine bodyPost_ret (dD rfl ((Aa X5).sets (.int .i64 o) (.int .i64 l) (.int .i64 (k:Int)) (.int .i64 z) (.int .i64 0) (.slice a4 m c4) (.string (st (Bp ss vs k))))) rfl
  ⟨a4,c4,rfl,((Aa Y).below (Aa E)).other7 (fun ad ha hm=>?_) _ _ _ _ _ _ _,?_,JJ (Aa G4) (CC ((Aa E).mono ai) (Nat.le_refl _) _ _ _ _ _ _ _)⟩
 ·have h1:=(Aa am).apart ad ha hm
  have h2:=Aa Z3;omega
 ·rw[al.eq]
  exact(Aa D4).below (CC ((Aa E).mono (Nat.le_trans hB ai)) hB _ _ _ _ _ _ _)
end Go.Proofs.YtmmikiikddokgaaGreatDoor
