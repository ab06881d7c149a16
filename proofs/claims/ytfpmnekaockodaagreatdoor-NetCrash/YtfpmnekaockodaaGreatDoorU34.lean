/- Laws for the proof. -/
import Derived.Test.YtfpmnekaockodaaGreatDoorU33
import Derived.OneCell
set_option linter.all false
open Go.Proofs.Tryz
open Go.Value renaming int->U,slice->γ,string->δ,slice->ο,pointer->ρ
open Go.IntKind renaming i64->β
open Nat renaming le_refl->ε,le_trans->σ,lt_succ_self->υ,zero_le->ψ
open List renaming range->ζ,take_of_length_le->φ,length_range->χ
open Option renaming none->η,some->ι
open Go.Obj renaming cells->θ
open Go.RowKit.Below renaming refl->κ
open Go.Value.slice renaming injEq->μ
open Go.Proofs.Tryz renaming prog->ν
open Go.Ending renaming returned->ξ
open Go.RowKit renaming Below->π
open Go renaming World->ς,Value->τ
namespace Go.Proofs.YtfpmnekaockodaaGreatDoor
open Go.RowKit Go.Sort
set_option maxRecDepth 4000
set_option maxHeartbeats 8000000
variable {g B n:Nat}{w:ς}
def GB(n:Nat):List Int:=A4 (ζ n)
def Gf(n:Nat):(GB n).length=n:=by simp[GB,A4]
def VI(n i:Nat)(h:i<n):(GB n).getD i 0=(i:Int):=by
 rw[GB,L2];simp[List.getD_eq_getElem?_getD,h]
def iS{tmps:Array τ}{W:ς}{u0:τ}(b:tmps.getD 2 undef=.pointer (ι ⟨g,0,η⟩))(c:Ck 327 W g u0):
  (results Tryz.f235 tmps).run ν W=.ok (.agg #[u0]) W:=by
 have d:=c.at0;have a:tmps[2]?.getD undef=.pointer (ι ⟨g,0,η⟩):=by simpa using b
 simp[results,Tryz.results235,go_sem,a,d]
def XV(n:Nat)(I:n<=1048576)(w:ς):
  Calls ν 235 #[U β (n:Int)] w fun e w'=> ∃b,e=ξ (.agg #[γ (ι ⟨b,0,η⟩) n n])/\Am w' w.heap.size (γ (ι ⟨b,0,η⟩) n n) (GB n)/\π w.heap.size w w':=by
 have v:=Mf n I (w.alloc (θ #[γ none 0 0] 327));have s:=Me (w.alloc (θ #[γ none 0 0] 327)) n I (List.replicate n 0) rfl;have z:=Ab (WS 327 w (γ none 0 0));have l:=A7 w (θ #[γ none 0 0] 327);have f:π w.heap.size w (w.alloc (θ #[γ none 0 0] 327)):=(κ _ _).alloc (ε _) _;rw[l]at s v;have j:Am ((w.alloc (θ #[γ none 0 0] 327)).alloc (θ (madeCells #[U β 0] n) 3)) (w.heap.size+1) (γ (ι ⟨w.heap.size+1,0,η⟩) n n) (Da (GB n) 0):=by
  rw[NI,Gf];exact s
 have y:=Ab j;have x:=Ab (f.alloc f.size (θ (madeCells #[U β 0] n) 3));have A:=Ab ((Aa z).belowB ((κ (w.heap.size+1) (w.alloc (θ #[γ none 0 0] 327))).alloc (by rw[l];exact ε _) (θ (madeCells #[U β 0] n) 3)) (υ _));clear s j f z;go_enter func235,ntmps235;go_wp2;go_loopw [9] (fun i wr=> ∃k:Nat,k<=n/\i=U β k/\Hid (Am wr (w.heap.size+1) (γ (ι ⟨w.heap.size+1,0,η⟩) n n) (Da (GB n) k)/\Ck 327 wr w.heap.size (γ none 0 0)/\π w.heap.size w wr)) (fun i _=>n-(intOf i).toNat)
 case atStart=>exact⟨0,ψ _,rfl,Ab ⟨Aa y,Aa A,Aa x⟩⟩
 case round=>
  obtain⟨k,H,rfl,c⟩:=hrel;clear y A x;by_cases h:k<n
  ·obtain⟨g,cap,e,_,O,D,E⟩:=(Aa c).1.at (by rw[LG _ _ (by rw[Gf];exact H),Gf];omega)
   have L:g=w.heap.size+1:=by
    simp only[μ,Option.some.injEq,Addr.mk.injEq,and_true]at e;exact e.1.symm
   subst L;have u:=D k (by rw[LG _ _ (by rw[Gf];exact H),Gf];omega);have N:=E k;have d:=(Aa c).1.stored k (k:Int);rw[<-VI n k h,NH _ _ (by rw[Gf];exact h),VI n k h]at d;have q:=Ab (show _/\_/\_ from⟨d,(Aa c).2.1.kept (Bz wr (w.heap.size+1) k (U β (k:Int))) (fun e=>by have:=Option.some.inj e;omega),(Aa c).2.2.setCell (p:=⟨w.heap.size+1,k,η⟩) (by show w.heap.size<=w.heap.size+1;omega) (U β (k:Int))⟩);clear D E d c e;go_wp2;go_roundw
   case rel=>exact⟨k+1,by omega,by go_num,Ab (Aa q)⟩
   case measure=>simp[intOf];omega
  ·obtain rfl:k=n:=by omega
   obtain⟨r,m,C⟩:=Aa c;have J:=m.at0;have K:=m.frz 0;have a:=NS (GB k);rw[Gf]at a;rw[a]at r;have o:=Ab (show _/\_/\_ from⟨(show Am _ _ _ _ from r.kept (Bz _ w.heap.size 0 (γ (ι ⟨w.heap.size+1,0,η⟩) k k)) (υ _)),m.set0 (γ (ι ⟨w.heap.size+1,0,η⟩) k k),C.setCell (p:=⟨w.heap.size,0,η⟩) (ε _) (γ (ι ⟨w.heap.size+1,0,η⟩) k k)⟩);clear c r m C a;go_wp2;exact bodyPost_ret (iS rfl (Aa o).2.1) rfl ⟨_,rfl,(Aa o).1.mono (Nat.le_succ _),(Aa o).2.2⟩
def ZI(k:Int)(n:Nat):∃m:Int,(∀(a:Array TypeId) (t:TypeId) (w:ς),(Builtin.min_ a t #[U β k,U β (n:Int)]).run ν w=.ok (U β m) w)/\∀i:Nat,(i:Int)<m↔i<min k.toNat n:=by
 refine⟨if (n:Int)<k then(n:Int)else k,fun a t w=>by rw[run_min_int2],fun i=>?_⟩;split<;>omega
def Am.lt'{v:τ}{xs:List Int}(h:Am w B v xs){k:Nat}(a:v.ownBlock=ι k):B<=k:=(World.ownsRow.lt h k a).1
def aP{b:Nat}(h:Am w B (γ (ι ⟨b,0,η⟩) n n) (GB n))(p:n<=1048576):
  Bk (w.alloc (θ #[γ (ι ⟨b,0,η⟩) n n] 327)) w.heap.size B (w.heap.size+1) (GB n):=by
 have d:w.ownsRow B 3 1 (γ (ι ⟨b,0,η⟩) n n) n (cellsZ (GB n)):=by
  have j:=h;unfold Am at j;rwa[Gf]at j
 rcases d.2 with⟨e,_⟩|⟨g,cap,l,e,m,o,q,s,r,ht⟩
 ·simp at e
 ·simp only[μ,Option.some.injEq,Addr.mk.injEq,and_true]at e
  obtain⟨rfl,_,_⟩:=e;have f:=(Array.getElem?_eq_some_iff.1 o).1;have c:(w.alloc (θ #[γ (ι ⟨b,0,η⟩) n n] 327)).heap[b]? =w.heap[b]? :=Below.heap_alloc _ _ _ f;refine⟨b,0,n,by rw[Gf];exact WS _ _ _,by rw[Gf];exact ε _,p,⟨m,by omega,by omega,by omega,by omega⟩,fun i k=>?_,fun i=>?_⟩
  ·rw[Nat.zero_add,World.cell?_of_block (a:=⟨b,i,η⟩) c,d.cellAt i (by rw[Gf]at k;omega),Hp _ i k]
  ·rw[World.frozen?_of_block (a:=⟨b,i,η⟩) c]
   exact d.frozenAt i
def eY(g B:Nat)(L:List Nat)(N n:Nat)(k:Int)(w:ς)(h:AF w g B L N)(hB:B<=w.heap.size)(hN:N<=549755813888)(hn:n<=128):
  Calls ν 197 #[.pointer (ι ⟨g,0,η⟩),U β (n:Int),U β k] w fun e w'=> ∃v,e=ξ v/\Am w' w.heap.size v (A4 (Dd L N n (min k.toNat n)))/\AF w' g B L (N+min k.toNat n)/\w.grownBy w' (ι g):=by
 obtain⟨m,ao,hm⟩:=ZI k n;have ap:=h.1;have al:min k.toNat n<=n:=Nat.min_le_right _ _;generalize min k.toNat n=r at*;have HU:=Ab (XV n (by omega) w);have h0:¬((n:Int)<0):=by omega
 have h1:¬((128:Int)<(n:Int)):=by omega
 have Y:=Ab h;have HM:=Ab hm;clear h hm;go_enter func197,ntmps197;go_wp2_with (go_at_call 235;refine(Aa HU).mono ?_;rintro e w1 ⟨b,rfl,J,d⟩;have u:=Ab J;have l:=Ab d;clear J d);go_loopw [8,25] (fun t i wr=> ∃q:Nat,q<=r/\i=U β q/\Hid (Am wr (w1.heap.size+1) t (A4 (Eg L N (ζ n) q))/\Bk wr w1.heap.size w.heap.size (w1.heap.size+1) (A4 (BV L N (ζ n) q))/\AF wr g B L (N+q)/\w.grownBy wr (ι g)/\w1.heap.size+1<=wr.heap.size)) (fun _ i _=>r-(intOf i).toNat)
 case atStart=>
  have d:=Aa l;have hA:π w.heap.size w1 (w1.alloc (θ #[γ (ι ⟨b,0,η⟩) n n] 327)):=(κ _ _).alloc d.size _;exact⟨0,ψ _,rfl,Ab ⟨Am.nil _ _,aP (Aa u) (by omega),(Aa Y).below ((d.trans hA).mono hB),CD (d.trans hA) _,by rw[A7];exact ε _⟩⟩
 case round=>
  obtain⟨q,hq,rfl,Z⟩:=hrel;have aq:w.heap.size<=w1.heap.size:=(Aa l).size;have p:=Aa HM q;by_cases S:q<r
  ·have V:(q:Int)<m:=p.2 S
   obtain⟨y,hS,E,I,O⟩:=Aa Z;have f:=NE L N (ζ n) q (by rw[χ];omega);rw[χ]at f;obtain⟨b',off,c,k1,k2,k3,k4,k5,k6⟩:=hS;have HS:=Ab (show Bk wr w1.heap.size w.heap.size (w1.heap.size+1) (A4 (BV L N (ζ n) q)) from⟨b',off,c,k1,k2,k3,k4,k5,k6⟩);have k0:=k1.at0;rw[Ir,f]at k0;have HX:=Ab (Ub g B L (N+q) (n-q) wr E (by omega) (by omega) (by omega));have hj:BF L (N+q+1)%(n-q)<n-q:=Nat.mod_lt _ (by omega);have HP:=Ab (show Eg L N (ζ n) (q+1)=Eg L N (ζ n) q++[(BV L N (ζ n) q).getD (BF L (N+q+1)%(n-q)) 0] from by show Eg L N (ζ n) q++_=_;rw[f]);have HL:=Ab (show BV L N (ζ n) (q+1)=(BV L N (ζ n) q).eraseIdx (BF L (N+q+1)%(n-q)) from by show(BV L N (ζ n) q).eraseIdx _=_;rw[f]);have X:(A4 (BV L N (ζ n) q)).getD (BF L (N+q+1)%(n-q)) 0=(((BV L N (ζ n) q).getD (BF L (N+q+1)%(n-q)) 0:Nat):Int):=L2 _ _
   have hT:∀w2,Bk w2 w1.heap.size w.heap.size (w1.heap.size+1) (A4 (BV L N (ζ n) q))->w1.heap.size+1<=w2.heap.size->Calls ν 236 #[.pointer (ι ⟨w1.heap.size,0,η⟩),U β ((BF L (N+q+1)%(n-q):Nat):Int)] w2 fun e w'=>
     e=ξ (U β (((BV L N (ζ n) q).getD (BF L (N+q+1)%(n-q)) 0:Nat):Int))/\Bk w' w1.heap.size w.heap.size (w1.heap.size+1) (A4 (BV L N (ζ n) (q+1)))/\Kg w.heap.size (w1.heap.size+1) w2 w':=by
    intro w2 am an;have:=nY w1.heap.size w.heap.size (w1.heap.size+1) (BF L (N+q+1)%(n-q)) _ w2 am (by rw[Ir,f];exact hj) an;rw[X,<-eg,<-Aa HL]at this;exact this
   have HT:=Ab hT;have HO:=Ab y;have HG:=Ab I;have af:=Ab (LM L N (ζ n) q);clear k1 k2 k3 k4 k5 k6 E y I hj f Z p u l HU Y hT X HL;generalize (BV L N (ζ n) q).getD (BF L (N+q+1)%(n-q)) 0=x at*;generalize BF L (N+q+1)%(n-q)=j at*;go_wp2_with (first|(go_at_call 201;refine(Aa HX).mono ?_;rintro e w2 ⟨rfl,H,a⟩;have ag:=Ab ((Aa HS).kept a (by omega) O);have ac:=Ab ((Aa HO).kept a (by have:=a.size;omega));have z:=Ab (Bx (Aa HG) a (.inl rfl));have aa:=Ab H;have C:=Ab (σ O a.size);clear H a)|(go_at_call 236;refine(Aa HT _ (Aa ag) (Aa C)).mono ?_;rintro e w3 ⟨rfl,K,o⟩;have ah:=Ab K;have ab:=Ab o;have ad:=Ab ((Aa ac).mid o);have D:=Ab (σ (Aa C) o.size);clear K o)|(at_builtin;refine RO rfl _ _ rfl (w1.heap.size+1) u8 _ (x:Int) rfl rfl (Aa ad) (Aa D) (by rw[Ir,Aa af];omega) ?_;intro s4 w4 T Q;have ae:=Ab T;have s:=Ab Q;clear T Q));go_roundw
   case rel=>
    have W:w.heap.size<=w2.heap.size:=(Aa z).size;have ak:π w.heap.size w2 w3:=(Aa ab).below W;have P:π w.heap.size w2 w4:=ak.trans ((Aa s).mono (by omega));refine⟨q+1,by omega,by go_num,Ab ⟨?_,(Aa ah).below (Aa s),(Aa aa).below (P.mono hB),JV (Aa z) P,σ (Aa D) (Aa s).size⟩⟩;rw[Aa HP,RR];exact Aa ae
   case measure=>simp[intOf];omega
  ·have V:¬((q:Int)<m):=fun h=>S (p.1 h)
   obtain rfl:q=r:=by omega
   obtain⟨y,hS,E,I,O⟩:=Aa Z;have A:=Ab (V0 (w1.heap.size+1) u8 _ wr y (by rw[Ir,LM];omega));rw[km L N n q al]at A;have HO:=Ab y;have HG:=Ab I;have Y:=Ab E;have HZ:=Ab O;clear y hS E I O Z p u l HU;go_wp2_with (go_at_call 237;refine(Aa A).mono ?_;rintro e w5 ⟨rfl,aj,ai⟩);go_ret;have R:π (w1.heap.size+1) wr w5:=CA ai (Aa HZ) (fun k hk=>((Aa HO).lt' hk));exact⟨_,rfl,aj.mono (by omega),(Aa Y).below (R.mono (by omega)),JV (Aa HG) (R.mono (by omega))⟩
def Is{α:Type}(a b:α):Prop:=a=b
def Is.eq{α:Type}{a b:α}(h:Is a b):a=b:=h
def Am.atB{a:Option Addr}{c:Nat}{xs:List Int}(h:Am w B (γ a n c) xs):IntzAt w a n xs:=by
 obtain⟨d,c1,e,b⟩:=h.ints;simp only[μ]at e;obtain⟨rfl,rfl,rfl⟩:=e;exact b
def Own.atB{a:Option Addr}{c:Nat}{xs:List Nat}(h:Own w B (γ a n c) xs):RowAt w a n xs:=by
 obtain⟨d,c1,e,b⟩:=h.row;simp only[μ]at e;obtain⟨rfl,rfl,rfl⟩:=e;exact b
def ZV(w:ς)(n:Nat)(a:n<=1048576):
  Own (w.alloc (θ (madeCells #[U .u64 0] n) 265)) w.heap.size (γ (ι ⟨w.heap.size,0,η⟩) n n) (List.replicate n 0):=by
 refine⟨ei n,by simp[cellsU],.inr ⟨w.heap.size,n,madeCells #[U .u64 0] n,by simp,ε _,heap_alloc_new w _,by simp,by unfold maxLen;omega,by simp[size_madeCells],?_⟩⟩;rw[toList_madeCells_one,φ (by simp)];simp[cellsU]
def qz(xs:List Nat)(i:Nat)(on:Bool):E7 xs (i:Int) on=By xs i on:=by
 unfold E7;rw[if_neg (by omega),Int.toNat_natCast]
def mT(k:Nat)(a:Option Addr)(n c:Nat)(ns:List Nat)(w:ς)(h:IntzAt w a n (A4 ns))(X:n<=1048576)(N:∀i,ns.getD i 0<=1048576):
  Calls ν 196 #[U β (k:Int),γ a n c] w fun e w'=> ∃v,e=ξ v/\Own w' w.heap.size v (El k ns)/\π w.heap.size w w':=by
 have r:ns.length=n:=by rw[<-h.1,Ir]
 have V:=DU (k:Int);have L:=Ab (Hr (k:Int) w);have I:=Ab (fun j=>LR k (ns.take j));have A:=ZV w (sizeOfK (k:Int)) (by omega);rw[<-rb k,show([]:List Nat)=ns.take 0 from rfl]at A;have p:π w.heap.size w (w.alloc (θ (madeCells #[U .u64 0] (sizeOfK (k:Int))) 265)):=(κ _ _).alloc (ε _) _;have C:=Q1 (sizeOfK (k:Int)) (by omega) w;have J:=Ab A;have D:=Ab p;have H:=Ab h;have u:=Ab r;have E:=Ab N;have K:=Ab (fun j Q=>mS k ns j Q);clear A p h r N;generalize sizeOfK (k:Int)=m at*;generalize w.alloc (θ (madeCells #[U .u64 0] m) 265)=w0 at*;go_enter func196,ntmps196;go_wp2_with (go_at_call 176;refine(Aa L).mono ?_;rintro e w1 ⟨rfl,S⟩;obtain rfl:=S.symm;clear S);go_loopw [5,13] (fun v i wr=> ∃(j:Nat) (b:Option Addr) (s:Nat),j<=n/\i=U β j/\v=γ b m s/\Hid (Own wr w.heap.size (γ b m s) (El k (ns.take j))/\π w.heap.size w wr)) (fun _ i _=>n-(intOf i).toNat)
 case atStart=>exact⟨0,_,_,ψ _,rfl,rfl,Ab ⟨Aa J,Aa D⟩⟩
 case round=>
  rename_i wr;obtain⟨j,b,s,Q,rfl,rfl,l⟩:=hrel;clear J D C L;by_cases o:j<n
  ·have R:(j:Int)<(n:Int):=by omega
   obtain⟨W,off,rfl,O⟩:=((Aa H).below (Aa l).2).at o;have d:=O j o;rw[L2]at d;have Y:=Aa E j;have z:=Ab (Xt b m s _ ((ns.getD j 0:Nat):Int) true wr (Aa l).1.atB (by omega) (by omega));rw[qz,<-Aa K j (by rw[Aa u];exact o)]at z;generalize ns.getD j 0=x at*;clear O;go_wp2_with fail;refine(Aa z).mono ?_;rintro e w2 ⟨Z,rfl,f,q⟩;obtain⟨T,c2,rfl, -⟩:=f.row;rw[Aa I]at f⊢;have y:=Ab (show _/\_ from⟨f.mono (Aa l).2.size,Ad (Aa l).2 q⟩);clear f q l d z;go_wp2;go_roundw
   case rel=>exact⟨j+1,T,c2,by omega,by go_num,rfl,y⟩
   case measure=>simp[intOf];omega
  ·obtain rfl:j=n:=by omega
   have P:ns.take j=ns:=φ (by rw[Aa u];exact ε _);rw[P]at l;clear P H u E K I;go_wp2;go_ret;exact⟨_,rfl,(Aa l).1,(Aa l).2⟩
def AS.kept{w':ς}{v0 b c v3 v4 v5 d:τ}{row:Option Nat}(h:AS w g v0 b c v3 v4 v5 d)(e:w.grownBy w' row)(a:ι g≠row):AS w' g v0 b c v3 v4 v5 d:=(e.block g h.lt a).trans h
def AF.blk{L:List Nat}{N:Nat}(h:AF w g B L N):∃a n c,A5 246 w g (γ a n c) (U β (N:Int)):=by
 obtain⟨d,e,a,n,c,b,_⟩:=h;exact⟨a,n,c,b⟩
def Bj.drawn{w':ς}{b:Nat}{o l z:Int}{s:Nat}{ss:List ByteArray}{L:List Nat}{N:Nat}(h:Bj w g o l z s ss)(f:w.grownBy w' (ι b))(e:AF w b B L N):Bj w' g o l z s ss:=by
 obtain⟨a,n,c,d⟩:=e.blk;exact h.kept f d
def eo{tmps:Array τ}{W:ς}{u0 u1 u2 u3 u4 u5 u6:τ}(b:tmps.getD 4 undef=.pointer (ι ⟨g,0,η⟩))(c:AS W g u0 u1 u2 u3 u4 u5 u6):
  (results Tryz.f167 tmps).run ν W=.ok (.agg #[u0,u1,u2,u3,u4,u5,u6]) W:=by
 obtain⟨d,e,f,h,i,j,k⟩:=c.at;have a:tmps[4]?.getD undef=.pointer (ι ⟨g,0,η⟩):=by simpa using b
 simp[results,Tryz.results167,go_sem,a,d,e,f,h,i,j,k]
def od(g I B:Nat)(o l z:Int)(s k:Nat)(ss:List ByteArray)(L:List Nat)(N:Nat)(w:ς)(r:Bj w g o l z s ss)(hk:ss.length=k)(h1:1<=k)(h2:k<=128)(hs:s<=k)(ai:shorts ss)(ht:DG w)
  (A:AF w I B L N) (hB:B<=w.heap.size) (hN:N<=274877906944):
  Calls ν 167 #[.pointer (ι ⟨g,0,η⟩),.pointer (ι ⟨I,0,η⟩)] w fun e w'=> ∃a c,e=ξ (.agg #[U β o,U β l,U β (k:Int),U β z,U β 0,γ a (sizeOfK (k:Int)) c,δ (st (Bl ss (De k s L N) k))])/\
   RowAt w' a (sizeOfK (k:Int)) (De k s L N)/\AF w' I B L (Nw k s L N)/\w.grownBy w' (ι I):=by
 have au:=A.1;have hL:=A.2.1;have B0:=Ab (Bn w (θ #[U β 0,U β 0,U β 0,U β 0,U β 0,γ none 0 0,δ ⟨#[]⟩] 75));have X0:=Ab (CC w (U β 0) (U β 0) (U β 0) (U β 0) (U β 0) (γ none 0 0) (δ ⟨#[]⟩));have S0:=Ab (r.below (Aa B0));have D0:=Ab (A.below ((Aa B0).mono hB));have av:w.heap.size≠g:=by
  obtain⟨a,c,⟨k0,_⟩,_⟩:=r;exact Nat.ne_of_gt (World.block_lt_of_cell? w ⟨g,0,η⟩ k0)
 have HT:=Ab (nX k s h1 h2 hs _ (ht.below (Aa B0)));have HK:=Ab (aC g o l z s ss _ (Aa S0));rw[hk]at HK;have D:=(show _ from(Aa S0));obtain⟨_,_,⟨_,_,_,_,D⟩,_⟩:=D;have ak:=Ab hk;have ap:=Ab ai;have C:=P7 k s L N h1 (by omega);have am:Is (Nw k s L N) (N+1+degL k s L N):=rfl;have HV:Is (De k s L N) (El k (Dd L (N+1) k (degL k s L N))):=rfl;have Y:=Ab (fun a c wx (hi:IntzAt wx a k (tableL k s))=>(show Calls ν 193 #[γ a k c,U .u64 ((BF L (N+1):Nat):Int)] wx fun e w'=>e=ξ (U β ((degL k s L N:Nat):Int))/\w'=wx from nV a k c (tableL k s) (BF L (N+1)) wx hi (by omega) (by have:=kI k s h2 (by omega);omega) (Vc hL _)));have V:=Ab (fun wx A=>Um I B L N wx A (by omega));have H:=Ab (fun wx A hb=>eY I B L (N+1) k ((degL k s L N:Nat):Int) wx A hb (by omega) h2);rw[YA k s L N h1 (by omega)]at H;have S:=Ab (RX L (N+1) k (degL k s L N) C.2)
 have T:=Ab (show∀i,(Dd L (N+1) k (degL k s L N)).getD i 0<=1048576 from fun i=>by
  by_cases hi:i<(Dd L (N+1) k (degL k s L N)).length
  ·have:=pH L (N+1) k (degL k s L N) i hi
   omega
  ·rw[Ge (by omega)];omega)
 have aq:=Ab (fl k s L N);have aw:=DU (k:Int);have aa:=Ab (Hf k s);clear r A ht hk ai hL;generalize De k s L N=vs at*;generalize Nw k s L N=nn at*;generalize degL k s L N=dg at*;generalize BF L (N+1)=x at*;generalize Dd L (N+1) k dg=ns at*;generalize tableL k s=tb at*;generalize sizeOfK (k:Int)=m at*;have ar:dg<=128:=by omega
 clear C;go_enter func167,ntmps167
 go_wp2_with (first
  |(go_at_call 192;refine(Aa HK).mono ?_;rintro e w' ⟨rfl,hw⟩;obtain rfl:=hw.symm;clear hw)
  |(go_at_call 194;refine(Aa HT).mono ?_;rintro e w1 ⟨v1,rfl,y,f⟩;obtain⟨a1,c1,rfl,J⟩:=y.ints;rw[Aa aa]at y J⊢;have W:=Ab y;have al:=Ab J;have B1:=Ab (Ad (Aa B0) f);have S1:=Ab ((Aa S0).below f);have X1:=Ab ((Aa X0).below f);have D1:=Ab ((Aa D0).below (f.mono (by rw[A7];omega)));have Z1:=Ab f.size;clear y J f)
  |(go_at_call 195;refine(Aa V _ (Aa D1)).mono ?_;rintro e w2 ⟨rfl,af,j⟩;have X:=Ab ((Aa W).kept j (by rw[A7];omega)).atB;have S2:=Ab ((Aa S1).drawn j (Aa D1));have X2:=Ab ((Aa X1).kept j (fun e=>by have:=Option.some.inj e;omega));have D2:=Ab af;have G2:=Ab (Bx (CD (Aa B1) (ι I)) j (.inl rfl));clear af j)
  |(go_at_call 193;refine(Aa Y _ _ _ (Aa X)).mono ?_;rintro e w' ⟨rfl,hw⟩;obtain rfl:=hw.symm;clear hw)
  |(go_at_call 197;refine(Aa H _ (Aa D2) (σ hB (Aa G2).size)).mono ?_;rintro e w3 ⟨v3,rfl,ah,ag,v⟩;obtain⟨a3,c3,rfl,K⟩:=ah.ints;rw[Ir,Aa S]at K⊢;have R:=Ab K;have S3:=Ab ((Aa S2).drawn v (Aa D2));have X3:=Ab ((Aa X2).kept v (fun e=>by have:=Option.some.inj e;omega));have D3:=Ab ag;have G3:=Ab (Bx (Aa G2) v (.inl rfl));clear ah K ag v)
  |(go_at_call 196;refine(mT k a3 dg c3 ns _ (Aa R) (by omega) (Aa T)).mono ?_;rintro e Q ⟨v4,rfl,q,h⟩;rw[<-HV.eq]at q;obtain⟨a4,c4,rfl,O⟩:=q.row;rw[Aa aq]at q O⊢;have an:=Ab q;have Z:=Ab O;have S4:=Ab ((Aa S3).below h);have X4:=Ab ((Aa X3).below h);have D4:=Ab ((Aa D3).below (h.mono (σ hB (Aa G3).size)));have G4:=Ab (JV (Aa G3) (h.mono (Aa G3).size));have Z3:=Ab (Aa X3).lt;clear q O h))
 obtain⟨ab,ac,⟨k0,k1,k2,k3,_⟩,P⟩:=Aa S4;rw[Aa ak]at k3 P;have ao:=Ab (fun wx (hb:π Q.heap.size Q wx)=>QE ab k ac ss a4 m c4 vs wx (P.below hb) (Aa ap) (by omega) ((Aa Z).below hb) (by omega));clear P HT HK Y V H aa HV S T W al B1 S1 X1 D1 Z1 X S2 X2 D2 G2 R S3 X3 D3 G3 S0 D0 X0;have d:g<Q.heap.size:=World.block_lt_of_cell? Q ⟨g,0,η⟩ k0
 go_region_held (fun w'=>w'.cell? ⟨g,0,η⟩=ι (U β o)/\w'.cell? ⟨g,1,η⟩=ι (U β l)/\w'.cell? ⟨g,2,η⟩=ι (U β z)/\w'.cell? ⟨g,3,η⟩=ι (.slice ab k ac)) (go_keep)
  (first|(go_at_call 198;refine(Aa ao _ (κ _ _).drew).mono ?_;rintro e w5 ⟨rfl,ae⟩;have b:π Q.heap.size Q w5:=(κ _ _).drew.trans ae;have q0:=(b.cell (p:=⟨g,0,η⟩) d).trans k0;have q1:=(b.cell (p:=⟨g,1,η⟩) d).trans k1;have q2:=(b.cell (p:=⟨g,2,η⟩) d).trans k2;have q3:=(b.cell (p:=⟨g,3,η⟩) d).trans k3;have u:=(Aa X4).below b;obtain⟨y0,y1,y2,y3,y4,y5,y6⟩:=u.at;have f0:=u.frz 0;have f1:=u.frz 1;have f2:=u.frz 2;have f3:=u.frz 3;have f4:=u.frz 4;have f5:=u.frz 5;have f6:=u.frz 6;have X5:=Ab u;have E:=Ab b;clear u b ae))
 go_wp2;have aj:w.heap.size<=Q.heap.size:=(Aa G4).size
 refine bodyPost_ret (eo rfl ((Aa X5).sets (U β o) (U β l) (U β (k:Int)) (U β z) (U β 0) (γ a4 m c4) (δ (st (Bl ss vs k))))) rfl
  ⟨a4,c4,rfl,((Aa Z).below (Aa E)).other7 (fun ad ha hm=>?_) _ _ _ _ _ _ _,?_,JV (Aa G4) (Cv ((Aa E).mono aj) (ε _) _ _ _ _ _ _ _)⟩
 ·have h1:=(Aa an).apart ad ha hm
  have h2:=Aa Z3;omega
 ·rw[am.eq]
  exact(Aa D4).below (Cv ((Aa E).mono (σ hB aj)) hB _ _ _ _ _ _ _)
variable {g:Nat}{w:ς}
def Rs:τ:=.agg #[U β 0,U β 0,U β 0,U β 0,U β 0,γ none 0 0,δ ⟨#[]⟩]
def Cl(w w':ς)(o:Option PD)(e:Ending):Prop:=π w.heap.size w w'/\match o with
 |none=>e=ξ (.tuple #[Rs,.bool false])
 |some d=> ∃q:PKV,q.pd=d/\e=ξ (.tuple #[q.val,.bool true])/\Own w' w.heap.size (.slice q.r.a q.r.n q.r.c) q.r.xs
def Cl.no{w':ς}{o:Option PD}(b:o=η)(a:π w.heap.size w w'):Cl w w' o (ξ (.tuple #[Rs,.bool false])):=by
 subst b;exact⟨a,rfl⟩
def Cl.yes{w':ς}{o:Option PD}{d:PD}{q:PKV}(f:o=ι d)(h:q.pd=d)(e:π w.heap.size w w')(b:Own w' w.heap.size (.slice q.r.a q.r.n q.r.c) q.r.xs):Cl w w' o (ξ (.tuple #[q.val,.bool true])):=by
 subst f;exact⟨e,q,h,rfl,b⟩
def Own.off{B:Nat}{v:τ}{xs:List Nat}(h:Own w B v xs)(a:∀j,v.ownBlock=ι j->j≠g)(i:Nat)(u:τ):Own (w.setCell ⟨g,i,η⟩ u) B v xs:=⟨h.1,ownsRow_setCell_other h.2 (fun e=>a g e rfl) u⟩
def K5{X:ς}{tmps:Array τ}{o l k z h:Int}{a:Option Addr}{n c:Nat}{s:ByteArray}{b:Bool}(ht:tmps.getD 4 undef=.pointer (ι ⟨g,0,η⟩))(f:tmps.getD 5 undef=.bool b)(i:AS X g (U β o) (U β l) (U β k) (U β z) (U β h) (γ a n c) (δ s)):
  (results Tryz.f202 tmps).run ν X=.ok (.tuple #[.agg #[U β o,U β l,U β k,U β z,U β h,γ a n c,δ s],.bool b]) X:=by
 obtain⟨j,r1,r2,m,p,q,r⟩:=i.at;have e:tmps[4]?.getD undef=.pointer (ι ⟨g,0,η⟩):=by simpa using ht
 have d:tmps[5]?.getD undef=.bool b:=by simpa using f
 simp[results,Tryz.results202,go_sem,e,d,j,r1,r2,m,p,q,r]
def Own.all7{B:Nat}{v:τ}{xs:List Nat}(h:Own w B v xs)(a:g<B)(u0 u1 u2 u3 u4 u5 u6:τ):Own (set7 w g u0 u1 u2 u3 u4 u5 u6) B v xs:=
 ((((((h.other 0 u0 a).other 1 u1 a).other 2 u2 a).other 3 u3 a).other 4 u4 a).other 5 u5 a).other 6 u6 a
def lU(a:Option Addr)(n c:Nat)(ps:List PKV)(a':Option Addr)(m c':Nat)(ws:List Int)(w:ς)(ht:Tab w)(h:PksAt w a n ps)(hk:KsIn w ps)(hs:Qx ps)(hw:IntzAt w a' m ws)(hn:n<=300)(hm:m<=300):
  Calls ν 202 #[γ a n c,γ a' m c'] w fun e w'=>Cl w w' (Ij (ps.map PKV.pd) ws) e:=by
 have al:=(κ w.heap.size w).alloc (ε _) (θ #[U β 0,U β 0,U β 0,U β 0,U β 0,γ none 0 0,δ ⟨#[]⟩] 75);have hz:=CC w (U β 0) (U β 0) (U β 0) (U β 0) (U β 0) (γ none 0 0) (δ ⟨#[]⟩);have b2:(w.alloc (θ #[U β 0,U β 0,U β 0,U β 0,U β 0,γ none 0 0,δ ⟨#[]⟩] 75)).heap.size=w.heap.size+1:=by simp
 have ai:∀p∈atL .dflt ps ws,p∈ps:=fun p hp=>VU (WD.1 hp);have bx:(atL .dflt ps ws).length<=300:=by have h1:=YR (dd:=.dflt) ps ws;have h2:=hw.1;omega
 have a8:Ij (ps.map PKV.pd) ws=E5 ((atL .dflt ps ws).map PKV.pd):=by rw[YS];exact(ZY _ _).symm
 have bo:∀p∈atL .dflt ps ws,p.r.n<=10/\p.r.s.size<=1000:=fun p hp=>SO hs (ai p hp);have bi:=pk (us:=atL .dflt ps ws);have b3:(AM (Ai (atL .dflt ps ws))).length<=10:=jh (KsIn.rows (hk.sub ai)) (N3 bo);generalize ct:w.alloc (θ #[U β 0,U β 0,U β 0,U β 0,U β 0,γ none 0 0,δ ⟨#[]⟩] 75)=W at*;have J:=Ab (YT a n c ps a' m c' ws W (h.below al) (hw.below al) hn hm);have ac:=Ab ((hk.sub ai).below al);have ar:=Ab (ht.below al);have HZ:=Ab hz;have ao:=Ab al;have Z:=Ab b2;have ce:=Ab bo;rw[a8];clear h hk hs hw al hz b2 ai bo a8 ht;generalize atL .dflt ps ws=us at*;have cw:us.length<=1048576:=by omega
 by_cases a9:0<us.length
 ·have bj:¬((us.length:Int)=0):=by omega
  have cm:(0:Int)<(us.length:Int):=by omega
  have Y:=Ab (bi a9);have a0:=Ab (fun wx y f c1 (hp:PksAt wx y f us) (h1:0<f) (h2:f<=1048576)=>eP y f c1 us wx hp h1 h2);have br:=Ab (fun wx y f c1 (hp:PksAt wx y f us) (hk:KsIn wx us)=>my y f c1 us wx hp hk (Aa ce) (by rw[<-hp.1];exact bx));have bq:=Ab (fun wx y f c1 (hp:RowAt wx y f (AM (Ai us))) (hm:f<=1048576)=>GO y f c1 (AM (Ai us)) wx hp hm);clear bi;generalize C0 (us.map PKV.pd)=HO at*;generalize E5 (us.map PKV.pd)=o at*;generalize AM (Ai us)=V at*;generalize st (Ct ((Ai us).map fun r=>r.s))=S at*;generalize cnt V=CV at*;cases ak:Jo us
  ·have ad:Hid (o=η):=Ab (by rw[Aa Y,if_neg (fun e=>absurd (ak.symm.trans e.1) (by decide))])
   clear Y;go_enter func202,ntmps202
   go_wp2_with (first
    |(go_at_call 244;refine(Aa J).mono ?_;rintro e w1 ⟨v1,rfl,u,d⟩;obtain⟨y,f,c1,rfl⟩:∃a m c,v1=ο a m c:=⟨_,_,_,u.shape.choose_spec.choose_spec⟩;obtain⟨x,R,a6,a7⟩:=u.at' ((Aa ac).below d);have E:0<f:=(by omega);have H:f<=1048576:=(by omega);have ah:¬(f:Int)=0:=(by omega);have bl:(0:Int)<(f:Int):=(by omega);have bm:((f:Int)==0)=false:=beq_eq_false_iff_ne.2 ah;clear R;have A:=Ab x;have L:=Ab d;have aa:=Ab ((Aa ar).below d);have C:=Ab ((Aa HZ).below d);clear u d x J)
    |(go_at_call 245;refine(LN y f c1 us w1 (Aa aa) (Aa A) E H).mono ?_;rintro e w2 ⟨rfl,i⟩;rw[ak];have ab:=Ab (Ad (Aa L) i);have O:=Ab ((Aa A).below i);have P:=Ab ((Aa C).below i);clear i;obtain⟨y0,y1,y2,y3,y4,y5,y6⟩:=(Aa P).at;have gz:=(Aa P).frz))
   exact bodyPost_ret (K5 (g:=w.heap.size) (X:=set7 w2 w.heap.size (U β 0) (U β 0) (U β 0) (U β 0) (U β 0) (γ none 0 0) (δ ⟨#[]⟩)) rfl rfl ((Aa P).sets _ _ _ _ _ _ _)) rfl (Cl.no (Aa ad) (Cv ((Aa ao).trans ((Aa ab).mono (by have:=Aa Z;omega))) (ε _) _ _ _ _ _ _ _))
  ·by_cases hh:15<=HO
   ·have ad:Hid (o=η):=Ab (by rw[Aa Y,if_neg (fun e=>absurd e.2.2 (by omega))])
    clear Y;go_enter func202,ntmps202
    go_wp2_with (first
     |(go_at_call 244;refine(Aa J).mono ?_;rintro e w1 ⟨v1,rfl,u,d⟩;obtain⟨y,f,c1,rfl⟩:∃a m c,v1=ο a m c:=⟨_,_,_,u.shape.choose_spec.choose_spec⟩;obtain⟨x,R,a6,a7⟩:=u.at' ((Aa ac).below d);have E:0<f:=(by omega);have H:f<=1048576:=(by omega);have ah:¬(f:Int)=0:=(by omega);have bl:(0:Int)<(f:Int):=(by omega);have bm:((f:Int)==0)=false:=beq_eq_false_iff_ne.2 ah;clear R;have A:=Ab x;have L:=Ab d;have aa:=Ab ((Aa ar).below d);have C:=Ab ((Aa HZ).below d);clear u d x J)
     |(go_at_call 245;refine(LN y f c1 us w1 (Aa aa) (Aa A) E H).mono ?_;rintro e w2 ⟨rfl,i⟩;rw[ak];have ab:=Ab (Ad (Aa L) i);have O:=Ab ((Aa A).below i);have P:=Ab ((Aa C).below i);clear i)
     |(go_at_call 246;refine(Aa a0 w2 y f c1 (Aa O) E H).mono ?_;rintro e w3 ⟨rfl,v⟩;have N:=Ab (Ad (Aa ab) v);have aj:=Ab ((Aa O).below v);have ae:=Ab ((Aa P).below v);clear v;obtain⟨y0,y1,y2,y3,y4,y5,y6⟩:=(Aa ae).at;have gz:=(Aa ae).frz))
    exact bodyPost_ret (K5 (g:=w.heap.size) (X:=set7 w3 w.heap.size (U β 0) (U β 0) (U β 0) (U β 0) (U β 0) (γ none 0 0) (δ ⟨#[]⟩)) rfl rfl ((Aa ae).sets _ _ _ _ _ _ _)) rfl (Cl.no (Aa ad) (Cv ((Aa ao).trans ((Aa N).mono (by have:=Aa Z;omega))) (ε _) _ _ _ _ _ _ _))
   ·have cv:decide (15<=HO)=false:=decide_eq_false hh
    by_cases cu:CV=0
    ·have ad:Hid (o=η):=Ab (by rw[Aa Y,if_neg (fun e=>absurd e.2.1 (by omega))])
     have bw:(CV:Int)=0:=by omega
     clear Y;go_enter func202,ntmps202
     go_wp2_with (first
      |(go_at_call 244;refine(Aa J).mono ?_;rintro e w1 ⟨v1,rfl,u,d⟩;obtain⟨y,f,c1,rfl⟩:∃a m c,v1=ο a m c:=⟨_,_,_,u.shape.choose_spec.choose_spec⟩;obtain⟨x,R,a6,a7⟩:=u.at' ((Aa ac).below d);have E:0<f:=(by omega);have H:f<=1048576:=(by omega);have ah:¬(f:Int)=0:=(by omega);have bl:(0:Int)<(f:Int):=(by omega);have bm:((f:Int)==0)=false:=beq_eq_false_iff_ne.2 ah;clear R;have A:=Ab x;have L:=Ab d;have aa:=Ab ((Aa ar).below d);have C:=Ab ((Aa HZ).below d);clear u d x J)
      |(go_at_call 245;refine(LN y f c1 us w1 (Aa aa) (Aa A) E H).mono ?_;rintro e w2 ⟨rfl,i⟩;rw[ak];have ab:=Ab (Ad (Aa L) i);have O:=Ab ((Aa A).below i);have P:=Ab ((Aa C).below i);clear i)
      |(go_at_call 246;refine(Aa a0 w2 y f c1 (Aa O) E H).mono ?_;rintro e w3 ⟨rfl,v⟩;have N:=Ab (Ad (Aa ab) v);have aj:=Ab ((Aa O).below v);have ae:=Ab ((Aa P).below v);clear v)
      |(go_at_call 247;refine(Aa br w3 y f c1 (Aa aj) ((Aa ac).below (Aa N))).mono ?_;rintro e T ⟨v4,rfl,ag,Q⟩;obtain⟨a4,I,c4,rfl,cl⟩:∃a m c,v4=ο a m c/\m<=10:=(by obtain⟨a,c,e,_⟩:=ag.row;exact⟨a,_,c,e,b3⟩);have ba:=Ab (Ad (Aa N) Q);have bd:=Ab ((Aa aj).below Q);have bh:=Ab ((Aa ae).below Q);have aq:=Ab (ag.mono (B':=w.heap.size+1) (by have h1:=Aa Z;have h2:=(Aa N).size;omega));clear Q ag)
      |(go_at_call 180;have D:π T.heap.size T (T.alloc (θ #[γ a4 I c4,δ S] 73)):=(κ _ _).alloc (ε _) _;have az:=JM T (γ a4 I c4) (δ S);have ax:(T.alloc (θ #[γ a4 I c4,δ S] 73)).heap.size=T.heap.size+1:=(by simp);generalize bp:T.alloc (θ #[γ a4 I c4,δ S] 73)=w5 at*;have aw:RowAt w5 a4 I V:=(by have h5:=(Aa aq).below D;obtain⟨_,_,e,bn⟩:=h5.row;simp only[μ]at e;obtain⟨rfl,rfl,rfl⟩:=e;exact bn);have bb:=Ab (Ad (Aa ba) D);have bf:=Ab ((Aa bd).below D);have au:=Ab ((Aa bh).below D);have bu:=Ab az;have a2:=Ab ax;refine(Aa bq w5 a4 I c4 aw (by omega)).mono ?_;rintro e wx ⟨rfl,ay⟩;obtain rfl:=ay.symm;clear ay D az ax aw bp;obtain⟨y0,y1,y2,y3,y4,y5,y6⟩:=(Aa au).at;have gz:=(Aa au).frz))
     exact bodyPost_ret (K5 (g:=w.heap.size) (X:=set7 w5 w.heap.size (U β 0) (U β 0) (U β 0) (U β 0) (U β 0) (γ none 0 0) (δ ⟨#[]⟩)) rfl rfl ((Aa au).sets _ _ _ _ _ _ _)) rfl (Cl.no (Aa ad) (Cv ((Aa ao).trans ((Aa bb).mono (by have:=Aa Z;omega))) (ε _) _ _ _ _ _ _ _))
    ·have bw:¬(CV:Int)=0:=by omega
     have ch:=Ab (show o=ι ⟨(us.getD 0 .dflt).o,(us.getD 0 .dflt).l,(us.getD 0 .dflt).k,(us.getD 0 .dflt).z,IntKind.i64.wrap (HO+1),V,S⟩ from by rw[Aa Y,if_pos ⟨ak,by omega,by omega⟩])
     have b7:=Ab (fun wx y f (hp:PksAt wx y f us)=>show∃b off,y=ι ⟨b,off,η⟩/\AT wx b off (us.getD 0 .dflt) from by
      have b1:0<f:=by rw[<-hp.1];exact a9
      obtain⟨b,off,e,ck⟩:=hp.at b1;have:=ck 0 b1;rw[Nat.zero_mul,Nat.add_zero]at this;exact⟨b,off,e,this⟩)
     clear Y;generalize us.getD 0 .dflt=q at*;generalize cs:IntKind.i64.wrap (HO+1)=HW at*;go_enter func202,ntmps202
     go_wp2_with (first
      |(go_at_call 244;refine(Aa J).mono ?_;rintro e w1 ⟨v1,rfl,u,d⟩;obtain⟨y,f,c1,rfl⟩:∃a m c,v1=ο a m c:=⟨_,_,_,u.shape.choose_spec.choose_spec⟩;obtain⟨x,R,a6,a7⟩:=u.at' ((Aa ac).below d);have E:0<f:=(by omega);have H:f<=1048576:=(by omega);have ah:¬(f:Int)=0:=(by omega);have bl:(0:Int)<(f:Int):=(by omega);have bm:((f:Int)==0)=false:=beq_eq_false_iff_ne.2 ah;clear R;have A:=Ab x;have L:=Ab d;have aa:=Ab ((Aa ar).below d);have C:=Ab ((Aa HZ).below d);clear u d x J)
      |(go_at_call 245;refine(LN y f c1 us w1 (Aa aa) (Aa A) E H).mono ?_;rintro e w2 ⟨rfl,i⟩;rw[ak];have ab:=Ab (Ad (Aa L) i);have O:=Ab ((Aa A).below i);have P:=Ab ((Aa C).below i);clear i)
      |(go_at_call 246;refine(Aa a0 w2 y f c1 (Aa O) E H).mono ?_;rintro e w3 ⟨rfl,v⟩;have N:=Ab (Ad (Aa ab) v);have aj:=Ab ((Aa O).below v);have ae:=Ab ((Aa P).below v);clear v)
      |(go_at_call 247;refine(Aa br w3 y f c1 (Aa aj) ((Aa ac).below (Aa N))).mono ?_;rintro e T ⟨v4,rfl,ag,Q⟩;obtain⟨a4,I,c4,rfl,cl⟩:∃a m c,v4=ο a m c/\m<=10:=(by obtain⟨a,c,e,_⟩:=ag.row;exact⟨a,_,c,e,b3⟩);have ba:=Ab (Ad (Aa N) Q);have bd:=Ab ((Aa aj).below Q);have bh:=Ab ((Aa ae).below Q);have aq:=Ab (ag.mono (B':=w.heap.size+1) (by have h1:=Aa Z;have h2:=(Aa N).size;omega));clear Q ag;have bt:=Ab (show π T.heap.size T (T.alloc (θ #[γ a4 I c4,δ S] 73)) from(κ _ _).alloc (ε _) _);have cc:=Ab (fun j hj=>(World.ownsRow.lt (Aa aq).2 j hj).2))
      |(go_at_call 180;have D:π T.heap.size T (T.alloc (θ #[γ a4 I c4,δ S] 73)):=(κ _ _).alloc (ε _) _;have az:=JM T (γ a4 I c4) (δ S);have ax:(T.alloc (θ #[γ a4 I c4,δ S] 73)).heap.size=T.heap.size+1:=(by simp);generalize bp:T.alloc (θ #[γ a4 I c4,δ S] 73)=w5 at*;have aw:RowAt w5 a4 I V:=(by have h5:=(Aa aq).below D;obtain⟨_,_,e,bn⟩:=h5.row;simp only[μ]at e;obtain⟨rfl,rfl,rfl⟩:=e;exact bn);have bb:=Ab (Ad (Aa ba) D);have bf:=Ab ((Aa bd).below D);have au:=Ab ((Aa bh).below D);have bu:=Ab az;have a2:=Ab ax;refine(Aa bq w5 a4 I c4 aw (by omega)).mono ?_;rintro e wx ⟨rfl,ay⟩;obtain rfl:=ay.symm;clear ay D az ax aw bp;obtain⟨b0,f0,rfl,p0,p1,p2,p3,p4,p5,p6⟩:=Aa b7 w5 y f (Aa bf))
      |(go_at_call 248;refine(Pe q.o q.l q.k q.z q.h q.r.a q.r.n q.r.c q.r.s w5).mono ?_;rintro e K ⟨rfl,af⟩;have ap:=Ab (Ad (Aa bb) af);have cd:=Ab ((Aa bf).below af);have ci:=Ab ((Aa au).below af);have cf:=Ab ((Aa bu).below af);have bs:=Ab af.size;have b9:=Ab ((Aa aq).below ((Aa bt).trans (af.mono (by have:=Aa a2;omega))));clear af)
      |(go_at_call 246;have am:π K.heap.size K (K.alloc (θ #[U β q.o,U β q.l,U β q.k,U β q.z,U β 0,γ none 0 0,δ ⟨#[]⟩] 75)):=(κ _ _).alloc (ε _) _;have b4:=CC K (U β q.o) (U β q.l) (U β q.k) (U β q.z) (U β 0) (γ none 0 0) (δ ⟨#[]⟩);generalize cn:K.alloc (θ #[U β q.o,U β q.l,U β q.k,U β q.z,U β 0,γ none 0 0,δ ⟨#[]⟩] 75)=w7 at*;refine(Aa a0 w7 (ι ⟨b0,f0,η⟩) f c1 ((Aa cd).below am) E H).mono ?_;rintro e w8 ⟨rfl,an⟩;have b5:=Ab (Ad (Ad (Aa ap) am) an);have cj:=Ab (((Aa ci).below am).below an);have cg:=Ab (((Aa cf).below am).below an);have bg:=Ab (b4.below an);have ca:=Ab (((Aa b9).below am).below an);clear am an b4 cn;obtain⟨s0,s1,s2,s3,s4,s5,s6⟩:=(Aa bg).at;have gs:=(Aa bg).frz;have bz:K.heap.size≠T.heap.size:=(by have h1:=Aa a2;have h2:=Aa bs;omega);have av:w.heap.size≠K.heap.size:=(by have h1:=Aa Z;have h2:=(Aa ap).size;omega);obtain⟨⟨t0,t1⟩,_,_⟩:=(Aa cg).other (g':=K.heap.size) 4 (U β HW) bz;have hA:=(Aa bg).set4 (U β HW);have co:=hA.at.2.2.2.2.2.1;have cp:=hA.frz;have a3:=hA.set5 (γ a4 I c4);have cq:=a3.at.2.2.2.2.2.2;have cr:=a3.frz;have bv:=a3.set6 (δ S);obtain⟨r0,r1,r2,r3,r4,r5,r6⟩:=bv.at;have a5:=(((Aa cj).other (a:=⟨K.heap.size,4,η⟩) av (U β HW)).other (a:=⟨K.heap.size,5,η⟩) av (γ a4 I c4)).other (a:=⟨K.heap.size,6,η⟩) av (δ S);obtain⟨y0,y1,y2,y3,y4,y5,y6⟩:=a5.at;have gz:=a5.frz;have b8:=Ab a5;clear hA a3 bv a5))
     have b6:=Ab ((((Aa b5).setCell (p:=⟨K.heap.size,4,η⟩) (Aa ap).size (U β HW)).setCell (p:=⟨K.heap.size,5,η⟩) (Aa ap).size (γ a4 I c4)).setCell (p:=⟨K.heap.size,6,η⟩) (Aa ap).size (δ S));have bc:=Ab (show∀j,(ο a4 I c4).ownBlock=ι j->j≠K.heap.size from fun j hj=>by have h1:=Aa cc j hj;have h2:=Aa a2;have h3:=Aa bs;omega);have cb:=Ab ((((Aa ca).off (g:=K.heap.size) (Aa bc) 4 (U β HW)).off (g:=K.heap.size) (Aa bc) 5 (γ a4 I c4)).off (g:=K.heap.size) (Aa bc) 6 (δ S))
     exact bodyPost_ret (K5 (g:=w.heap.size) (X:=set7 (((w8.setCell ⟨K.heap.size,4,η⟩ (U β HW)).setCell ⟨K.heap.size,5,η⟩ (γ a4 I c4)).setCell ⟨K.heap.size,6,η⟩ (δ S)) w.heap.size (U β q.o) (U β q.l) (U β q.k) (U β q.z) (U β HW) (γ a4 I c4) (δ S)) rfl rfl ((Aa b8).sets _ _ _ _ _ _ _)) rfl
      (Cl.yes (q:=⟨q.o,q.l,q.k,q.z,HW,⟨a4,I,c4,V,S⟩⟩) (Aa ch) rfl (Cv ((Aa ao).trans ((Aa b6).mono (by have:=Aa Z;omega))) (ε _) _ _ _ _ _ _ _) (((Aa cb).all7 (g:=w.heap.size) (υ _) _ _ _ _ _ _ _).mono (Nat.le_succ _)))
 ·have h0:us=[]:=List.eq_nil_of_length_eq_zero (by omega)
  have ad:Hid (E5 (us.map PKV.pd)=η):=Ab (by rw[h0];rfl);have bj:(us.length:Int)=0:=by omega
  clear bi h0;generalize E5 (us.map PKV.pd)=o at*;go_enter func202,ntmps202
  go_wp2_with (first
   |(go_at_call 244;refine(Aa J).mono ?_;rintro e w1 ⟨v1,rfl,u,d⟩;obtain⟨y,f,c1,rfl⟩:∃a m c,v1=ο a m c:=⟨_,_,_,u.shape.choose_spec.choose_spec⟩;obtain⟨x,R,a6,a7⟩:=u.at' ((Aa ac).below d);obtain rfl:f=0:=(by omega);clear R;have A:=Ab x;have L:=Ab d;have aa:=Ab ((Aa ar).below d);have C:=Ab ((Aa HZ).below d);clear u d x J;obtain⟨y0,y1,y2,y3,y4,y5,y6⟩:=(Aa C).at;have gz:=(Aa C).frz))
  exact bodyPost_ret (K5 (g:=w.heap.size) (X:=set7 w1 w.heap.size (U β 0) (U β 0) (U β 0) (U β 0) (U β 0) (γ none 0 0) (δ ⟨#[]⟩)) rfl rfl ((Aa C).sets _ _ _ _ _ _ _)) rfl (Cl.no (Aa ad) (Cv ((Aa ao).trans ((Aa L).mono (by have:=Aa Z;omega))) (ε _) _ _ _ _ _ _ _))
end Go.Proofs.YtfpmnekaockodaaGreatDoor
