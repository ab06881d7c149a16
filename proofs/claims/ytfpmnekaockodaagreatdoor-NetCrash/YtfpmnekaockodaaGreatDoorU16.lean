/- Laws for the proof. -/
import Derived.Test.YtfpmnekaockodaaGreatDoorU15
import Derived.Laws.StructEq
import Derived.Laws.Rows
set_option linter.all false
open Go.Proofs.Tryz
open Go.Value renaming int->U,string->β,slice->γ,agg->ρ
open Go.IntKind renaming i64->α
open Go.Obj renaming cells->δ
open Go renaming World->ε,Value->ζ,Calls->ς
open Go.RowKit.Below renaming refl->η
open Go.Proofs.Tryz renaming prog->θ
open Option renaming none->ι,some->σ
open Go.Ending renaming returned->κ
open Go.AllReady renaming cons->μ,nil->ν
open Go.RowKit renaming Below->ξ
open Go.Op renaming eqFields->ο
open Or renaming inl->π
namespace Go.Proofs.YtfpmnekaockodaaGreatDoor
open Go.RowKit Go.Sort
set_option maxRecDepth 4000
set_option maxHeartbeats 8000000
def PkAt(w:ε)(g:Nat)(v0 v1 v2 v3 v4 v5 v6:ζ):Prop:=
 w.cell? ⟨g,0,ι⟩=σ v0/\w.cell? ⟨g,1,ι⟩=σ v1/\w.cell? ⟨g,2,ι⟩=σ v2/\w.cell? ⟨g,3,ι⟩=σ v3/\w.cell? ⟨g,4,ι⟩=σ v4/\w.cell? ⟨g,5,ι⟩=σ v5/\w.cell? ⟨g,6,ι⟩=σ v6
def Fq(w:ε)(v0 v1 v2 v3 v4 v5 v6:ζ):PkAt (w.alloc (δ #[v0,v1,v2,v3,v4,v5,v6] 75)) w.heap.size v0 v1 v2 v3 v4 v5 v6:=by
 refine⟨?_,?_,?_,?_,?_,?_,?_⟩<;>simp
def PkAt.below{w w':ε}{g:Nat}{v0 v1 v2 v3 v4 v5 v6:ζ}(h:PkAt w g v0 v1 v2 v3 v4 v5 v6)(l:ξ w.heap.size w w'):PkAt w' g v0 v1 v2 v3 v4 v5 v6:=by
 obtain⟨b,c,d,f,i,j,k⟩:=h;have e:∀o,w'.cell? ⟨g,o,ι⟩=w.cell? ⟨g,o,ι⟩:=fun o=>l.cell (show g<w.heap.size from World.block_lt_of_cell? w ⟨g,0,ι⟩ b);exact⟨(e _).trans b,(e _).trans c,(e _).trans d,(e _).trans f,(e _).trans i,(e _).trans j,(e _).trans k⟩
def PkAt.alloc{w:ε}{g:Nat}{v0 v1 v2 v3 v4 v5 v6:ζ}(h:PkAt w g v0 v1 v2 v3 v4 v5 v6)(o:Obj):PkAt (w.alloc o) g v0 v1 v2 v3 v4 v5 v6:=h.below ((η _ _).alloc (Nat.le_refl _) _)
def Bn(w:ε)(o:Obj):ξ w.heap.size w (w.alloc o):=(η _ _).alloc (Nat.le_refl _) _
def Ks(n lo d:Int)(w:ε)(b:Bool)(f:TB b (lo<=n/\n<=d)):
  ς θ 178 #[U α n,U α lo,U α d] w fun e w'=>e=κ (.bool b)/\w'=w:=by
 have c:=Ab f;clear f;by_cases i:lo<=n
 ·by_cases j:n<=d
  ·go_enter func178,ntmps178
   go_wp2;go_ret;exact⟨B8 ((Aa c).yes ⟨i,j⟩).symm,rfl⟩
  ·go_enter func178,ntmps178
   go_wp2;go_ret;exact⟨B8 ((Aa c).no (fun h=>by omega)).symm,rfl⟩
 ·go_enter func178,ntmps178
  go_wp2;go_ret;exact⟨B8 ((Aa c).no (fun h=>by omega)).symm,rfl⟩
def SN(o l k z h:Int)(x y:ζ)(w:ε)(b:Bool)(s:TB b (Je k z)):
  ς θ 175 #[ρ #[U α o,U α l,U α k,U α z,U α h,x,y]] w fun e w'=>e=κ (.bool b)/\ξ w.heap.size w w':=by
 have j:=Ab s;obtain⟨m,q⟩:=EZ (1<=k/\k<=128);obtain⟨p,r⟩:=EZ (1<=z/\z<=64);have f:=Ab q;have i:=Ab r;clear s q r;have d:=Ab (Bn w (δ #[U α o,U α l,U α k,U α z,U α h,x,y] 75));go_enter func175,ntmps175;go_wp2_with fail;refine(Ks k 1 128 _ m (Aa f)).mono ?_;rintro e w' ⟨rfl,c⟩;obtain rfl:=c.symm;clear c;cases m
 ·go_wp2
  go_ret;exact⟨B8 ((Aa j).no (fun h=>by simpa using(Aa f).2 h.1)).symm,Aa d⟩
 ·go_wp2_with fail
  refine(Ks z 1 64 _ p (Aa i)).mono ?_;rintro e w' ⟨rfl,c⟩;obtain rfl:=c.symm;clear c;cases p
  ·go_wp2
   go_ret;exact⟨B8 ((Aa j).no (fun h=>by simpa using(Aa i).2 h.2)).symm,Aa d⟩
  ·go_wp2
   go_ret;exact⟨B8 ((Aa j).yes ⟨(Aa f).1 rfl,(Aa i).1 rfl⟩).symm,Aa d⟩
def eb(o l k z h:Int)(x y:ζ)(w:ε)(b:Bool)(D:TB b (Lc o l k z h)):
  ς θ 153 #[ρ #[U α o,U α l,U α k,U α z,U α h,x,y]] w fun e w'=>e=κ (.bool b)/\ξ w.heap.size w w':=by
 have f:=Ab D;obtain⟨q,v⟩:=EZ (Je k z);obtain⟨r,A⟩:=EZ (0<=o/\o<=4294967295);obtain⟨s,B⟩:=EZ (0<=l/\l<=k*z);obtain⟨u,C⟩:=EZ (0<=h/\h<=15);have i:=Ab v;have j:=Ab A;have m:=Ab B;have p:=Ab C;clear D v A B C;have E:=Ab (Bn w (δ #[U α o,U α l,U α k,U α z,U α h,x,y] 75));have I:=Ab (Fq w (U α o) (U α l) (U α k) (U α z) (U α h) x y);go_enter func153,ntmps153;go_wp2_with fail;refine(SN o l k z h x y _ q (Aa i)).mono ?_;rintro e w1 ⟨rfl,d⟩;obtain⟨K,L,N,O,P,Q,R⟩:=(Aa I).below d;have B1:=Ab (Ad (Aa E) d);clear d;cases q
 ·go_wp2
  go_ret;exact⟨B8 ((Aa f).no (fun h=>by simpa using(Aa i).2 h.1)).symm,Aa B1⟩
 ·have J:=Qv ((Aa i).1 rfl)
  have H:=Ab (show wrap64 (k*z)=k*z by unfold wrap64;omega);clear J;go_wp2_with fail;refine(Ks o 0 4294967295 _ r (Aa j)).mono ?_;rintro e w' ⟨rfl,c⟩;obtain rfl:=c.symm;clear c;cases r
  ·go_wp2
   go_ret;exact⟨B8 ((Aa f).no (fun h=>by simpa using(Aa j).2 h.2.1)).symm,Aa B1⟩
  ·go_wp2_with fail
   refine(Ks l 0 (wrap64 (k*z)) _ s (by rw[Aa H];exact Aa m)).mono ?_;rintro e w' ⟨rfl,c⟩;obtain rfl:=c.symm;clear c;cases s
   ·go_wp2
    go_ret;exact⟨B8 ((Aa f).no (fun h=>by simpa using(Aa m).2 h.2.2.1)).symm,Aa B1⟩
   ·go_wp2_with fail
    refine(Ks h 0 15 _ u (Aa p)).mono ?_;rintro e w' ⟨rfl,c⟩;obtain rfl:=c.symm;clear c;cases u
    ·go_wp2
     go_ret;exact⟨B8 ((Aa f).no (fun h=>by simpa using(Aa p).2 h.2.2.2)).symm,Aa B1⟩
    ·go_wp2
     go_ret;exact⟨B8 ((Aa f).yes ⟨(Aa i).1 rfl,(Aa j).1 rfl,(Aa m).1 rfl,(Aa p).1 rfl⟩).symm,Aa B1⟩
def L7{k:Int}{xs:List Nat}(h:Cm k xs):xs.length<=2:=by
 have:=DU k;have:=h.2.1;omega
def mW(o l k z h:Int)(a:Option Addr)(n c:Nat)(xs:List Nat)(s:ByteArray)(w:ε)(A:RowAt w a n xs)(b:Bool)(H:TB b (J4 k z xs s.size)):
  ς θ 154 #[ρ #[U α o,U α l,U α k,U α z,U α h,γ a n c,β s]] w fun e w'=>e=κ (.bool b)/\ξ w.heap.size w w':=by
 have r:=Ab H;have f:=A.1;have E:=Ab (GP A (δ #[U α o,U α l,U α k,U α z,U α h,γ a n c,β s] 75));have J:=Ab (Bn w (δ #[U α o,U α l,U α k,U α z,U α h,γ a n c,β s] 75));have N:=Ab (Fq w (U α o) (U α l) (U α k) (U α z) (U α h) (γ a n c) (β s));have K:=Ab f;clear H A f;go_enter func154,ntmps154;go_wp2_with fail;refine(L6 a n c xs k _ (Aa E)).mono ?_;rintro e w1 ⟨⟨O,rfl,q⟩,d⟩;obtain⟨Q,R,S,T,V,W,X⟩:=(Aa N).below d;have B1:=Ab (Ad (Aa J) d);have x:=Ab ((Aa E).below d);have D:=Ab q;clear d q;cases O
 ·go_wp2
  go_ret;exact⟨B8 ((Aa r).no (fun h=>by simpa using(Aa D).2 h.1)).symm,Aa B1⟩
 ·have B:=(Aa D).1 rfl
  have I:n<=1048576:=by have:=L7 B;have:=Aa K;omega
  have u:=Ab (GO a n c xs w1 (Aa x) I);have L:=Ab B;clear B I;rcases Nat.eq_zero_or_pos (cnt xs)with j|j
  ·rw[j]at u
   have y:=Ab j;clear j;go_wp2_with fail;refine(Aa u).mono ?_;rintro e w' ⟨rfl,i⟩;obtain rfl:=i.symm;clear i;go_wp2;go_ret;exact⟨B8 ((Aa r).no (fun h=>by have:=h.2.1;have:=Aa y;omega)).symm,Aa B1⟩
  ·have y:=Ab j
   have P:(0:Int)<((cnt xs:Nat):Int):=by omega
   generalize ((cnt xs:Nat):Int)=m at*;clear j;by_cases p:(s.size:Int)=z
   ·have C:((s.size:Int)==z)=true:=by rw[beq_iff_eq];exact p
    have v:=Ab p;clear p;go_wp2_with fail;refine(Aa u).mono ?_;rintro e w' ⟨rfl,i⟩;obtain rfl:=i.symm;clear i;go_wp2;go_ret;exact⟨B8 ((Aa r).yes ⟨Aa L,Aa y,Aa v⟩).symm,Aa B1⟩
   ·have C:((s.size:Int)==z)=false:=by rw[beq_eq_false_iff_ne];exact p
    have v:=Ab p;clear p;go_wp2_with fail;refine(Aa u).mono ?_;rintro e w' ⟨rfl,i⟩;obtain rfl:=i.symm;clear i;go_wp2;go_ret;exact⟨B8 ((Aa r).no (fun h=>Aa v h.2.2)).symm,Aa B1⟩
def ES(o l k z h:Int)(a:Option Addr)(n c:Nat)(xs:List Nat)(s:ByteArray)(w:ε)(y:RowAt w a n xs)(en:Nat)(f:EN en (Cd o l k z h xs s.size)):
  ς θ 121 #[ρ #[U α o,U α l,U α k,U α z,U α h,γ a n c,β s]] w fun e w'=>e=κ (U α ((en:Nat):Int))/\ξ w.heap.size w w':=by
 have m:=Ab f;obtain⟨r,v⟩:=EZ (Lc o l k z h);obtain⟨u,x⟩:=EZ (J4 k z xs s.size);have i:=Ab v;have j:=Ab x;have B:=Ab (GP y (δ #[U α o,U α l,U α k,U α z,U α h,γ a n c,β s] 75));have A:=Ab (Bn w (δ #[U α o,U α l,U α k,U α z,U α h,γ a n c,β s] 75));have C:=Ab (Fq w (U α o) (U α l) (U α k) (U α z) (U α h) (γ a n c) (β s));clear f y v x;go_enter func121,ntmps121;go_wp2_with fail;refine(eb o l k z h _ _ _ r (Aa i)).mono ?_;rintro e w1 ⟨rfl,b⟩;obtain⟨D,E,H,I,J,K,L⟩:=(Aa C).below b;have p:=Ab ((Aa B).below b);have B1:=Ab (Ad (Aa A) b);clear b;cases r
 ·go_wp2
  go_ret;exact⟨Cu (by rw[(Aa m).no (fun h=>by simpa using(Aa i).2 h.1)];rfl),Aa B1⟩
 ·go_wp2_with fail
  refine(mW o l k z h a n c xs s _ (Aa p) u (Aa j)).mono ?_;rintro e w2 ⟨rfl,d⟩;have q:=Ab (Ad (Aa B1) d);clear d;cases u
  ·go_wp2
   go_ret;exact⟨Cu (by rw[(Aa m).no (fun h=>by simpa using(Aa j).2 h.2)];rfl),Aa q⟩
  ·go_wp2
   go_ret;exact⟨Cu (by rw[(Aa m).yes ⟨(Aa i).1 rfl,(Aa j).1 rfl⟩];rfl),Aa q⟩
variable {xs:List Nat}{g n:Nat}{a:Option Addr}{v0 v1 v2 v3 v4 v5 v6:ζ}{w:ε}
def qV(o l k z h q p m r i:Int)(s f:ByteArray)(b:Bool)(x:TB b ((o=q/\l=p/\k=m/\z=r/\h=i)/\s=f))(W:ε):
  (binOp .eql 344 (ρ #[U α o,U α l,U α k,U α z,U α h,β s]) (ρ #[U α q,U α p,U α m,U α r,U α i,β f])).run θ W=.ok (.bool b) W:=by
 obtain rfl:b=decide ((o=q/\l=p/\k=m/\z=r/\h=i)/\s=f):=by
  rw[eq_comm,Bool.eq_iff_iff,decide_eq_true_iff];exact x.symm
 clear x;rw[run_eql_struct,run_equalIn_struct (d:=9999) (ht:=by kernel_rfl) (hp:=by kernel_rfl)];simp only[Program.fieldsOf,underlying344];by_cases c:o=q
 ·by_cases e:l=p
  ·by_cases j:k=m
   ·by_cases u:z=r
    ·by_cases v:h=i
     ·have y:=Mz s f
      by_cases A:s=f<;>simp[ο,BL,go_sem,underlying3,underlying9,c,e,j,u,v,A,y]
     ·simp[ο,BL,go_sem,underlying3,c,e,j,u,v]
    ·simp[ο,BL,go_sem,underlying3,c,e,j,u]
   ·simp[ο,BL,go_sem,underlying3,c,e,j]
  ·simp[ο,BL,go_sem,underlying3,c,e]
 ·simp[ο,BL,go_sem,underlying3,c]
def YU(w:ε)(o b:Obj):ξ w.heap.size w ((w.alloc o).alloc b):=((η _ _).alloc (Nat.le_refl _) _).alloc (by simp) _
def UL(o l k z h:Int)(x:ζ)(s:ByteArray)(w:ε):
  ς θ 249 #[ρ #[U α o,U α l,U α k,U α z,U α h,x,β s]] w fun e w'=>e=κ (ρ #[U α o,U α l,U α k,U α z,U α h,β s])/\ξ w.heap.size w w':=by
 go_enter func249,ntmps249;go_wp2;exact bodyPost_ret (v:=ρ #[U α o,U α l,U α k,U α z,U α h,β s]) (by simp[results,Tryz.results249,go_sem]) rfl ⟨rfl,YU w _ _⟩
def Ng(o l k z h:Int)(xs:List Nat)(s:ByteArray)(e d c i b:Int)(f:List Nat)(t:ByteArray):Prop:=((o=e/\l=d/\k=c/\z=i/\h=b)/\s=t)/\cnt (xorL xs f)=0
def mD{b:List Nat}(e:Ac xs)(f:Ac b):decide (firstI (xorL xs b)<0)=decide (cnt (xorL xs b)=0):=by
 have c:=RD (xorL xs b);by_cases h:cnt (xorL xs b)=0
 ·rw[decide_eq_true h,decide_eq_true (c.2 (Sx _ (L0 e f) h))]
 ·rw[decide_eq_false h,decide_eq_false (fun d=>h (Sd _ (c.1 d)))]
def UO(o l k z h:Int)(a:Option Addr)(n c:Nat)(xs:List Nat)(s:ByteArray)(r q p u j:Int)(v:Option Addr)(m x:Nat)(Z:List Nat)(t:ByteArray)(w:ε)(ht:Tab w)(hr:RowAt w a n xs)(C:RowAt w v m Z)(hn:n<=1048576)(hm:m<=1048576)(b:Bool)(B:TB b (Ng o l k z h xs s r q p u j Z t)):
  ς θ 203 #[ρ #[U α o,U α l,U α k,U α z,U α h,γ a n c,β s],ρ #[U α r,U α q,U α p,U α u,U α j,γ v m x,β t]] w fun e w'=>e=κ (.bool b)/\ξ w.heap.size w w':=by
 have HB:=Ab B;obtain⟨b1,h1⟩:=EZ ((o=r/\l=q/\k=p/\z=u/\h=j)/\s=t);have H1:=Ab h1;have hq:=qV o l k z h r q p u j s t b1 h1;have hg:Tryz.prog.eqGuardType Tryz.prog.depth 344=false:=by kernel_rfl
 have x1:=(Fq w (U α o) (U α l) (U α k) (U α z) (U α h) (γ a n c) (β s)).alloc (δ #[U α r,U α q,U α p,U α u,U α j,γ v m x,β t] 75);have x2:=Fq (w.alloc (δ #[U α o,U α l,U α k,U α z,U α h,γ a n c,β s] 75)) (U α r) (U α q) (U α p) (U α u) (U α j) (γ v m x) (β t);rw[A7]at x2;obtain⟨H,I,J,L,N,O,P⟩:=x1;obtain⟨Q,R,S,T,V,X,Y⟩:=x2;have aa:=cell_regrown H;have ab:=cell_regrown I;have ac:=cell_regrown J;have ad:=cell_regrown L;have ae:=cell_regrown N;have af:=cell_regrown O;have ag:=cell_regrown P;have ah:=cell_regrown Q;have ai:=cell_regrown R;have aj:=cell_regrown S;have ak:=cell_regrown T;have al:=cell_regrown V;have am:=cell_regrown X;have an:=cell_regrown Y;have c1:=Cf (W:=(w.alloc (δ #[U α o,U α l,U α k,U α z,U α h,γ a n c,β s] 75)).alloc (δ #[U α r,U α q,U α p,U α u,U α j,γ v m x,β t] 75)) (fun w' B=>UL o l k z h (γ a n c) s w');have c2:=Cf (W:=(w.alloc (δ #[U α o,U α l,U α k,U α z,U α h,γ a n c,β s] 75)).alloc (δ #[U α r,U α q,U α p,U α u,U α j,γ v m x,β t] 75)) (fun w' B=>UL r q p u j (γ v m x) t w');have c3:=Cf (W:=(w.alloc (δ #[U α o,U α l,U α k,U α z,U α h,γ a n c,β s] 75)).alloc (δ #[U α r,U α q,U α p,U α u,U α j,γ v m x,β t] 75)) (fun w' B=>rh a n c xs v m x Z w' (ht.below (GW (η _ w) B)) (hr.below (GW (η _ w) B)) (C.below (GW (η _ w) B)) hn hm);rw[mD hr.2.1 C.2.1]at c3;clear B h1 ht hr C hn hm H I J L N O P Q R S T V X Y;cases b1
 ·go_enter func203,ntmps203
  go_wp2_with fail;refine wp_region_quiet_below (by kernel_rfl) (by kernel_rfl) ?_
  repeat (with_reducible refine wpQuiet_step (fun K y=>?_);go_simp;first|(with_reducible refine y _ ?_;clear y K)|(apply Exists.intro;apply And.intro;(intro _;first|(go_at_call 249;first|with_reducible exact c1 _ _|with_reducible exact c2 _ _)|(go_at_call 250;exact c3 _ _));with_reducible refine y _ ?_;clear y K))
  refine wpQuiet_nil ?_;intro w3 d;obtain⟨⟨A,i⟩,d⟩:=d;have f:ξ ((w.alloc (δ #[U α o,U α l,U α k,U α z,U α h,γ a n c,β s] 75)).alloc (δ #[U α r,U α q,U α p,U α u,U α j,γ v m x,β t] 75)).heap.size ((w.alloc (δ #[U α o,U α l,U α k,U α z,U α h,γ a n c,β s] 75)).alloc (δ #[U α r,U α q,U α p,U α u,U α j,γ v m x,β t] 75)) w3:=by rw[d];exact below_regrown _ A i
  have E:=Ab (GW (η _ w) f);clear d f A i;go_wp2;go_ret;exact⟨B8 ((Aa HB).no (fun h=>by simpa using(Aa H1).2 h.1)).symm,Aa E⟩
 ·by_cases D:cnt (xorL xs Z)=0
  ·rw[decide_eq_true D]at c3
   have HZ:=Ab D;clear D;go_enter func203,ntmps203;go_wp2_with fail;refine wp_region_quiet_below (by kernel_rfl) (by kernel_rfl) ?_
   repeat (with_reducible refine wpQuiet_step (fun K y=>?_);go_simp;first|(with_reducible refine y _ ?_;clear y K)|(apply Exists.intro;apply And.intro;(intro _;first|(go_at_call 249;first|with_reducible exact c1 _ _|with_reducible exact c2 _ _)|(go_at_call 250;exact c3 _ _));with_reducible refine y _ ?_;clear y K))
   refine wpQuiet_nil ?_;intro w3 d;obtain⟨⟨A,i⟩,d⟩:=d;have f:ξ ((w.alloc (δ #[U α o,U α l,U α k,U α z,U α h,γ a n c,β s] 75)).alloc (δ #[U α r,U α q,U α p,U α u,U α j,γ v m x,β t] 75)).heap.size ((w.alloc (δ #[U α o,U α l,U α k,U α z,U α h,γ a n c,β s] 75)).alloc (δ #[U α r,U α q,U α p,U α u,U α j,γ v m x,β t] 75)) w3:=by rw[d];exact below_regrown _ A i
   have E:=Ab (GW (η _ w) f);clear d f A i;go_wp2;go_ret;exact⟨B8 ((Aa HB).yes ⟨(Aa H1).1 rfl,Aa HZ⟩).symm,Aa E⟩
  ·rw[decide_eq_false D]at c3
   have HZ:=Ab D;clear D;go_enter func203,ntmps203;go_wp2_with fail;refine wp_region_quiet_below (by kernel_rfl) (by kernel_rfl) ?_
   repeat (with_reducible refine wpQuiet_step (fun K y=>?_);go_simp;first|(with_reducible refine y _ ?_;clear y K)|(apply Exists.intro;apply And.intro;(intro _;first|(go_at_call 249;first|with_reducible exact c1 _ _|with_reducible exact c2 _ _)|(go_at_call 250;exact c3 _ _));with_reducible refine y _ ?_;clear y K))
   refine wpQuiet_nil ?_;intro w3 d;obtain⟨⟨A,i⟩,d⟩:=d;have f:ξ ((w.alloc (δ #[U α o,U α l,U α k,U α z,U α h,γ a n c,β s] 75)).alloc (δ #[U α r,U α q,U α p,U α u,U α j,γ v m x,β t] 75)).heap.size ((w.alloc (δ #[U α o,U α l,U α k,U α z,U α h,γ a n c,β s] 75)).alloc (δ #[U α r,U α q,U α p,U α u,U α j,γ v m x,β t] 75)) w3:=by rw[d];exact below_regrown _ A i
   have E:=Ab (GW (η _ w) f);clear d f A i;go_wp2;go_ret;exact⟨B8 ((Aa HB).no (fun h=>Aa HZ h.2)).symm,Aa E⟩
def AS(w:ε)(g:Nat)(v0 v1 v2 v3 v4 v5 v6:ζ):Prop:=w.heap[g]? =σ (δ #[v0,v1,v2,v3,v4,v5,v6] 75 (0,0))
def CC(w:ε)(v0 v1 v2 v3 v4 v5 v6:ζ):AS (w.alloc (δ #[v0,v1,v2,v3,v4,v5,v6] 75)) w.heap.size v0 v1 v2 v3 v4 v5 v6:=by
 show(w.heap.push _)[w.heap.size]? =_;simp
def AS.lt(h:AS w g v0 v1 v2 v3 v4 v5 v6):g<w.heap.size:=(Array.getElem?_eq_some_iff.1 h).1
def AS.below{w':ε}(h:AS w g v0 v1 v2 v3 v4 v5 v6)(b:ξ w.heap.size w w'):AS w' g v0 v1 v2 v3 v4 v5 v6:=(b.block g h.lt).trans h
def AS.at(h:AS w g v0 v1 v2 v3 v4 v5 v6):PkAt w g v0 v1 v2 v3 v4 v5 v6:=by
 unfold AS at h;refine⟨?_,?_,?_,?_,?_,?_,?_⟩<;>rw[cell_of_row w g _ _ _ _ h]<;>rfl
def AS.frz(h:AS w g v0 v1 v2 v3 v4 v5 v6)(i:Nat):w.frozen? ⟨g,i,ι⟩=false:=by
 unfold AS at h;simp[World.frozen?,h]
def AS.other(h:AS w g v0 v1 v2 v3 v4 v5 v6){a:Addr}(b:g≠a.block)(u:ζ):AS (w.setCell a u) g v0 v1 v2 v3 v4 v5 v6:=
 (Below.heap_setCell w a u g b).trans h
def AS.set0(h:AS w g v0 v1 v2 v3 v4 v5 v6)(u:ζ):AS (w.setCell ⟨g,0,ι⟩ u) g u v1 v2 v3 v4 v5 v6:=heap_setCell_same w g 0 _ _ u h
def AS.set1(h:AS w g v0 v1 v2 v3 v4 v5 v6)(u:ζ):AS (w.setCell ⟨g,1,ι⟩ u) g v0 u v2 v3 v4 v5 v6:=heap_setCell_same w g 1 _ _ u h
def AS.set2(h:AS w g v0 v1 v2 v3 v4 v5 v6)(u:ζ):AS (w.setCell ⟨g,2,ι⟩ u) g v0 v1 u v3 v4 v5 v6:=heap_setCell_same w g 2 _ _ u h
def AS.set3(h:AS w g v0 v1 v2 v3 v4 v5 v6)(u:ζ):AS (w.setCell ⟨g,3,ι⟩ u) g v0 v1 v2 u v4 v5 v6:=heap_setCell_same w g 3 _ _ u h
def AS.set4(h:AS w g v0 v1 v2 v3 v4 v5 v6)(u:ζ):AS (w.setCell ⟨g,4,ι⟩ u) g v0 v1 v2 v3 u v5 v6:=heap_setCell_same w g 4 _ _ u h
def AS.set5(h:AS w g v0 v1 v2 v3 v4 v5 v6)(u:ζ):AS (w.setCell ⟨g,5,ι⟩ u) g v0 v1 v2 v3 v4 u v6:=heap_setCell_same w g 5 _ _ u h
def AS.set6(h:AS w g v0 v1 v2 v3 v4 v5 v6)(u:ζ):AS (w.setCell ⟨g,6,ι⟩ u) g v0 v1 v2 v3 v4 v5 u:=heap_setCell_same w g 6 _ _ u h
def set7(w:ε)(g:Nat)(u0 u1 u2 u3 u4 u5 u6:ζ):ε:=((((((w.setCell ⟨g,0,ι⟩ u0).setCell ⟨g,1,ι⟩ u1).setCell ⟨g,2,ι⟩ u2).setCell ⟨g,3,ι⟩ u3).setCell ⟨g,4,ι⟩ u4).setCell ⟨g,5,ι⟩ u5).setCell ⟨g,6,ι⟩ u6
def AS.sets(h:AS w g v0 v1 v2 v3 v4 v5 v6)(u0 u1 u2 u3 u4 u5 u6:ζ):AS (set7 w g u0 u1 u2 u3 u4 u5 u6) g u0 u1 u2 u3 u4 u5 u6:=
 ((((((h.set0 u0).set1 u1).set2 u2).set3 u3).set4 u4).set5 u5).set6 u6
def Cv{B:Nat}{a:ε}(h:ξ B a w){g:Nat}(b:B<=g)(u0 u1 u2 u3 u4 u5 u6:ζ):ξ B a (set7 w g u0 u1 u2 u3 u4 u5 u6):=
 ((((((h.setCell b u0).setCell b u1).setCell b u2).setCell b u3).setCell b u4).setCell b u5).setCell b u6
def Own.apart{B:Nat}{c:Nat}(h:Own w B (γ a n c) xs):∀b,a=σ b->n≠0->B<=b.block:=by
 intro b i l;obtain⟨j,k,e,m⟩:=h.row;simp only[Value.slice.injEq]at e;obtain⟨rfl,rfl,rfl⟩:=e;obtain⟨g,cap,d,f,_⟩:=h.at (by omega);simp only[Value.slice.injEq]at d;rw[i]at d;obtain rfl:=Option.some.inj d.1;exact f
def RowAt.other(h:RowAt w a n xs){B:Nat}(k:∀c,a=σ c->n≠0->c.block≠B)(i:Nat)(u:ζ):RowAt (w.setCell ⟨B,i,ι⟩ u) a n xs:=by
 refine⟨h.1,h.2.1,?_⟩;rcases h.2.2 with f|⟨b,off,rfl,l⟩
 ·exact .inl f
 ·by_cases d:n=0
  ·exact .inl d
  ·exact .inr ⟨b,off,rfl,fun j m=>(World.cell?_setCell_other (h:=fun e=>k _ rfl d (congrArg Addr.block e).symm) ..).trans (l j m)⟩
def RowAt.other7(h:RowAt w a n xs){B:Nat}(b:∀c,a=σ c->n≠0->c.block≠B)(u0 u1 u2 u3 u4 u5 u6:ζ):RowAt (set7 w B u0 u1 u2 u3 u4 u5 u6) a n xs:=
 ((((((h.other b 0 u0).other b 1 u1).other b 2 u2).other b 3 u3).other b 4 u4).other b 5 u5).other b 6 u6
def Lh(s:ByteArray)(i:Nat)(b:i<s.size):num (tx (s.extract i (i+1)))=(tx s).getD i 0:=by
 have:i<(tx s).length:=by rw[AR];exact b
 rw[Eu,show i+1-i=1 by omega,List.drop_eq_getElem_cons this,List.take_succ_cons,List.take_zero,List.getD_eq_getElem?_getD,List.getElem?_eq_getElem this];simp[num]
def Kr(s:ByteArray)(d:s.size=1\/s.size=4)(w:ε):
  ς θ 208 #[β s] w fun e w'=>e=κ (U α ((num (tx s):Nat):Int))/\w'=w:=by
 have c:=fun wx=>Si s (s.size:Int) wx;have b:=Nk (s:=s) (k:=(s.size:Int)) (by rcases d with h|h<;>rw[h]<;>simp[EG]) (Int.le_refl _);rw[Int.toNat_natCast,<-AR,List.take_length]at b;rw[AR]at b;rw[b.1,b.2]at c;have f:=Ab c;generalize num (tx s)=x at*;clear c b d;go_enter func208,ntmps208;go_wp2_with fail;refine(Aa f _).mono ?_;rintro e w' ⟨rfl,i⟩;obtain rfl:=i.symm;go_wp2;go_ret;exact⟨rfl,rfl⟩
def pt(s:ByteArray)(I:11<=s.size)(w:ε):
  ς θ 174 #[β s] w fun e w'=>e=κ (ρ #[U α ((dO s:Nat):Int),U α ((dL s:Nat):Int),U α ((dK s:Nat):Int),U α ((dZ s:Nat):Int),U α ((dH s:Nat):Int),γ none 0 0,β ⟨#[]⟩])/\ξ w.heap.size w w':=by
 have d:=fun wx=>Kr (s.extract 0 4) (by rw[ByteArray.size_extract];omega) wx;have f:=fun wx=>Kr (s.extract 4 8) (by rw[ByteArray.size_extract];omega) wx;have j:=fun wx=>Kr (s.extract 8 9) (by rw[ByteArray.size_extract];omega) wx;have k:=fun wx=>Kr (s.extract 9 10) (by rw[ByteArray.size_extract];omega) wx;have l:=fun wx=>Kr (s.extract 10 11) (by rw[ByteArray.size_extract];omega) wx;rw[show num (tx (s.extract 0 4))=dO s from by rw[Eu];rfl]at d;rw[show num (tx (s.extract 4 8))=dL s from by rw[Eu];rfl]at f;rw[show num (tx (s.extract 8 9))=dK s from Lh s 8 (by omega)]at j;rw[show num (tx (s.extract 9 10))=dZ s from Lh s 9 (by omega)]at k;rw[show num (tx (s.extract 10 11))=dH s from Lh s 10 (by omega)]at l;have p:=Ab d;have q:=Ab f;have r:=Ab j;have u:=Ab k;have x:=Ab l;generalize dO s=B at*;generalize dL s=C at*;generalize dK s=D at*;generalize dZ s=E at*;generalize dH s=H at*;have y:(4:Int)<=(s.size:Int):=by omega
 have z:(8:Int)<=(s.size:Int):=by omega
 have A:(9:Int)<=(s.size:Int):=by omega
 have m:(10:Int)<=(s.size:Int):=by omega
 have o:(11:Int)<=(s.size:Int):=by omega
 clear d f j k l;go_enter func174,ntmps174;go_wp2_with fail;refine wp_region_any (by kernel_rfl) ?_;change wpAny _ _ _ _ _ _ _ (World.drew _);refine wpAny_take (i:=0) (v:=?_) rfl (by kernel_rfl) (by kernel_rfl) (by kernel_rfl) (fun _ _ _ h=>h) (π ⟨by rfl,?f0⟩) ?_
 case f0=>(intro w;go_simp;try with_reducible rfl)
 refine wpAny_take (i:=1) (v:=?_) rfl (by kernel_rfl) (by kernel_rfl) (by kernel_rfl) (fun _ _ _ h=>h) (π ⟨by rfl,?f1⟩) ?_
 case f1=>(intro w;go_simp;try with_reducible rfl)
 refine wpAny_take (i:=3) (v:=?_) rfl (by kernel_rfl) (by kernel_rfl) (by kernel_rfl) (fun _ _ _ h=>h) (π ⟨by rfl,?f3⟩) ?_
 case f3=>(intro w;go_simp;try with_reducible rfl)
 refine wpAny_take (i:=4) (v:=?_) rfl (by kernel_rfl) (by kernel_rfl) (by kernel_rfl) (fun _ _ _ h=>h) (π ⟨by rfl,?f4⟩) ?_
 case f4=>(intro w;go_simp;try with_reducible rfl)
 refine wpAny_take (i:=6) (v:=?_) rfl (by kernel_rfl) (by kernel_rfl) (by kernel_rfl) (fun _ _ _ h=>h) (π ⟨by rfl,?f6⟩) ?_
 case f6=>(intro w;go_simp;try with_reducible rfl)
 refine wpAny_take (i:=7) (v:=?_) rfl (by kernel_rfl) (by kernel_rfl) (by kernel_rfl) (fun _ _ _ h=>h) (π ⟨by rfl,?f7⟩) ?_
 case f7=>(intro w;go_simp;try with_reducible rfl)
 refine wpAny_take (i:=9) (v:=?_) rfl (by kernel_rfl) (by kernel_rfl) (by kernel_rfl) (fun _ _ _ h=>h) (π ⟨by rfl,?f9⟩) ?_
 case f9=>(intro w;go_simp;try with_reducible rfl)
 refine wpAny_take (i:=10) (v:=?_) rfl (by kernel_rfl) (by kernel_rfl) (by kernel_rfl) (fun _ _ _ h=>h) (π ⟨by rfl,?f10⟩) ?_
 case f10=>(intro w;go_simp;try with_reducible rfl)
 refine wpAny_take (i:=12) (v:=?_) rfl (by kernel_rfl) (by kernel_rfl) (by kernel_rfl) (fun _ _ _ h=>h) (π ⟨by rfl,?f12⟩) ?_
 case f12=>(intro w;go_simp;try with_reducible rfl)
 refine wpAny_take (i:=13) (v:=?_) rfl (by kernel_rfl) (by kernel_rfl) (by kernel_rfl) (fun _ _ _ h=>h) (π ⟨by rfl,?f13⟩) ?_
 case f13=>(intro w;go_simp;try with_reducible rfl)
 refine wpAny_ready (rs:=[2]) (by kernel_rfl) (by simp) ?_;refine μ rfl (fun K b=>?_) ν;go_simp;refine(Aa p _).mono ?_;rintro e w' ⟨rfl,c⟩;obtain rfl:=c.symm;clear c;refine b _ _ ?_;clear b K;refine wpAny_ready (rs:=[5]) (by kernel_rfl) (by simp) ?_;refine μ rfl (fun K b=>?_) ν;go_simp;refine(Aa q _).mono ?_;rintro e w' ⟨rfl,c⟩;obtain rfl:=c.symm;clear c;refine b _ _ ?_;clear b K;refine wpAny_ready (rs:=[8]) (by kernel_rfl) (by simp) ?_;refine μ rfl (fun K b=>?_) ν;go_simp;refine(Aa r _).mono ?_;rintro e w' ⟨rfl,c⟩;obtain rfl:=c.symm;clear c;refine b _ _ ?_;clear b K;refine wpAny_ready (rs:=[11]) (by kernel_rfl) (by simp) ?_;refine μ rfl (fun K b=>?_) ν;go_simp;refine(Aa u _).mono ?_;rintro e w' ⟨rfl,c⟩;obtain rfl:=c.symm;clear c;refine b _ _ ?_;clear b K;refine wpAny_ready (rs:=[14]) (by kernel_rfl) (by simp) ?_;refine μ rfl (fun K b=>?_) ν;go_simp;refine(Aa x _).mono ?_;rintro e w' ⟨rfl,c⟩;obtain rfl:=c.symm;clear c;refine b _ _ ?_;clear b K;refine wpAny_take (i:=15) (v:=?_) rfl (by kernel_rfl) (by kernel_rfl) (by kernel_rfl) (fun _ _ _ h=>h) (π ⟨by rfl,?f15⟩) ?_
 case f15=>(intro w;go_simp;try with_reducible rfl)
 refine wpAny_ready (rs:=[16]) (by kernel_rfl) (by simp) ?_;refine μ rfl (fun K b=>?_) ν;go_simp;refine b _ _ ?_;clear b K;refine wpAny_done (by kernel_rfl) ?_ _;go_wp2;exact bodyPost_ret (v:=ρ #[U α (B:Int),U α (C:Int),U α (D:Int),U α (E:Int),U α (H:Int),γ none 0 0,β ⟨#[]⟩]) (by simp[results,Tryz.results174,go_sem]) rfl ⟨rfl,(Bn w _).drew⟩
end Go.Proofs.YtfpmnekaockodaaGreatDoor
