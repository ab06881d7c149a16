/- Laws for the proof. -/
import Derived.Test.YtfpmnekaockodaaGreatDoorU16
import Derived.Laws.StructEq
import Derived.Laws.Rows
namespace Go.Proofs.YtfpmnekaockodaaGreatDoor
open Go.RowKit Go.Sort
set_option linter.all false
set_option maxRecDepth 4000
set_option maxHeartbeats 8000000
def PkAt(w:World)(g:Nat)(v0 v1 v2 v3 v4 v5 v6:Value):Prop:=
 w.cell? ⟨g,0,none⟩=some v0/\w.cell? ⟨g,1,none⟩=some v1/\w.cell? ⟨g,2,none⟩=some v2/\w.cell? ⟨g,3,none⟩=some v3/\w.cell? ⟨g,4,none⟩=some v4/\w.cell? ⟨g,5,none⟩=some v5/\w.cell? ⟨g,6,none⟩=some v6
theorem Fv(w:World)(v0 v1 v2 v3 v4 v5 v6:Value):PkAt (w.alloc (.cells #[v0,v1,v2,v3,v4,v5,v6] 75)) w.heap.size v0 v1 v2 v3 v4 v5 v6:=by
 refine⟨?_,?_,?_,?_,?_,?_,?_⟩<;>simp
theorem PkAt.below{w w':World}{g:Nat}{v0 v1 v2 v3 v4 v5 v6:Value}(h:PkAt w g v0 v1 v2 v3 v4 v5 v6)(l:Below w.heap.size w w'):PkAt w' g v0 v1 v2 v3 v4 v5 v6:=by
 obtain⟨b,c,d,f,i,j,k⟩:=h;have e:∀o,w'.cell? ⟨g,o,none⟩=w.cell? ⟨g,o,none⟩:=fun o=>l.cell (show g<w.heap.size from World.block_lt_of_cell? w ⟨g,0,none⟩ b);exact⟨(e _).trans b,(e _).trans c,(e _).trans d,(e _).trans f,(e _).trans i,(e _).trans j,(e _).trans k⟩
theorem PkAt.alloc{w:World}{g:Nat}{v0 v1 v2 v3 v4 v5 v6:Value}(h:PkAt w g v0 v1 v2 v3 v4 v5 v6)(o:Obj):PkAt (w.alloc o) g v0 v1 v2 v3 v4 v5 v6:=h.below ((Below.refl _ _).alloc (Nat.le_refl _) _)
theorem Bv(w:World)(o:Obj):Below w.heap.size w (w.alloc o):=(Below.refl _ _).alloc (Nat.le_refl _) _
theorem Ko(n lo d:Int)(w:World)(b:Bool)(f:TB b (lo<=n/\n<=d)):
  Calls Tryz.prog 178 #[.int .i64 n,.int .i64 lo,.int .i64 d] w fun e w'=>e=.returned (.bool b)/\w'=w:=by
 have c:=Ab f;clear f;by_cases i:lo<=n
 ·by_cases j:n<=d
  ·go_enter Tryz.func178,Tryz.ntmps178
   go_wp2;go_ret;exact⟨Ce ((Aa c).yes ⟨i,j⟩).symm,rfl⟩
  ·go_enter Tryz.func178,Tryz.ntmps178
   go_wp2;go_ret;exact⟨Ce ((Aa c).no (fun h=>by omega)).symm,rfl⟩
 ·go_enter Tryz.func178,Tryz.ntmps178
  go_wp2;go_ret;exact⟨Ce ((Aa c).no (fun h=>by omega)).symm,rfl⟩
theorem Tj(o l k z h:Int)(x y:Value)(w:World)(b:Bool)(s:TB b (Je k z)):
  Calls Tryz.prog 175 #[.agg #[.int .i64 o,.int .i64 l,.int .i64 k,.int .i64 z,.int .i64 h,x,y]] w fun e w'=>e=.returned (.bool b)/\Below w.heap.size w w':=by
 have j:=Ab s;obtain⟨m,q⟩:=E3 (1<=k/\k<=128);obtain⟨p,r⟩:=E3 (1<=z/\z<=64);have f:=Ab q;have i:=Ab r;clear s q r;have d:=Ab (Bv w (.cells #[.int .i64 o,.int .i64 l,.int .i64 k,.int .i64 z,.int .i64 h,x,y] 75));go_enter Tryz.func175,Tryz.ntmps175;go_wp2_with fail;refine(Ko k 1 128 _ m (Aa f)).mono ?_;rintro e w' ⟨rfl,c⟩;obtain rfl:=c.symm;clear c;cases m
 ·go_wp2
  go_ret;exact⟨Ce ((Aa j).no (fun h=>by simpa using(Aa f).2 h.1)).symm,Aa d⟩
 ·go_wp2_with fail
  refine(Ko z 1 64 _ p (Aa i)).mono ?_;rintro e w' ⟨rfl,c⟩;obtain rfl:=c.symm;clear c;cases p
  ·go_wp2
   go_ret;exact⟨Ce ((Aa j).no (fun h=>by simpa using(Aa i).2 h.2)).symm,Aa d⟩
  ·go_wp2
   go_ret;exact⟨Ce ((Aa j).yes ⟨(Aa f).1 rfl,(Aa i).1 rfl⟩).symm,Aa d⟩
theorem eT(o l k z h:Int)(x y:Value)(w:World)(b:Bool)(D:TB b (Lc o l k z h)):
  Calls Tryz.prog 153 #[.agg #[.int .i64 o,.int .i64 l,.int .i64 k,.int .i64 z,.int .i64 h,x,y]] w fun e w'=>e=.returned (.bool b)/\Below w.heap.size w w':=by
 have f:=Ab D;obtain⟨q,v⟩:=E3 (Je k z);obtain⟨r,A⟩:=E3 (0<=o/\o<=4294967295);obtain⟨s,B⟩:=E3 (0<=l/\l<=k*z);obtain⟨u,C⟩:=E3 (0<=h/\h<=15);have i:=Ab v;have j:=Ab A;have m:=Ab B;have p:=Ab C;clear D v A B C;have E:=Ab (Bv w (.cells #[.int .i64 o,.int .i64 l,.int .i64 k,.int .i64 z,.int .i64 h,x,y] 75));have I:=Ab (Fv w (.int .i64 o) (.int .i64 l) (.int .i64 k) (.int .i64 z) (.int .i64 h) x y);go_enter Tryz.func153,Tryz.ntmps153;go_wp2_with fail;refine(Tj o l k z h x y _ q (Aa i)).mono ?_;rintro e w1 ⟨rfl,d⟩;obtain⟨K,L,N,O,P,Q,R⟩:=(Aa I).below d;have B1:=Ab (Ad (Aa E) d);clear d;cases q
 ·go_wp2
  go_ret;exact⟨Ce ((Aa f).no (fun h=>by simpa using(Aa i).2 h.1)).symm,Aa B1⟩
 ·have J:=Qo ((Aa i).1 rfl)
  have H:=Ab (show wrap64 (k*z)=k*z by unfold wrap64;omega);clear J;go_wp2_with fail;refine(Ko o 0 4294967295 _ r (Aa j)).mono ?_;rintro e w' ⟨rfl,c⟩;obtain rfl:=c.symm;clear c;cases r
  ·go_wp2
   go_ret;exact⟨Ce ((Aa f).no (fun h=>by simpa using(Aa j).2 h.2.1)).symm,Aa B1⟩
  ·go_wp2_with fail
   refine(Ko l 0 (wrap64 (k*z)) _ s (by rw[Aa H];exact Aa m)).mono ?_;rintro e w' ⟨rfl,c⟩;obtain rfl:=c.symm;clear c;cases s
   ·go_wp2
    go_ret;exact⟨Ce ((Aa f).no (fun h=>by simpa using(Aa m).2 h.2.2.1)).symm,Aa B1⟩
   ·go_wp2_with fail
    refine(Ko h 0 15 _ u (Aa p)).mono ?_;rintro e w' ⟨rfl,c⟩;obtain rfl:=c.symm;clear c;cases u
    ·go_wp2
     go_ret;exact⟨Ce ((Aa f).no (fun h=>by simpa using(Aa p).2 h.2.2.2)).symm,Aa B1⟩
    ·go_wp2
     go_ret;exact⟨Ce ((Aa f).yes ⟨(Aa i).1 rfl,(Aa j).1 rfl,(Aa m).1 rfl,(Aa p).1 rfl⟩).symm,Aa B1⟩
theorem JH{k:Int}{xs:List Nat}(h:Cq k xs):xs.length<=2:=by
 have:=D6 k;have:=h.2.1;omega
theorem mY(o l k z h:Int)(a:Option Addr)(n c:Nat)(xs:List Nat)(s:ByteArray)(w:World)(A:RowAt w a n xs)(b:Bool)(H:TB b (JZ k z xs s.size)):
  Calls Tryz.prog 154 #[.agg #[.int .i64 o,.int .i64 l,.int .i64 k,.int .i64 z,.int .i64 h,.slice a n c,.string s]] w fun e w'=>e=.returned (.bool b)/\Below w.heap.size w w':=by
 have r:=Ab H;have f:=A.1;have E:=Ab (GQ A (.cells #[.int .i64 o,.int .i64 l,.int .i64 k,.int .i64 z,.int .i64 h,.slice a n c,.string s] 75));have J:=Ab (Bv w (.cells #[.int .i64 o,.int .i64 l,.int .i64 k,.int .i64 z,.int .i64 h,.slice a n c,.string s] 75));have N:=Ab (Fv w (.int .i64 o) (.int .i64 l) (.int .i64 k) (.int .i64 z) (.int .i64 h) (.slice a n c) (.string s));have K:=Ab f;clear H A f;go_enter Tryz.func154,Tryz.ntmps154;go_wp2_with fail;refine(L7 a n c xs k _ (Aa E)).mono ?_;rintro e w1 ⟨⟨O,rfl,q⟩,d⟩;obtain⟨Q,R,S,T,V,W,X⟩:=(Aa N).below d;have B1:=Ab (Ad (Aa J) d);have x:=Ab ((Aa E).below d);have D:=Ab q;clear d q;cases O
 ·go_wp2
  go_ret;exact⟨Ce ((Aa r).no (fun h=>by simpa using(Aa D).2 h.1)).symm,Aa B1⟩
 ·have B:=(Aa D).1 rfl
  have I:n<=1048576:=by have:=JH B;have:=Aa K;omega
  have u:=Ab (GP a n c xs w1 (Aa x) I);have L:=Ab B;clear B I;rcases Nat.eq_zero_or_pos (cnt xs)with j|j
  ·rw[j]at u
   have y:=Ab j;clear j;go_wp2_with fail;refine(Aa u).mono ?_;rintro e w' ⟨rfl,i⟩;obtain rfl:=i.symm;clear i;go_wp2;go_ret;exact⟨Ce ((Aa r).no (fun h=>by have:=h.2.1;have:=Aa y;omega)).symm,Aa B1⟩
  ·have y:=Ab j
   have P:(0:Int)<((cnt xs:Nat):Int):=by omega
   generalize ((cnt xs:Nat):Int)=m at*;clear j;by_cases p:(s.size:Int)=z
   ·have C:((s.size:Int)==z)=true:=by rw[beq_iff_eq];exact p
    have v:=Ab p;clear p;go_wp2_with fail;refine(Aa u).mono ?_;rintro e w' ⟨rfl,i⟩;obtain rfl:=i.symm;clear i;go_wp2;go_ret;exact⟨Ce ((Aa r).yes ⟨Aa L,Aa y,Aa v⟩).symm,Aa B1⟩
   ·have C:((s.size:Int)==z)=false:=by rw[beq_eq_false_iff_ne];exact p
    have v:=Ab p;clear p;go_wp2_with fail;refine(Aa u).mono ?_;rintro e w' ⟨rfl,i⟩;obtain rfl:=i.symm;clear i;go_wp2;go_ret;exact⟨Ce ((Aa r).no (fun h=>Aa v h.2.2)).symm,Aa B1⟩
theorem EV(o l k z h:Int)(a:Option Addr)(n c:Nat)(xs:List Nat)(s:ByteArray)(w:World)(y:RowAt w a n xs)(en:Nat)(f:ER en (Ci o l k z h xs s.size)):
  Calls Tryz.prog 121 #[.agg #[.int .i64 o,.int .i64 l,.int .i64 k,.int .i64 z,.int .i64 h,.slice a n c,.string s]] w fun e w'=>e=.returned (.int .i64 ((en:Nat):Int))/\Below w.heap.size w w':=by
 have m:=Ab f;obtain⟨r,v⟩:=E3 (Lc o l k z h);obtain⟨u,x⟩:=E3 (JZ k z xs s.size);have i:=Ab v;have j:=Ab x;have B:=Ab (GQ y (.cells #[.int .i64 o,.int .i64 l,.int .i64 k,.int .i64 z,.int .i64 h,.slice a n c,.string s] 75));have A:=Ab (Bv w (.cells #[.int .i64 o,.int .i64 l,.int .i64 k,.int .i64 z,.int .i64 h,.slice a n c,.string s] 75));have C:=Ab (Fv w (.int .i64 o) (.int .i64 l) (.int .i64 k) (.int .i64 z) (.int .i64 h) (.slice a n c) (.string s));clear f y v x;go_enter Tryz.func121,Tryz.ntmps121;go_wp2_with fail;refine(eT o l k z h _ _ _ r (Aa i)).mono ?_;rintro e w1 ⟨rfl,b⟩;obtain⟨D,E,H,I,J,K,L⟩:=(Aa C).below b;have p:=Ab ((Aa B).below b);have B1:=Ab (Ad (Aa A) b);clear b;cases r
 ·go_wp2
  go_ret;exact⟨CC (by rw[(Aa m).no (fun h=>by simpa using(Aa i).2 h.1)];rfl),Aa B1⟩
 ·go_wp2_with fail
  refine(mY o l k z h a n c xs s _ (Aa p) u (Aa j)).mono ?_;rintro e w2 ⟨rfl,d⟩;have q:=Ab (Ad (Aa B1) d);clear d;cases u
  ·go_wp2
   go_ret;exact⟨CC (by rw[(Aa m).no (fun h=>by simpa using(Aa j).2 h.2)];rfl),Aa q⟩
  ·go_wp2
   go_ret;exact⟨CC (by rw[(Aa m).yes ⟨(Aa i).1 rfl,(Aa j).1 rfl⟩];rfl),Aa q⟩
variable {xs:List Nat}{g n:Nat}{a:Option Addr}{v0 v1 v2 v3 v4 v5 v6:Value}{w w':World}
theorem oE(o l k z h q p m r i:Int)(s f:ByteArray)(b:Bool)(x:TB b ((o=q/\l=p/\k=m/\z=r/\h=i)/\s=f))(W:World):
  (binOp .eql 344 (.agg #[.int .i64 o,.int .i64 l,.int .i64 k,.int .i64 z,.int .i64 h,.string s]) (.agg #[.int .i64 q,.int .i64 p,.int .i64 m,.int .i64 r,.int .i64 i,.string f])).run Tryz.prog W=.ok (.bool b) W:=by
 obtain rfl:b=decide ((o=q/\l=p/\k=m/\z=r/\h=i)/\s=f):=by
  rw[eq_comm,Bool.eq_iff_iff,decide_eq_true_iff];exact x.symm
 clear x;rw[run_eql_struct,run_equalIn_struct (d:=9999) (ht:=by kernel_rfl) (hp:=by kernel_rfl)];simp only[Program.fieldsOf,Tryz.underlying344];by_cases c:o=q
 ·by_cases e:l=p
  ·by_cases j:k=m
   ·by_cases u:z=r
    ·by_cases v:h=i
     ·have y:=MA s f
      by_cases A:s=f<;>simp[Op.eqFields,BS,go_sem,Tryz.underlying3,Tryz.underlying9,c,e,j,u,v,A,y]
     ·simp[Op.eqFields,BS,go_sem,Tryz.underlying3,c,e,j,u,v]
    ·simp[Op.eqFields,BS,go_sem,Tryz.underlying3,c,e,j,u]
   ·simp[Op.eqFields,BS,go_sem,Tryz.underlying3,c,e,j]
  ·simp[Op.eqFields,BS,go_sem,Tryz.underlying3,c,e]
 ·simp[Op.eqFields,BS,go_sem,Tryz.underlying3,c]
theorem YA(w:World)(o b:Obj):Below w.heap.size w ((w.alloc o).alloc b):=((Below.refl _ _).alloc (Nat.le_refl _) _).alloc (by simp) _
theorem TF(o l k z h:Int)(x:Value)(s:ByteArray)(w:World):
  Calls Tryz.prog 249 #[.agg #[.int .i64 o,.int .i64 l,.int .i64 k,.int .i64 z,.int .i64 h,x,.string s]] w fun e w'=>e=.returned (.agg #[.int .i64 o,.int .i64 l,.int .i64 k,.int .i64 z,.int .i64 h,.string s])/\Below w.heap.size w w':=by
 go_enter Tryz.func249,Tryz.ntmps249;go_wp2;exact bodyPost_ret (v:=.agg #[.int .i64 o,.int .i64 l,.int .i64 k,.int .i64 z,.int .i64 h,.string s]) (by simp[results,Tryz.results249,go_sem]) rfl ⟨rfl,YA w _ _⟩
def Nf(o l k z h:Int)(xs:List Nat)(s:ByteArray)(e d c i b:Int)(f:List Nat)(t:ByteArray):Prop:=((o=e/\l=d/\k=c/\z=i/\h=b)/\s=t)/\cnt (xorL xs f)=0
theorem kK{b:List Nat}(e:Ac xs)(f:Ac b):decide (firstI (xorL xs b)<0)=decide (cnt (xorL xs b)=0):=by
 have c:=RB (xorL xs b);by_cases h:cnt (xorL xs b)=0
 ·rw[decide_eq_true h,decide_eq_true (c.2 (SP _ (L0 e f) h))]
 ·rw[decide_eq_false h,decide_eq_false (fun d=>h (R8 _ (c.1 d)))]
theorem TI(o l k z h:Int)(a:Option Addr)(n c:Nat)(xs:List Nat)(s:ByteArray)(r q p u j:Int)(v:Option Addr)(m x:Nat)(Z:List Nat)(t:ByteArray)(w:World)(ht:Tab w)(hr:RowAt w a n xs)(C:RowAt w v m Z)(hn:n<=1048576)(hm:m<=1048576)(b:Bool)(B:TB b (Nf o l k z h xs s r q p u j Z t)):
  Calls Tryz.prog 203 #[.agg #[.int .i64 o,.int .i64 l,.int .i64 k,.int .i64 z,.int .i64 h,.slice a n c,.string s],.agg #[.int .i64 r,.int .i64 q,.int .i64 p,.int .i64 u,.int .i64 j,.slice v m x,.string t]] w fun e w'=>e=.returned (.bool b)/\Below w.heap.size w w':=by
 have HB:=Ab B;obtain⟨b1,h1⟩:=E3 ((o=r/\l=q/\k=p/\z=u/\h=j)/\s=t);have H1:=Ab h1;have hq:=oE o l k z h r q p u j s t b1 h1;have hg:Tryz.prog.eqGuardType Tryz.prog.depth 344=false:=by kernel_rfl
 have x1:=(Fv w (.int .i64 o) (.int .i64 l) (.int .i64 k) (.int .i64 z) (.int .i64 h) (.slice a n c) (.string s)).alloc (.cells #[.int .i64 r,.int .i64 q,.int .i64 p,.int .i64 u,.int .i64 j,.slice v m x,.string t] 75);have x2:=Fv (w.alloc (.cells #[.int .i64 o,.int .i64 l,.int .i64 k,.int .i64 z,.int .i64 h,.slice a n c,.string s] 75)) (.int .i64 r) (.int .i64 q) (.int .i64 p) (.int .i64 u) (.int .i64 j) (.slice v m x) (.string t);rw[Bc]at x2;obtain⟨H,I,J,L,N,O,P⟩:=x1;obtain⟨Q,R,S,T,V,X,Y⟩:=x2;have aa:=cell_regrown H;have ab:=cell_regrown I;have ac:=cell_regrown J;have ad:=cell_regrown L;have ae:=cell_regrown N;have af:=cell_regrown O;have ag:=cell_regrown P;have ah:=cell_regrown Q;have ai:=cell_regrown R;have aj:=cell_regrown S;have ak:=cell_regrown T;have al:=cell_regrown V;have am:=cell_regrown X;have an:=cell_regrown Y;have c1:=Cr (W:=(w.alloc (.cells #[.int .i64 o,.int .i64 l,.int .i64 k,.int .i64 z,.int .i64 h,.slice a n c,.string s] 75)).alloc (.cells #[.int .i64 r,.int .i64 q,.int .i64 p,.int .i64 u,.int .i64 j,.slice v m x,.string t] 75)) (fun w' B=>TF o l k z h (.slice a n c) s w');have c2:=Cr (W:=(w.alloc (.cells #[.int .i64 o,.int .i64 l,.int .i64 k,.int .i64 z,.int .i64 h,.slice a n c,.string s] 75)).alloc (.cells #[.int .i64 r,.int .i64 q,.int .i64 p,.int .i64 u,.int .i64 j,.slice v m x,.string t] 75)) (fun w' B=>TF r q p u j (.slice v m x) t w');have c3:=Cr (W:=(w.alloc (.cells #[.int .i64 o,.int .i64 l,.int .i64 k,.int .i64 z,.int .i64 h,.slice a n c,.string s] 75)).alloc (.cells #[.int .i64 r,.int .i64 q,.int .i64 p,.int .i64 u,.int .i64 j,.slice v m x,.string t] 75)) (fun w' B=>rE a n c xs v m x Z w' (ht.below (GV (Below.refl _ w) B)) (hr.below (GV (Below.refl _ w) B)) (C.below (GV (Below.refl _ w) B)) hn hm);rw[kK hr.2.1 C.2.1]at c3;clear B h1 ht hr C hn hm H I J L N O P Q R S T V X Y;cases b1
 ·go_enter Tryz.func203,Tryz.ntmps203
  go_wp2_with fail;refine wp_region_quiet_below (by kernel_rfl) (by kernel_rfl) ?_
  repeat (with_reducible refine wpQuiet_step (fun K y=>?_);go_simp;first|(with_reducible refine y _ ?_;clear y K)|(apply Exists.intro;apply And.intro;(intro _;first|(go_at_call 249;first|with_reducible exact c1 _ _|with_reducible exact c2 _ _)|(go_at_call 250;exact c3 _ _));with_reducible refine y _ ?_;clear y K))
  refine wpQuiet_nil ?_;intro w3 d;obtain⟨⟨A,i⟩,d⟩:=d;have f:Below ((w.alloc (.cells #[.int .i64 o,.int .i64 l,.int .i64 k,.int .i64 z,.int .i64 h,.slice a n c,.string s] 75)).alloc (.cells #[.int .i64 r,.int .i64 q,.int .i64 p,.int .i64 u,.int .i64 j,.slice v m x,.string t] 75)).heap.size ((w.alloc (.cells #[.int .i64 o,.int .i64 l,.int .i64 k,.int .i64 z,.int .i64 h,.slice a n c,.string s] 75)).alloc (.cells #[.int .i64 r,.int .i64 q,.int .i64 p,.int .i64 u,.int .i64 j,.slice v m x,.string t] 75)) w3:=by rw[d];exact below_regrown _ A i
  have E:=Ab (GV (Below.refl _ w) f);clear d f A i;go_wp2;go_ret;exact⟨Ce ((Aa HB).no (fun h=>by simpa using(Aa H1).2 h.1)).symm,Aa E⟩
 ·by_cases D:cnt (xorL xs Z)=0
  ·rw[decide_eq_true D]at c3
   have HZ:=Ab D;clear D;go_enter Tryz.func203,Tryz.ntmps203;go_wp2_with fail;refine wp_region_quiet_below (by kernel_rfl) (by kernel_rfl) ?_
   repeat (with_reducible refine wpQuiet_step (fun K y=>?_);go_simp;first|(with_reducible refine y _ ?_;clear y K)|(apply Exists.intro;apply And.intro;(intro _;first|(go_at_call 249;first|with_reducible exact c1 _ _|with_reducible exact c2 _ _)|(go_at_call 250;exact c3 _ _));with_reducible refine y _ ?_;clear y K))
   refine wpQuiet_nil ?_;intro w3 d;obtain⟨⟨A,i⟩,d⟩:=d;have f:Below ((w.alloc (.cells #[.int .i64 o,.int .i64 l,.int .i64 k,.int .i64 z,.int .i64 h,.slice a n c,.string s] 75)).alloc (.cells #[.int .i64 r,.int .i64 q,.int .i64 p,.int .i64 u,.int .i64 j,.slice v m x,.string t] 75)).heap.size ((w.alloc (.cells #[.int .i64 o,.int .i64 l,.int .i64 k,.int .i64 z,.int .i64 h,.slice a n c,.string s] 75)).alloc (.cells #[.int .i64 r,.int .i64 q,.int .i64 p,.int .i64 u,.int .i64 j,.slice v m x,.string t] 75)) w3:=by rw[d];exact below_regrown _ A i
   have E:=Ab (GV (Below.refl _ w) f);clear d f A i;go_wp2;go_ret;exact⟨Ce ((Aa HB).yes ⟨(Aa H1).1 rfl,Aa HZ⟩).symm,Aa E⟩
  ·rw[decide_eq_false D]at c3
   have HZ:=Ab D;clear D;go_enter Tryz.func203,Tryz.ntmps203;go_wp2_with fail;refine wp_region_quiet_below (by kernel_rfl) (by kernel_rfl) ?_
   repeat (with_reducible refine wpQuiet_step (fun K y=>?_);go_simp;first|(with_reducible refine y _ ?_;clear y K)|(apply Exists.intro;apply And.intro;(intro _;first|(go_at_call 249;first|with_reducible exact c1 _ _|with_reducible exact c2 _ _)|(go_at_call 250;exact c3 _ _));with_reducible refine y _ ?_;clear y K))
   refine wpQuiet_nil ?_;intro w3 d;obtain⟨⟨A,i⟩,d⟩:=d;have f:Below ((w.alloc (.cells #[.int .i64 o,.int .i64 l,.int .i64 k,.int .i64 z,.int .i64 h,.slice a n c,.string s] 75)).alloc (.cells #[.int .i64 r,.int .i64 q,.int .i64 p,.int .i64 u,.int .i64 j,.slice v m x,.string t] 75)).heap.size ((w.alloc (.cells #[.int .i64 o,.int .i64 l,.int .i64 k,.int .i64 z,.int .i64 h,.slice a n c,.string s] 75)).alloc (.cells #[.int .i64 r,.int .i64 q,.int .i64 p,.int .i64 u,.int .i64 j,.slice v m x,.string t] 75)) w3:=by rw[d];exact below_regrown _ A i
   have E:=Ab (GV (Below.refl _ w) f);clear d f A i;go_wp2;go_ret;exact⟨Ce ((Aa HB).no (fun h=>Aa HZ h.2)).symm,Aa E⟩
def AX(w:World)(g:Nat)(v0 v1 v2 v3 v4 v5 v6:Value):Prop:=w.heap[g]? =some (.cells #[v0,v1,v2,v3,v4,v5,v6] 75 (0,0))
theorem CM(w:World)(v0 v1 v2 v3 v4 v5 v6:Value):AX (w.alloc (.cells #[v0,v1,v2,v3,v4,v5,v6] 75)) w.heap.size v0 v1 v2 v3 v4 v5 v6:=by
 show(w.heap.push _)[w.heap.size]? =_;simp
theorem AX.lt(h:AX w g v0 v1 v2 v3 v4 v5 v6):g<w.heap.size:=(Array.getElem?_eq_some_iff.1 h).1
theorem AX.below(h:AX w g v0 v1 v2 v3 v4 v5 v6)(b:Below w.heap.size w w'):AX w' g v0 v1 v2 v3 v4 v5 v6:=(b.block g h.lt).trans h
theorem AX.at(h:AX w g v0 v1 v2 v3 v4 v5 v6):PkAt w g v0 v1 v2 v3 v4 v5 v6:=by
 unfold AX at h;refine⟨?_,?_,?_,?_,?_,?_,?_⟩<;>rw[cell_of_row w g _ _ _ _ h]<;>rfl
theorem AX.frz(h:AX w g v0 v1 v2 v3 v4 v5 v6)(i:Nat):w.frozen? ⟨g,i,none⟩=false:=by
 unfold AX at h;simp[World.frozen?,h]
theorem AX.other(h:AX w g v0 v1 v2 v3 v4 v5 v6){a:Addr}(b:g≠a.block)(u:Value):AX (w.setCell a u) g v0 v1 v2 v3 v4 v5 v6:=
 (Below.heap_setCell w a u g b).trans h
theorem AX.set0(h:AX w g v0 v1 v2 v3 v4 v5 v6)(u:Value):AX (w.setCell ⟨g,0,none⟩ u) g u v1 v2 v3 v4 v5 v6:=heap_setCell_same w g 0 _ _ u h
theorem AX.set1(h:AX w g v0 v1 v2 v3 v4 v5 v6)(u:Value):AX (w.setCell ⟨g,1,none⟩ u) g v0 u v2 v3 v4 v5 v6:=heap_setCell_same w g 1 _ _ u h
theorem AX.set2(h:AX w g v0 v1 v2 v3 v4 v5 v6)(u:Value):AX (w.setCell ⟨g,2,none⟩ u) g v0 v1 u v3 v4 v5 v6:=heap_setCell_same w g 2 _ _ u h
theorem AX.set3(h:AX w g v0 v1 v2 v3 v4 v5 v6)(u:Value):AX (w.setCell ⟨g,3,none⟩ u) g v0 v1 v2 u v4 v5 v6:=heap_setCell_same w g 3 _ _ u h
theorem AX.set4(h:AX w g v0 v1 v2 v3 v4 v5 v6)(u:Value):AX (w.setCell ⟨g,4,none⟩ u) g v0 v1 v2 v3 u v5 v6:=heap_setCell_same w g 4 _ _ u h
theorem AX.set5(h:AX w g v0 v1 v2 v3 v4 v5 v6)(u:Value):AX (w.setCell ⟨g,5,none⟩ u) g v0 v1 v2 v3 v4 u v6:=heap_setCell_same w g 5 _ _ u h
theorem AX.set6(h:AX w g v0 v1 v2 v3 v4 v5 v6)(u:Value):AX (w.setCell ⟨g,6,none⟩ u) g v0 v1 v2 v3 v4 v5 u:=heap_setCell_same w g 6 _ _ u h
def set7(w:World)(g:Nat)(u0 u1 u2 u3 u4 u5 u6:Value):World:=((((((w.setCell ⟨g,0,none⟩ u0).setCell ⟨g,1,none⟩ u1).setCell ⟨g,2,none⟩ u2).setCell ⟨g,3,none⟩ u3).setCell ⟨g,4,none⟩ u4).setCell ⟨g,5,none⟩ u5).setCell ⟨g,6,none⟩ u6
theorem AX.sets(h:AX w g v0 v1 v2 v3 v4 v5 v6)(u0 u1 u2 u3 u4 u5 u6:Value):AX (set7 w g u0 u1 u2 u3 u4 u5 u6) g u0 u1 u2 u3 u4 u5 u6:=
 ((((((h.set0 u0).set1 u1).set2 u2).set3 u3).set4 u4).set5 u5).set6 u6
theorem CD{B:Nat}{a:World}(h:Below B a w){g:Nat}(b:B<=g)(u0 u1 u2 u3 u4 u5 u6:Value):Below B a (set7 w g u0 u1 u2 u3 u4 u5 u6):=
 ((((((h.setCell b u0).setCell b u1).setCell b u2).setCell b u3).setCell b u4).setCell b u5).setCell b u6
theorem Own.apart{B:Nat}{c:Nat}(h:Own w B (.slice a n c) xs):∀b,a=some b->n≠0->B<=b.block:=by
 intro b i l;obtain⟨j,k,e,m⟩:=h.row;simp only[Value.slice.injEq]at e;obtain⟨rfl,rfl,rfl⟩:=e;obtain⟨g,cap,d,f,_⟩:=h.at (by omega);simp only[Value.slice.injEq]at d;rw[i]at d;obtain rfl:=Option.some.inj d.1;exact f
theorem RowAt.other(h:RowAt w a n xs){B:Nat}(k:∀c,a=some c->n≠0->c.block≠B)(i:Nat)(u:Value):RowAt (w.setCell ⟨B,i,none⟩ u) a n xs:=by
 refine⟨h.1,h.2.1,?_⟩;rcases h.2.2 with f|⟨b,off,rfl,l⟩
 ·exact .inl f
 ·by_cases d:n=0
  ·exact .inl d
  ·exact .inr ⟨b,off,rfl,fun j m=>(World.cell?_setCell_other (h:=fun e=>k _ rfl d (congrArg Addr.block e).symm) ..).trans (l j m)⟩
theorem RowAt.other7(h:RowAt w a n xs){B:Nat}(b:∀c,a=some c->n≠0->c.block≠B)(u0 u1 u2 u3 u4 u5 u6:Value):RowAt (set7 w B u0 u1 u2 u3 u4 u5 u6) a n xs:=
 ((((((h.other b 0 u0).other b 1 u1).other b 2 u2).other b 3 u3).other b 4 u4).other b 5 u5).other b 6 u6
theorem Lg(s:ByteArray)(i:Nat)(b:i<s.size):num (tx (s.extract i (i+1)))=(tx s).getD i 0:=by
 have:i<(tx s).length:=by rw[AU];exact b
 rw[Ex,show i+1-i=1 by omega,List.drop_eq_getElem_cons this,List.take_succ_cons,List.take_zero,List.getD_eq_getElem?_getD,List.getElem?_eq_getElem this];simp[num]
theorem Km(s:ByteArray)(d:s.size=1\/s.size=4)(w:World):
  Calls Tryz.prog 208 #[.string s] w fun e w'=>e=.returned (.int .i64 ((num (tx s):Nat):Int))/\w'=w:=by
 have c:=fun wx=>Sd s (s.size:Int) wx;have b:=Np (s:=s) (k:=(s.size:Int)) (by rcases d with h|h<;>rw[h]<;>simp[EL]) (Int.le_refl _);rw[Int.toNat_natCast,<-AU,List.take_length]at b;rw[AU]at b;rw[b.1,b.2]at c;have f:=Ab c;generalize num (tx s)=x at*;clear c b d;go_enter Tryz.func208,Tryz.ntmps208;go_wp2_with fail;refine(Aa f _).mono ?_;rintro e w' ⟨rfl,i⟩;obtain rfl:=i.symm;go_wp2;go_ret;exact⟨rfl,rfl⟩
theorem qW(s:ByteArray)(I:11<=s.size)(w:World):
  Calls Tryz.prog 174 #[.string s] w fun e w'=>e=.returned (.agg #[.int .i64 ((dO s:Nat):Int),.int .i64 ((dL s:Nat):Int),.int .i64 ((dK s:Nat):Int),.int .i64 ((dZ s:Nat):Int),.int .i64 ((dH s:Nat):Int),.slice none 0 0,.string ⟨#[]⟩])/\Below w.heap.size w w':=by
 have d:=fun wx=>Km (s.extract 0 4) (by rw[ByteArray.size_extract];omega) wx;have f:=fun wx=>Km (s.extract 4 8) (by rw[ByteArray.size_extract];omega) wx;have j:=fun wx=>Km (s.extract 8 9) (by rw[ByteArray.size_extract];omega) wx;have k:=fun wx=>Km (s.extract 9 10) (by rw[ByteArray.size_extract];omega) wx;have l:=fun wx=>Km (s.extract 10 11) (by rw[ByteArray.size_extract];omega) wx;rw[show num (tx (s.extract 0 4))=dO s from by rw[Ex];rfl]at d;rw[show num (tx (s.extract 4 8))=dL s from by rw[Ex];rfl]at f;rw[show num (tx (s.extract 8 9))=dK s from Lg s 8 (by omega)]at j;rw[show num (tx (s.extract 9 10))=dZ s from Lg s 9 (by omega)]at k;rw[show num (tx (s.extract 10 11))=dH s from Lg s 10 (by omega)]at l;have p:=Ab d;have q:=Ab f;have r:=Ab j;have u:=Ab k;have x:=Ab l;generalize dO s=B at*;generalize dL s=C at*;generalize dK s=D at*;generalize dZ s=E at*;generalize dH s=H at*;have y:(4:Int)<=(s.size:Int):=by omega
 have z:(8:Int)<=(s.size:Int):=by omega
 have A:(9:Int)<=(s.size:Int):=by omega
 have m:(10:Int)<=(s.size:Int):=by omega
 have o:(11:Int)<=(s.size:Int):=by omega
 clear d f j k l;go_enter Tryz.func174,Tryz.ntmps174;go_wp2_with fail;refine wp_region_any (by kernel_rfl) ?_;change wpAny _ _ _ _ _ _ _ (World.drew _);refine wpAny_take (i:=0) (v:=?_) rfl (by kernel_rfl) (by kernel_rfl) (by kernel_rfl) (fun _ _ _ h=>h) (Or.inl ⟨by rfl,?f0⟩) ?_
 case f0=>(intro w;go_simp;try with_reducible rfl)
 refine wpAny_take (i:=1) (v:=?_) rfl (by kernel_rfl) (by kernel_rfl) (by kernel_rfl) (fun _ _ _ h=>h) (Or.inl ⟨by rfl,?f1⟩) ?_
 case f1=>(intro w;go_simp;try with_reducible rfl)
 refine wpAny_take (i:=3) (v:=?_) rfl (by kernel_rfl) (by kernel_rfl) (by kernel_rfl) (fun _ _ _ h=>h) (Or.inl ⟨by rfl,?f3⟩) ?_
 case f3=>(intro w;go_simp;try with_reducible rfl)
 refine wpAny_take (i:=4) (v:=?_) rfl (by kernel_rfl) (by kernel_rfl) (by kernel_rfl) (fun _ _ _ h=>h) (Or.inl ⟨by rfl,?f4⟩) ?_
 case f4=>(intro w;go_simp;try with_reducible rfl)
 refine wpAny_take (i:=6) (v:=?_) rfl (by kernel_rfl) (by kernel_rfl) (by kernel_rfl) (fun _ _ _ h=>h) (Or.inl ⟨by rfl,?f6⟩) ?_
 case f6=>(intro w;go_simp;try with_reducible rfl)
 refine wpAny_take (i:=7) (v:=?_) rfl (by kernel_rfl) (by kernel_rfl) (by kernel_rfl) (fun _ _ _ h=>h) (Or.inl ⟨by rfl,?f7⟩) ?_
 case f7=>(intro w;go_simp;try with_reducible rfl)
 refine wpAny_take (i:=9) (v:=?_) rfl (by kernel_rfl) (by kernel_rfl) (by kernel_rfl) (fun _ _ _ h=>h) (Or.inl ⟨by rfl,?f9⟩) ?_
 case f9=>(intro w;go_simp;try with_reducible rfl)
 refine wpAny_take (i:=10) (v:=?_) rfl (by kernel_rfl) (by kernel_rfl) (by kernel_rfl) (fun _ _ _ h=>h) (Or.inl ⟨by rfl,?f10⟩) ?_
 case f10=>(intro w;go_simp;try with_reducible rfl)
 refine wpAny_take (i:=12) (v:=?_) rfl (by kernel_rfl) (by kernel_rfl) (by kernel_rfl) (fun _ _ _ h=>h) (Or.inl ⟨by rfl,?f12⟩) ?_
 case f12=>(intro w;go_simp;try with_reducible rfl)
 refine wpAny_take (i:=13) (v:=?_) rfl (by kernel_rfl) (by kernel_rfl) (by kernel_rfl) (fun _ _ _ h=>h) (Or.inl ⟨by rfl,?f13⟩) ?_
 case f13=>(intro w;go_simp;try with_reducible rfl)
 refine wpAny_ready (rs:=[2]) (by kernel_rfl) (by simp) ?_;refine AllReady.cons rfl (fun K b=>?_) AllReady.nil;go_simp;refine(Aa p _).mono ?_;rintro e w' ⟨rfl,c⟩;obtain rfl:=c.symm;clear c;refine b _ _ ?_;clear b K;refine wpAny_ready (rs:=[5]) (by kernel_rfl) (by simp) ?_;refine AllReady.cons rfl (fun K b=>?_) AllReady.nil;go_simp;refine(Aa q _).mono ?_;rintro e w' ⟨rfl,c⟩;obtain rfl:=c.symm;clear c;refine b _ _ ?_;clear b K;refine wpAny_ready (rs:=[8]) (by kernel_rfl) (by simp) ?_;refine AllReady.cons rfl (fun K b=>?_) AllReady.nil;go_simp;refine(Aa r _).mono ?_;rintro e w' ⟨rfl,c⟩;obtain rfl:=c.symm;clear c;refine b _ _ ?_;clear b K;refine wpAny_ready (rs:=[11]) (by kernel_rfl) (by simp) ?_;refine AllReady.cons rfl (fun K b=>?_) AllReady.nil;go_simp;refine(Aa u _).mono ?_;rintro e w' ⟨rfl,c⟩;obtain rfl:=c.symm;clear c;refine b _ _ ?_;clear b K;refine wpAny_ready (rs:=[14]) (by kernel_rfl) (by simp) ?_;refine AllReady.cons rfl (fun K b=>?_) AllReady.nil;go_simp;refine(Aa x _).mono ?_;rintro e w' ⟨rfl,c⟩;obtain rfl:=c.symm;clear c;refine b _ _ ?_;clear b K;refine wpAny_take (i:=15) (v:=?_) rfl (by kernel_rfl) (by kernel_rfl) (by kernel_rfl) (fun _ _ _ h=>h) (Or.inl ⟨by rfl,?f15⟩) ?_
 case f15=>(intro w;go_simp;try with_reducible rfl)
 refine wpAny_ready (rs:=[16]) (by kernel_rfl) (by simp) ?_;refine AllReady.cons rfl (fun K b=>?_) AllReady.nil;go_simp;refine b _ _ ?_;clear b K;refine wpAny_done (by kernel_rfl) ?_ _;go_wp2;exact bodyPost_ret (v:=.agg #[.int .i64 (B:Int),.int .i64 (C:Int),.int .i64 (D:Int),.int .i64 (E:Int),.int .i64 (H:Int),.slice none 0 0,.string ⟨#[]⟩]) (by simp[results,Tryz.results174,go_sem]) rfl ⟨rfl,(Bv w _).drew⟩
def DI(w:World)(a:Option Addr)(n:Nat):Prop:=∀b,a=some b->n≠0->w.heap.size<=b.block
theorem OA(w:World)(n:Nat):DI w none n:=fun b h=>by cases h
theorem DI.mono(h:DI w' a n)(e:w.heap.size<=w'.heap.size):DI w a n:=fun b c d=>Nat.le_trans e (h b c d)
def Ro(w:World)(s:ByteArray)(e:Ending)(w':World):Prop:=
 ∃(o l k z h:Int) (a:Option Addr) (n c:Nat) (xs:List Nat) (t:ByteArray) (en:Nat),e=.returned (.tuple #[.agg #[.int .i64 o,.int .i64 l,.int .i64 k,.int .i64 z,.int .i64 h,.slice a n c,.string t],.int .i64 ((en:Nat):Int)])/\
  RowAt w' a n xs/\DI w a n/\Cg s o l k z h xs t en/\Below w.heap.size w w'
theorem IC{s:ByteArray}{en:Nat}(h:(DO s/\en=2)\/(¬DO s/\¬E6 s/\en=3))(f:Below w.heap.size w w'):
  Ro w s (.returned (.tuple #[.agg #[.int .i64 0,.int .i64 0,.int .i64 0,.int .i64 0,.int .i64 0,.slice none 0 0,.string ⟨#[]⟩],.int .i64 ((en:Nat):Int)])) w':=by
 refine⟨0,0,0,0,0,none,0,0,[],⟨#[]⟩,en,rfl,Dv _,OA _ _,?_,f⟩;have d:A9 0 0 0 0 0 [] ⟨#[]⟩:=⟨rfl,rfl,rfl,rfl,rfl,rfl,rfl⟩;rcases h with⟨b,c⟩|⟨b,c,e⟩
 ·exact .inl ⟨b,c,d⟩
 ·exact .inr (.inl ⟨b,c,e,d⟩)
theorem GJ{tmps:Array Value}{W:World}{x:Int}{u0 u1 u2 u3 u4 u5 u6:Value}(d:tmps.getD 2 undef=.pointer (some ⟨g,0,none⟩))(e:tmps.getD 3 undef=.int .i64 x)(f:AX W g u0 u1 u2 u3 u4 u5 u6):
  (results Tryz.f152 tmps).run Tryz.prog W=.ok (.tuple #[.agg #[u0,u1,u2,u3,u4,u5,u6],.int .i64 x]) W:=by
 obtain⟨h,i,j,k,l,m,o⟩:=f.at;have b:tmps[2]?.getD undef=.pointer (some ⟨g,0,none⟩):=by simpa using d
 have c:tmps[3]?.getD undef=.int .i64 x:=by simpa using e
 simp[results,Tryz.results152,go_sem,b,c,h,i,j,k,l,m,o]
theorem oU(s:ByteArray)(w:World)(hs:s.size<=140737488351232):Calls Tryz.prog 152 #[.string s] w (Ro w s):=by
 by_cases aj:s.size<11
 ·have ap:((s.size:Int)<11):=by omega
  have HF:=Ab (show DO s from .inl aj);clear aj;go_enter Tryz.func152,Tryz.ntmps152;go_wp2;exact bodyPost_ret (GJ rfl rfl (CM w (.int .i64 0) (.int .i64 0) (.int .i64 0) (.int .i64 0) (.int .i64 0) (.slice none 0 0) (.string ⟨#[]⟩))) rfl (IC (en:=2) (.inl ⟨Aa HF,rfl⟩) (Bv w _))
 ·have ap:¬((s.size:Int)<11):=by omega
  have X:=Ab aj;obtain⟨b1,O⟩:=E3 (Je (dK s) (dZ s));have H1:=Ab O;have HH:=Ab (fun wx=>qW s (by omega) wx);clear O aj;have X2:=Ab (CM w (.int .i64 0) (.int .i64 0) (.int .i64 0) (.int .i64 0) (.int .i64 0) (.slice none 0 0) (.string ⟨#[]⟩));go_enter Tryz.func152,Tryz.ntmps152;go_wp2_with fail;refine(Aa HH _).mono ?_;rintro e w1 ⟨rfl,O⟩;have y2:=(Aa X2).below O;have B1:=Ab (Ad (Bv w _) O);have Y2:=Ab (y2.below (Bv w1 (.cells #[.int .i64 ((dO s:Nat):Int),.int .i64 ((dL s:Nat):Int),.int .i64 ((dK s:Nat):Int),.int .i64 ((dZ s:Nat):Int),.int .i64 ((dH s:Nat):Int),.slice none 0 0,.string ⟨#[]⟩] 75)));have Y4:=Ab (CM w1 (.int .i64 ((dO s:Nat):Int)) (.int .i64 ((dL s:Nat):Int)) (.int .i64 ((dK s:Nat):Int)) (.int .i64 ((dZ s:Nat):Int)) (.int .i64 ((dH s:Nat):Int)) (.slice none 0 0) (.string ⟨#[]⟩));have y:=y2.lt;clear O y2 HH X2;go_wp2_with fail;refine(Tj _ _ _ _ _ _ _ _ b1 (Aa H1)).mono ?_;rintro e w2 ⟨rfl,ak⟩;have N:=Ab ((Aa Y2).below ak);have Z4:=Ab ((Aa Y4).below ak);have B2:=Ab (Qe (Aa B1) ak);clear ak Y2 Y4 B1;generalize w1.heap.size=g at*;cases b1
  ·have HB:=Ab (show¬DO s/\¬E6 s from⟨by rintro(h|h);exact Aa X h;simpa using(Aa H1).2 h.1,fun h=>by simpa using(Aa H1).2 h.1.1⟩)
   obtain⟨P,Q,R,k3,S,V,W⟩:=(Aa N).at;have f:=(Aa N).frz;go_wp2;have q:=Ab ((Aa N).sets (.int .i64 0) (.int .i64 0) (.int .i64 0) (.int .i64 0) (.int .i64 0) (.slice none 0 0) (.string ⟨#[]⟩));have b:=Ab (CD (Aa B2) (Nat.le_refl _) (.int .i64 0) (.int .i64 0) (.int .i64 0) (.int .i64 0) (.int .i64 0) (.slice none 0 0) (.string ⟨#[]⟩));exact bodyPost_ret (GJ rfl rfl (Aa q)) rfl (IC (en:=3) (.inr ⟨(Aa HB).1,(Aa HB).2,rfl⟩) (Aa b))
  ·have al:=(Aa H1).1 rfl
   obtain⟨P,Q,R,k3,S,V,W⟩:=(Aa Z4).at;have ar:(1:Int)<=((dZ s:Nat):Int):=al.2.1;have au:((dZ s:Nat):Int)<=64:=al.2.2;have HZ:=Ab (fun wx=>Hn ((dK s:Nat):Int) wx);have hN:sizeOfK ((dK s:Nat):Int)=1\/sizeOfK ((dK s:Nat):Int)=2:=by
    have z:=al.1;unfold sizeOfK;rw[if_neg (by omega)];omega
   clear al;rcases hN with hN|hN
   ·rw[hN]at HZ
    have J:=Ab (show dN s=19 from by unfold dN;rw[hN]);have HS:=Ab hN;clear hN;by_cases ai:(s.size:Int)<19+((dZ s:Nat):Int)
    ·have HF:=Ab (show DO s from .inr ⟨(Aa H1).1 rfl,by have:=Aa J;omega⟩)
     go_wp2_with fail;refine(Aa HZ _).mono ?_;rintro e w' ⟨rfl,hw⟩;obtain rfl:=hw.symm;clear hw P Q R S V W;obtain⟨P,Q,R,k3,S,V,W⟩:=(Aa N).at;have f:=(Aa N).frz;go_wp2;have q:=Ab ((Aa N).sets (.int .i64 0) (.int .i64 0) (.int .i64 0) (.int .i64 0) (.int .i64 0) (.slice none 0 0) (.string ⟨#[]⟩));have b:=Ab (CD (Aa B2) (Nat.le_refl _) (.int .i64 0) (.int .i64 0) (.int .i64 0) (.int .i64 0) (.int .i64 0) (.slice none 0 0) (.string ⟨#[]⟩));exact bodyPost_ret (GJ rfl rfl (Aa q)) rfl (IC (en:=2) (.inl ⟨Aa HF,rfl⟩) (Aa b))
    ·have hD:(19:Int)<=(s.size:Int):=by omega
     have ae:=Ab (show 19+dZ s<=s.size by omega);have HG:=Ab (fun wx=>Sq (s.extract 11 19) ((dK s:Nat):Int) wx (by rw[ByteArray.size_extract];omega));go_wp2_with fail;refine(Aa HZ _).mono ?_;rintro e w' ⟨rfl,hw⟩;obtain rfl:=hw.symm;clear hw P Q S V W;go_wp2_with fail;refine wp_region_any (by kernel_rfl) ?_;change wpAny _ _ _ _ _ _ _ (World.drew _);refine wpAny_take (i:=0) (v:=?_) rfl (by kernel_rfl) (by kernel_rfl) (by kernel_rfl) (fun _ _ _ h=>h) (Or.inl ⟨by rfl,?f0⟩) ?_
     case f0=>(intro w;go_simp;try with_reducible rfl)
     refine wpAny_take (i:=1) (v:=?_) rfl (by kernel_rfl) (by kernel_rfl) (by kernel_rfl) (fun _ _ _ h=>h) (Or.inl ⟨by rfl,?f1⟩) ?_
     case f1=>(intro w;go_simp;try with_reducible rfl)
     refine wpAny_take (i:=2) (v:=?_) rfl (by kernel_rfl) (by kernel_rfl) (by kernel_rfl) (fun _ _ _ h=>h) (Or.inl ⟨by rfl,?f2⟩) ?_
     case f2=>(intro w;go_simp;try with_reducible rfl)
     refine wpAny_take (i:=3) (v:=?_) rfl (by kernel_rfl) (by kernel_rfl) (by kernel_rfl) (fun _ _ _ h=>h) (Or.inl ⟨by rfl,?f3⟩) ?_
     case f3=>(intro w;go_simp;try with_reducible rfl)
     refine wpAny_ready (rs:=[4]) (by kernel_rfl) (by simp) ?_;refine AllReady.cons rfl (fun K u=>?_) AllReady.nil;go_simp;refine u _ _ ?_;clear u K;refine wpAny_ready (rs:=[5]) (by kernel_rfl) (by simp) ?_;refine AllReady.cons rfl (fun K u=>?_) AllReady.nil;go_simp;refine(Aa HG _).mono ?_;rintro e w3 ⟨v,xs,en,rfl,ho,x,af⟩;obtain⟨c,c1,rfl,ah⟩:=ho.row;have HA:Hid (∀k,c=some k->xs.length≠0->w2.heap.size<=k.block):=Ab (ho.apart);have am:=Ab (show w.heap.size<=w2.heap.size from(Aa B2).size);have aa:=Ab ah;have HP:=Ab x;have m:Below w2.heap.size w2 w3:=(Below.refl _ _).drew.trans af;have V2:=Ab ((Aa N).below m);have V4:=Ab ((Aa Z4).below m);have B3:=Ab (Ad (Aa B2) m);have C:=Ab (show g<w2.heap.size from(Aa Z4).lt);clear ho ah x af m N Z4 B2 HG HZ;refine u _ _ ?_;clear u K;refine wpAny_take (i:=6) (v:=?_) rfl (by kernel_rfl) (by kernel_rfl) (by kernel_rfl) (fun _ _ _ h=>h) (Or.inl ⟨by rfl,?f6⟩) ?_
     case f6=>(intro w;go_simp;try with_reducible rfl)
     refine wpAny_take (i:=7) (v:=?_) rfl (by kernel_rfl) (by kernel_rfl) (by kernel_rfl) (fun _ _ _ h=>h) (Or.inl ⟨by rfl,?f7⟩) ?_
     case f7=>(intro w;go_simp;try with_reducible rfl)
     refine wpAny_take (i:=8) (v:=?_) rfl (by kernel_rfl) (by kernel_rfl) (by kernel_rfl) (fun _ _ _ h=>h) (Or.inl ⟨by rfl,?f8⟩) ?_
     case f8=>(intro w;go_simp;try with_reducible rfl)
     refine wpAny_take (i:=9) (v:=?_) rfl (by kernel_rfl) (by kernel_rfl) (by kernel_rfl) (fun _ _ _ h=>h) (Or.inl ⟨by rfl,?f9⟩) ?_
     case f9=>(intro w;go_simp;try with_reducible rfl)
     refine wpAny_take (i:=10) (v:=?_) rfl (by kernel_rfl) (by kernel_rfl) (by kernel_rfl) (fun _ _ _ h=>h) (Or.inl ⟨by rfl,?f10⟩) ?_
     case f10=>(intro w;go_simp;try with_reducible rfl)
     obtain⟨m0,m1,m2,m3,m4,m5,m6⟩:=(Aa V4).at;have mf:=(Aa V4).frz;refine wpAny_ready (rs:=[11]) (by kernel_rfl) (by simp) ?_;refine AllReady.cons rfl (fun K u=>?_) AllReady.nil;go_simp;refine u _ _ ?_;clear u K;refine wpAny_done (by kernel_rfl) ?_ _;clear m0 m1 m2 m3 m4 m5 m6 mf;have U4:=Ab ((Aa V4).set5 (.slice c xs.length c1));have U2:=Ab ((Aa V2).other (a:=⟨g,5,none⟩) (Nat.ne_of_lt y) (.slice c xs.length c1));have B4:=Ab ((Aa B3).setCell (p:=⟨g,5,none⟩) (Nat.le_of_lt y) (.slice c xs.length c1));have ab:=Ab ((Aa aa).other (B:=g) (fun k z H=>by have:=Aa HA k z H;have:=Aa C;omega) 5 (.slice c xs.length c1));clear V4 V2 B3 aa;generalize w3.setCell ⟨g,5,none⟩ (.slice c xs.length c1)=w4 at*;go_wp2_with fail;refine(GS (s.extract 19 (19+dZ s)) _ (by rw[ByteArray.size_extract];omega)).mono ?_;rintro e w5 ⟨rfl,d⟩;have T4:=Ab ((Aa U4).below d);have T2:=Ab ((Aa U2).below d);have B5:=Ab (Ad (Aa B4) d);have an:=Ab ((Aa ab).below d);have E:=Ab (show(s.extract 19 (19+dZ s)).size=dZ s by have:=Aa ae;rw[ByteArray.size_extract];omega);have Y:=Ab (fun ai=>Vd (s:=s) (D:=19) (Aa J) ai (by have:=Aa HS;omega) (Aa HP));obtain⟨T,hT⟩:∃T,s.extract 19 (19+dZ s)=T:=⟨_,rfl⟩;have HT:=Ab hT;rw[hT]at E;rw[hT];clear hT;clear d U4 U2 B4 ab R k3;have S4:=Ab ((Aa T4).set6 (.string T));have S2:=Ab ((Aa T2).other (a:=⟨g,6,none⟩) (Nat.ne_of_lt y) (.string T));have B6:=Ab ((Aa B5).setCell (p:=⟨g,6,none⟩) (Nat.le_of_lt y) (.string T));have ac:=Ab ((Aa an).other (B:=g) (fun k z H=>by have:=Aa HA k z H;have:=Aa C;omega) 6 (.string T));obtain⟨m0,m1,m2,m3,m4,m5,m6⟩:=(Aa T4).at;have mf:=(Aa T4).frz;by_cases aq:19+((dZ s:Nat):Int)<(s.size:Int)
     ·have HB:=Ab (show¬DO s/\¬E6 s from⟨by rintro(h|h);exact Aa X h;have:=h.2;have:=Aa J;omega,fun h=>by have:=h.2.2.2;have:=Aa J;omega⟩)
      clear m0 m1 m2 m3 m4 m5;have f0:=mf 6;clear mf;obtain⟨n0,n1,n2,n3,n4,n5,n6⟩:=(Aa S2).at;have nf:=(Aa S2).frz;obtain⟨P,Q,R,k3,S,V,W⟩:=(Aa T2).at;have kf:=(Aa T2).frz;go_wp2;have q:=Ab ((Aa S2).sets (.int .i64 0) (.int .i64 0) (.int .i64 0) (.int .i64 0) (.int .i64 0) (.slice none 0 0) (.string ⟨#[]⟩));have b:=Ab (CD (Aa B6) (Nat.le_refl _) (.int .i64 0) (.int .i64 0) (.int .i64 0) (.int .i64 0) (.int .i64 0) (.slice none 0 0) (.string ⟨#[]⟩));exact bodyPost_ret (GJ rfl rfl (Aa q)) rfl (IC (en:=3) (.inr ⟨(Aa HB).1,(Aa HB).2,rfl⟩) (Aa b))
     ·have A:=Ab (show s.size=19+dZ s by have:=Aa ae;omega)
      have Z:=Ab (show¬DO s from by rintro(h|h);exact Aa X h;have:=h.2;have:=Aa J;omega);obtain⟨n0,n1,n2,n3,n4,n5,n6⟩:=(Aa S4).at;obtain⟨ck,ag⟩:=Ns (Ci (dO s) (dL s) (dK s) (dZ s) (dH s) xs T.size);have HC:=Ab ag;clear ag;go_wp2_with fail;refine(EV _ _ _ _ _ c xs.length c1 xs T _ (Aa ac) ck (Aa HC)).mono ?_;rintro e w7 ⟨rfl,j⟩;have R4:=Ab ((Aa S4).below j);have L:=Ab ((Aa S2).below j);have B7:=Ab (Ad (Aa B6) j);have ao:=Ab ((Aa ac).below j);clear j n0 n1 n2 n3 n4 n5 n6 m0 m1 m2 m3 m4 m5 m6 mf;rcases(Aa HC)with⟨I,rfl⟩|⟨I,rfl⟩
      ·rw[Aa E]at I
       have l:=Ab I;clear I HC;obtain⟨n0,n1,n2,n3,n4,n5,n6⟩:=(Aa R4).at;obtain⟨P,Q,R,k3,S,V,W⟩:=(Aa L).at;have kf:=(Aa L).frz;go_wp2;have q:=Ab ((Aa L).sets (.int .i64 ((dO s:Nat):Int)) (.int .i64 ((dL s:Nat):Int)) (.int .i64 ((dK s:Nat):Int)) (.int .i64 ((dZ s:Nat):Int)) (.int .i64 ((dH s:Nat):Int)) (.slice c xs.length c1) (.string T));have b:=Ab (CD (Aa B7) (Nat.le_refl _) (.int .i64 ((dO s:Nat):Int)) (.int .i64 ((dL s:Nat):Int)) (.int .i64 ((dK s:Nat):Int)) (.int .i64 ((dZ s:Nat):Int)) (.int .i64 ((dH s:Nat):Int)) (.slice c xs.length c1) (.string T));have r:=Ab ((Aa ao).other7 (B:=w.heap.size) (fun k z H=>by have:=Aa HA k z H;have:=Aa C;omega) (.int .i64 ((dO s:Nat):Int)) (.int .i64 ((dL s:Nat):Int)) (.int .i64 ((dK s:Nat):Int)) (.int .i64 ((dZ s:Nat):Int)) (.int .i64 ((dH s:Nat):Int)) (.slice c xs.length c1) (.string T));have o:=Aa Y (Aa A);have hX:=o.2 (Aa l);exact bodyPost_ret (GJ rfl rfl (Aa q)) rfl ⟨_,_,_,_,_,c,xs.length,c1,xs,T,0,rfl,Aa r,(fun k z H=>Nat.le_trans (Aa am) (Aa HA k z H)),.inr (.inr ⟨Aa Z,o.1.1 (Aa l),rfl,rfl,rfl,rfl,rfl,rfl,hX,by rw[<-Aa HT,Aa J,Aa A]⟩),Aa b⟩
      ·rw[Aa E]at I
       have l:=Ab I;clear I HC;obtain⟨P,Q,R,k3,S,V,W⟩:=(Aa L).at;have kf:=(Aa L).frz;go_wp2;have q:=Ab ((Aa L).sets (.int .i64 0) (.int .i64 0) (.int .i64 0) (.int .i64 0) (.int .i64 0) (.slice none 0 0) (.string ⟨#[]⟩));have b:=Ab (CD (Aa B7) (Nat.le_refl _) (.int .i64 0) (.int .i64 0) (.int .i64 0) (.int .i64 0) (.int .i64 0) (.slice none 0 0) (.string ⟨#[]⟩));have o:=Aa Y (Aa A);exact bodyPost_ret (GJ rfl rfl (Aa q)) rfl (IC (en:=3) (.inr ⟨Aa Z,fun h=>Aa l (o.1.2 h),rfl⟩) (Aa b))
   ·rw[hN]at HZ
    have J:=Ab (show dN s=27 from by unfold dN;rw[hN]);have HS:=Ab hN;clear hN;by_cases ai:(s.size:Int)<27+((dZ s:Nat):Int)
    ·have HF:=Ab (show DO s from .inr ⟨(Aa H1).1 rfl,by have:=Aa J;omega⟩)
     go_wp2_with fail;refine(Aa HZ _).mono ?_;rintro e w' ⟨rfl,hw⟩;obtain rfl:=hw.symm;clear hw P Q R S V W;obtain⟨P,Q,R,k3,S,V,W⟩:=(Aa N).at;have f:=(Aa N).frz;go_wp2;have q:=Ab ((Aa N).sets (.int .i64 0) (.int .i64 0) (.int .i64 0) (.int .i64 0) (.int .i64 0) (.slice none 0 0) (.string ⟨#[]⟩));have b:=Ab (CD (Aa B2) (Nat.le_refl _) (.int .i64 0) (.int .i64 0) (.int .i64 0) (.int .i64 0) (.int .i64 0) (.slice none 0 0) (.string ⟨#[]⟩));exact bodyPost_ret (GJ rfl rfl (Aa q)) rfl (IC (en:=2) (.inl ⟨Aa HF,rfl⟩) (Aa b))
    ·have hD:(27:Int)<=(s.size:Int):=by omega
     have ae:=Ab (show 27+dZ s<=s.size by omega);have HG:=Ab (fun wx=>Sq (s.extract 11 27) ((dK s:Nat):Int) wx (by rw[ByteArray.size_extract];omega));go_wp2_with fail;refine(Aa HZ _).mono ?_;rintro e w' ⟨rfl,hw⟩;obtain rfl:=hw.symm;clear hw P Q S V W;go_wp2_with fail;refine wp_region_any (by kernel_rfl) ?_;change wpAny _ _ _ _ _ _ _ (World.drew _);refine wpAny_take (i:=0) (v:=?_) rfl (by kernel_rfl) (by kernel_rfl) (by kernel_rfl) (fun _ _ _ h=>h) (Or.inl ⟨by rfl,?f0⟩) ?_
     case f0=>(intro w;go_simp;try with_reducible rfl)
     refine wpAny_take (i:=1) (v:=?_) rfl (by kernel_rfl) (by kernel_rfl) (by kernel_rfl) (fun _ _ _ h=>h) (Or.inl ⟨by rfl,?f1⟩) ?_
     case f1=>(intro w;go_simp;try with_reducible rfl)
     refine wpAny_take (i:=2) (v:=?_) rfl (by kernel_rfl) (by kernel_rfl) (by kernel_rfl) (fun _ _ _ h=>h) (Or.inl ⟨by rfl,?f2⟩) ?_
     case f2=>(intro w;go_simp;try with_reducible rfl)
     refine wpAny_take (i:=3) (v:=?_) rfl (by kernel_rfl) (by kernel_rfl) (by kernel_rfl) (fun _ _ _ h=>h) (Or.inl ⟨by rfl,?f3⟩) ?_
     case f3=>(intro w;go_simp;try with_reducible rfl)
     refine wpAny_ready (rs:=[4]) (by kernel_rfl) (by simp) ?_;refine AllReady.cons rfl (fun K u=>?_) AllReady.nil;go_simp;refine u _ _ ?_;clear u K;refine wpAny_ready (rs:=[5]) (by kernel_rfl) (by simp) ?_;refine AllReady.cons rfl (fun K u=>?_) AllReady.nil;go_simp;refine(Aa HG _).mono ?_;rintro e w3 ⟨v,xs,en,rfl,ho,x,af⟩;obtain⟨c,c1,rfl,ah⟩:=ho.row;have HA:Hid (∀k,c=some k->xs.length≠0->w2.heap.size<=k.block):=Ab (ho.apart);have am:=Ab (show w.heap.size<=w2.heap.size from(Aa B2).size);have aa:=Ab ah;have HP:=Ab x;have m:Below w2.heap.size w2 w3:=(Below.refl _ _).drew.trans af;have V2:=Ab ((Aa N).below m);have V4:=Ab ((Aa Z4).below m);have B3:=Ab (Ad (Aa B2) m);have C:=Ab (show g<w2.heap.size from(Aa Z4).lt);clear ho ah x af m N Z4 B2 HG HZ;refine u _ _ ?_;clear u K;refine wpAny_take (i:=6) (v:=?_) rfl (by kernel_rfl) (by kernel_rfl) (by kernel_rfl) (fun _ _ _ h=>h) (Or.inl ⟨by rfl,?f6⟩) ?_
     case f6=>(intro w;go_simp;try with_reducible rfl)
     refine wpAny_take (i:=7) (v:=?_) rfl (by kernel_rfl) (by kernel_rfl) (by kernel_rfl) (fun _ _ _ h=>h) (Or.inl ⟨by rfl,?f7⟩) ?_
     case f7=>(intro w;go_simp;try with_reducible rfl)
     refine wpAny_take (i:=8) (v:=?_) rfl (by kernel_rfl) (by kernel_rfl) (by kernel_rfl) (fun _ _ _ h=>h) (Or.inl ⟨by rfl,?f8⟩) ?_
     case f8=>(intro w;go_simp;try with_reducible rfl)
     refine wpAny_take (i:=9) (v:=?_) rfl (by kernel_rfl) (by kernel_rfl) (by kernel_rfl) (fun _ _ _ h=>h) (Or.inl ⟨by rfl,?f9⟩) ?_
     case f9=>(intro w;go_simp;try with_reducible rfl)
     refine wpAny_take (i:=10) (v:=?_) rfl (by kernel_rfl) (by kernel_rfl) (by kernel_rfl) (fun _ _ _ h=>h) (Or.inl ⟨by rfl,?f10⟩) ?_
     case f10=>(intro w;go_simp;try with_reducible rfl)
     obtain⟨m0,m1,m2,m3,m4,m5,m6⟩:=(Aa V4).at;have mf:=(Aa V4).frz;refine wpAny_ready (rs:=[11]) (by kernel_rfl) (by simp) ?_;refine AllReady.cons rfl (fun K u=>?_) AllReady.nil;go_simp;refine u _ _ ?_;clear u K;refine wpAny_done (by kernel_rfl) ?_ _;clear m0 m1 m2 m3 m4 m5 m6 mf;have U4:=Ab ((Aa V4).set5 (.slice c xs.length c1));have U2:=Ab ((Aa V2).other (a:=⟨g,5,none⟩) (Nat.ne_of_lt y) (.slice c xs.length c1));have B4:=Ab ((Aa B3).setCell (p:=⟨g,5,none⟩) (Nat.le_of_lt y) (.slice c xs.length c1));have ab:=Ab ((Aa aa).other (B:=g) (fun k z H=>by have:=Aa HA k z H;have:=Aa C;omega) 5 (.slice c xs.length c1));clear V4 V2 B3 aa;generalize w3.setCell ⟨g,5,none⟩ (.slice c xs.length c1)=w4 at*;go_wp2_with fail;refine(GS (s.extract 27 (27+dZ s)) _ (by rw[ByteArray.size_extract];omega)).mono ?_;rintro e w5 ⟨rfl,d⟩;have T4:=Ab ((Aa U4).below d);have T2:=Ab ((Aa U2).below d);have B5:=Ab (Ad (Aa B4) d);have an:=Ab ((Aa ab).below d);have E:=Ab (show(s.extract 27 (27+dZ s)).size=dZ s by have:=Aa ae;rw[ByteArray.size_extract];omega);have Y:=Ab (fun ai=>Vd (s:=s) (D:=27) (Aa J) ai (by have:=Aa HS;omega) (Aa HP));obtain⟨T,hT⟩:∃T,s.extract 27 (27+dZ s)=T:=⟨_,rfl⟩;have HT:=Ab hT;rw[hT]at E;rw[hT];clear hT;clear d U4 U2 B4 ab R k3;have S4:=Ab ((Aa T4).set6 (.string T));have S2:=Ab ((Aa T2).other (a:=⟨g,6,none⟩) (Nat.ne_of_lt y) (.string T));have B6:=Ab ((Aa B5).setCell (p:=⟨g,6,none⟩) (Nat.le_of_lt y) (.string T));have ac:=Ab ((Aa an).other (B:=g) (fun k z H=>by have:=Aa HA k z H;have:=Aa C;omega) 6 (.string T));obtain⟨m0,m1,m2,m3,m4,m5,m6⟩:=(Aa T4).at;have mf:=(Aa T4).frz;by_cases aq:27+((dZ s:Nat):Int)<(s.size:Int)
     ·have HB:=Ab (show¬DO s/\¬E6 s from⟨by rintro(h|h);exact Aa X h;have:=h.2;have:=Aa J;omega,fun h=>by have:=h.2.2.2;have:=Aa J;omega⟩)
      clear m0 m1 m2 m3 m4 m5;have f0:=mf 6;clear mf;obtain⟨n0,n1,n2,n3,n4,n5,n6⟩:=(Aa S2).at;have nf:=(Aa S2).frz;obtain⟨P,Q,R,k3,S,V,W⟩:=(Aa T2).at;have kf:=(Aa T2).frz;go_wp2;have q:=Ab ((Aa S2).sets (.int .i64 0) (.int .i64 0) (.int .i64 0) (.int .i64 0) (.int .i64 0) (.slice none 0 0) (.string ⟨#[]⟩));have b:=Ab (CD (Aa B6) (Nat.le_refl _) (.int .i64 0) (.int .i64 0) (.int .i64 0) (.int .i64 0) (.int .i64 0) (.slice none 0 0) (.string ⟨#[]⟩));exact bodyPost_ret (GJ rfl rfl (Aa q)) rfl (IC (en:=3) (.inr ⟨(Aa HB).1,(Aa HB).2,rfl⟩) (Aa b))
     ·have A:=Ab (show s.size=27+dZ s by have:=Aa ae;omega)
      have Z:=Ab (show¬DO s from by rintro(h|h);exact Aa X h;have:=h.2;have:=Aa J;omega);obtain⟨n0,n1,n2,n3,n4,n5,n6⟩:=(Aa S4).at;obtain⟨ck,ag⟩:=Ns (Ci (dO s) (dL s) (dK s) (dZ s) (dH s) xs T.size);have HC:=Ab ag;clear ag;go_wp2_with fail;refine(EV _ _ _ _ _ c xs.length c1 xs T _ (Aa ac) ck (Aa HC)).mono ?_;rintro e w7 ⟨rfl,j⟩;have R4:=Ab ((Aa S4).below j);have L:=Ab ((Aa S2).below j);have B7:=Ab (Ad (Aa B6) j);have ao:=Ab ((Aa ac).below j);clear j n0 n1 n2 n3 n4 n5 n6 m0 m1 m2 m3 m4 m5 m6 mf;rcases(Aa HC)with⟨I,rfl⟩|⟨I,rfl⟩
      ·rw[Aa E]at I
       have l:=Ab I;clear I HC;obtain⟨n0,n1,n2,n3,n4,n5,n6⟩:=(Aa R4).at;obtain⟨P,Q,R,k3,S,V,W⟩:=(Aa L).at;have kf:=(Aa L).frz;go_wp2;have q:=Ab ((Aa L).sets (.int .i64 ((dO s:Nat):Int)) (.int .i64 ((dL s:Nat):Int)) (.int .i64 ((dK s:Nat):Int)) (.int .i64 ((dZ s:Nat):Int)) (.int .i64 ((dH s:Nat):Int)) (.slice c xs.length c1) (.string T));have b:=Ab (CD (Aa B7) (Nat.le_refl _) (.int .i64 ((dO s:Nat):Int)) (.int .i64 ((dL s:Nat):Int)) (.int .i64 ((dK s:Nat):Int)) (.int .i64 ((dZ s:Nat):Int)) (.int .i64 ((dH s:Nat):Int)) (.slice c xs.length c1) (.string T));have r:=Ab ((Aa ao).other7 (B:=w.heap.size) (fun k z H=>by have:=Aa HA k z H;have:=Aa C;omega) (.int .i64 ((dO s:Nat):Int)) (.int .i64 ((dL s:Nat):Int)) (.int .i64 ((dK s:Nat):Int)) (.int .i64 ((dZ s:Nat):Int)) (.int .i64 ((dH s:Nat):Int)) (.slice c xs.length c1) (.string T));have o:=Aa Y (Aa A);have hX:=o.2 (Aa l);exact bodyPost_ret (GJ rfl rfl (Aa q)) rfl ⟨_,_,_,_,_,c,xs.length,c1,xs,T,0,rfl,Aa r,(fun k z H=>Nat.le_trans (Aa am) (Aa HA k z H)),.inr (.inr ⟨Aa Z,o.1.1 (Aa l),rfl,rfl,rfl,rfl,rfl,rfl,hX,by rw[<-Aa HT,Aa J,Aa A]⟩),Aa b⟩
      ·rw[Aa E]at I
       have l:=Ab I;clear I HC;obtain⟨P,Q,R,k3,S,V,W⟩:=(Aa L).at;have kf:=(Aa L).frz;go_wp2;have q:=Ab ((Aa L).sets (.int .i64 0) (.int .i64 0) (.int .i64 0) (.int .i64 0) (.int .i64 0) (.slice none 0 0) (.string ⟨#[]⟩));have b:=Ab (CD (Aa B7) (Nat.le_refl _) (.int .i64 0) (.int .i64 0) (.int .i64 0) (.int .i64 0) (.int .i64 0) (.slice none 0 0) (.string ⟨#[]⟩));have o:=Aa Y (Aa A);exact bodyPost_ret (GJ rfl rfl (Aa q)) rfl (IC (en:=3) (.inr ⟨Aa Z,fun h=>Aa l (o.1.2 h),rfl⟩) (Aa b))
end Go.Proofs.YtfpmnekaockodaaGreatDoor
