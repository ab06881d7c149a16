/-
  Laws that the proof stands on.
-/
import Derived.Test.YtfpfcnfmigaphaaGreatDoorU14
import Derived.Laws.StructEq
import Derived.Laws.Rows
namespace Go.Proofs.YtfpfcnfmigaphaaGreatDoor
open Go.RowKit Go.Sort
set_option linter.unusedVariables false
set_option linter.unusedSimpArgs false
set_option maxRecDepth 4000
set_option maxHeartbeats 8000000
def PkAt(w:World)(g:Nat)(v0 v1 v2 v3 v4 v5 v6:Value):Prop:=
 w.cell? ⟨g,0,none⟩=some v0/\w.cell? ⟨g,1,none⟩=some v1/\w.cell? ⟨g,2,none⟩=some v2/\w.cell? ⟨g,3,none⟩=some v3/\w.cell? ⟨g,4,none⟩=some v4/\w.cell? ⟨g,5,none⟩=some v5/\w.cell? ⟨g,6,none⟩=some v6
theorem Fo(w:World)(v0 v1 v2 v3 v4 v5 v6:Value):PkAt (w.alloc (.cells #[v0,v1,v2,v3,v4,v5,v6] 59)) w.heap.size v0 v1 v2 v3 v4 v5 v6:=by
 refine⟨?_,?_,?_,?_,?_,?_,?_⟩<;>simp
theorem PkAt.below{w w':World}{g:Nat}{v0 v1 v2 v3 v4 v5 v6:Value}(h:PkAt w g v0 v1 v2 v3 v4 v5 v6)(l:Below w.heap.size w w'):PkAt w' g v0 v1 v2 v3 v4 v5 v6:=by
 obtain⟨b,c,d,f,i,j,k⟩:=h;have e:∀o,w'.cell? ⟨g,o,none⟩=w.cell? ⟨g,o,none⟩:=fun o=>l.cell (show g<w.heap.size from World.block_lt_of_cell? w ⟨g,0,none⟩ b);exact⟨(e _).trans b,(e _).trans c,(e _).trans d,(e _).trans f,(e _).trans i,(e _).trans j,(e _).trans k⟩
theorem PkAt.alloc{w:World}{g:Nat}{v0 v1 v2 v3 v4 v5 v6:Value}(h:PkAt w g v0 v1 v2 v3 v4 v5 v6)(o:Obj):PkAt (w.alloc o) g v0 v1 v2 v3 v4 v5 v6:=h.below ((Below.refl _ _).alloc (Nat.le_refl _) _)
theorem AN(w:World)(o:Obj):Below w.heap.size w (w.alloc o):=(Below.refl _ _).alloc (Nat.le_refl _) _
theorem JT(n lo d:Int)(w:World)(b:Bool)(f:TB b (lo<=n/\n<=d)):
  Calls Tryz.prog 179 #[.int .i64 n,.int .i64 lo,.int .i64 d] w fun e w'=>e=.returned (.bool b)/\w'=w:=by
 have c:=Ab f;clear f;by_cases i:lo<=n
 ·by_cases j:n<=d
  ·go_enter Tryz.func179,Tryz.ntmps179
   go_wp2;go_ret;exact⟨BJ ((Aa c).yes ⟨i,j⟩).symm,rfl⟩
  ·go_enter Tryz.func179,Tryz.ntmps179
   go_wp2;go_ret;exact⟨BJ ((Aa c).no (fun h=>by omega)).symm,rfl⟩
 ·go_enter Tryz.func179,Tryz.ntmps179
  go_wp2;go_ret;exact⟨BJ ((Aa c).no (fun h=>by omega)).symm,rfl⟩
theorem RD(o l k z h:Int)(x y:Value)(w:World)(b:Bool)(s:TB b (Gm k z)):
  Calls Tryz.prog 176 #[.agg #[.int .i64 o,.int .i64 l,.int .i64 k,.int .i64 z,.int .i64 h,x,y]] w fun e w'=>e=.returned (.bool b)/\Below w.heap.size w w':=by
 have j:=Ab s;obtain⟨m,q⟩:=Eo (1<=k/\k<=128);obtain⟨p,r⟩:=Eo (1<=z/\z<=64);have f:=Ab q;have i:=Ab r;clear s q r;have d:=Ab (AN w (.cells #[.int .i64 o,.int .i64 l,.int .i64 k,.int .i64 z,.int .i64 h,x,y] 59));go_enter Tryz.func176,Tryz.ntmps176;go_wp2_with fail;refine(JT k 1 128 _ m (Aa f)).mono ?_;rintro e w' ⟨rfl,c⟩;obtain rfl:=c.symm;clear c;cases m
 ·go_wp2
  go_ret;exact⟨BJ ((Aa j).no (fun h=>by simpa using(Aa f).2 h.1)).symm,Aa d⟩
 ·go_wp2_with fail
  refine(JT z 1 64 _ p (Aa i)).mono ?_;rintro e w' ⟨rfl,c⟩;obtain rfl:=c.symm;clear c;cases p
  ·go_wp2
   go_ret;exact⟨BJ ((Aa j).no (fun h=>by simpa using(Aa i).2 h.2)).symm,Aa d⟩
  ·go_wp2
   go_ret;exact⟨BJ ((Aa j).yes ⟨(Aa f).1 rfl,(Aa i).1 rfl⟩).symm,Aa d⟩
theorem cO(o l k z h:Int)(x y:Value)(w:World)(b:Bool)(D:TB b (Jv o l k z h)):
  Calls Tryz.prog 127 #[.agg #[.int .i64 o,.int .i64 l,.int .i64 k,.int .i64 z,.int .i64 h,x,y]] w fun e w'=>e=.returned (.bool b)/\Below w.heap.size w w':=by
 have f:=Ab D;obtain⟨q,v⟩:=Eo (Gm k z);obtain⟨r,A⟩:=Eo (0<=o/\o<=4294967295);obtain⟨s,B⟩:=Eo (0<=l/\l<=k*z);obtain⟨u,C⟩:=Eo (0<=h/\h<=15);have i:=Ab v;have j:=Ab A;have m:=Ab B;have p:=Ab C;clear D v A B C;have E:=Ab (AN w (.cells #[.int .i64 o,.int .i64 l,.int .i64 k,.int .i64 z,.int .i64 h,x,y] 59));have H:=Ab (Fo w (.int .i64 o) (.int .i64 l) (.int .i64 k) (.int .i64 z) (.int .i64 h) x y);go_enter Tryz.func127,Tryz.ntmps127;go_wp2_with fail;refine(RD o l k z h x y _ q (Aa i)).mono ?_;rintro e w1 ⟨rfl,d⟩;obtain⟨J,K,L,N,O,P,Q⟩:=(Aa H).below d;have B1:=Ab (Ad (Aa E) d);clear d;cases q
 ·go_wp2
  go_ret;exact⟨BJ ((Aa f).no (fun h=>by simpa using(Aa i).2 h.1)).symm,Aa B1⟩
 ·have I:=MC ((Aa i).1 rfl)
  have G:=Ab (show wrap64 (k*z)=k*z by unfold wrap64;omega);clear I;go_wp2_with fail;refine(JT o 0 4294967295 _ r (Aa j)).mono ?_;rintro e w' ⟨rfl,c⟩;obtain rfl:=c.symm;clear c;cases r
  ·go_wp2
   go_ret;exact⟨BJ ((Aa f).no (fun h=>by simpa using(Aa j).2 h.2.1)).symm,Aa B1⟩
  ·go_wp2_with fail
   refine(JT l 0 (wrap64 (k*z)) _ s (by rw[Aa G];exact Aa m)).mono ?_;rintro e w' ⟨rfl,c⟩;obtain rfl:=c.symm;clear c;cases s
   ·go_wp2
    go_ret;exact⟨BJ ((Aa f).no (fun h=>by simpa using(Aa m).2 h.2.2.1)).symm,Aa B1⟩
   ·go_wp2_with fail
    refine(JT h 0 15 _ u (Aa p)).mono ?_;rintro e w' ⟨rfl,c⟩;obtain rfl:=c.symm;clear c;cases u
    ·go_wp2
     go_ret;exact⟨BJ ((Aa f).no (fun h=>by simpa using(Aa p).2 h.2.2.2)).symm,Aa B1⟩
    ·go_wp2
     go_ret;exact⟨BJ ((Aa f).yes ⟨(Aa i).1 rfl,(Aa j).1 rfl,(Aa m).1 rfl,(Aa p).1 rfl⟩).symm,Aa B1⟩
theorem ID{k:Int}{xs:List Nat}(h:BU k xs):xs.length<=2:=by
 have:=DL k;have:=h.2.1;omega
theorem kZ(o l k z h:Int)(a:Option Addr)(n c:Nat)(xs:List Nat)(s:ByteArray)(w:World)(A:RowAt w a n xs)(b:Bool)(G:TB b (Jx k z xs s.size)):
  Calls Tryz.prog 128 #[.agg #[.int .i64 o,.int .i64 l,.int .i64 k,.int .i64 z,.int .i64 h,.slice a n c,.string s]] w fun e w'=>e=.returned (.bool b)/\Below w.heap.size w w':=by
 have r:=Ab G;have f:=A.1;have E:=Ab (Fh A (.cells #[.int .i64 o,.int .i64 l,.int .i64 k,.int .i64 z,.int .i64 h,.slice a n c,.string s] 59));have I:=Ab (AN w (.cells #[.int .i64 o,.int .i64 l,.int .i64 k,.int .i64 z,.int .i64 h,.slice a n c,.string s] 59));have L:=Ab (Fo w (.int .i64 o) (.int .i64 l) (.int .i64 k) (.int .i64 z) (.int .i64 h) (.slice a n c) (.string s));have J:=Ab f;clear G A f;go_enter Tryz.func128,Tryz.ntmps128;go_wp2_with fail;refine(LM a n c xs k _ (Aa E)).mono ?_;rintro e w1 ⟨⟨N,rfl,q⟩,d⟩;obtain⟨P,Q,R,S,T,V,W⟩:=(Aa L).below d;have B1:=Ab (Ad (Aa I) d);have x:=Ab ((Aa E).below d);have D:=Ab q;clear d q;cases N
 ·go_wp2
  go_ret;exact⟨BJ ((Aa r).no (fun h=>by simpa using(Aa D).2 h.1)).symm,Aa B1⟩
 ·have B:=(Aa D).1 rfl
  have H:n<=1048576:=by have:=ID B;have:=Aa J;omega
  have u:=Ab (Gh a n c xs w1 (Aa x) H);have K:=Ab B;clear B H;rcases Nat.eq_zero_or_pos (cnt xs)with j|j
  ·rw[j]at u
   have y:=Ab j;clear j;go_wp2_with fail;refine(Aa u).mono ?_;rintro e w' ⟨rfl,i⟩;obtain rfl:=i.symm;clear i;go_wp2;go_ret;exact⟨BJ ((Aa r).no (fun h=>by have:=h.2.1;have:=Aa y;omega)).symm,Aa B1⟩
  ·have y:=Ab j
   have O:(0:Int)<((cnt xs:Nat):Int):=by omega
   generalize ((cnt xs:Nat):Int)=m at*;clear j;by_cases p:(s.size:Int)=z
   ·have C:((s.size:Int)==z)=true:=by rw[beq_iff_eq];exact p
    have v:=Ab p;clear p;go_wp2_with fail;refine(Aa u).mono ?_;rintro e w' ⟨rfl,i⟩;obtain rfl:=i.symm;clear i;go_wp2;go_ret;exact⟨BJ ((Aa r).yes ⟨Aa K,Aa y,Aa v⟩).symm,Aa B1⟩
   ·have C:((s.size:Int)==z)=false:=by rw[beq_eq_false_iff_ne];exact p
    have v:=Ab p;clear p;go_wp2_with fail;refine(Aa u).mono ?_;rintro e w' ⟨rfl,i⟩;obtain rfl:=i.symm;clear i;go_wp2;go_ret;exact⟨BJ ((Aa r).no (fun h=>Aa v h.2.2)).symm,Aa B1⟩
theorem EU(o l k z h:Int)(a:Option Addr)(n c:Nat)(xs:List Nat)(s:ByteArray)(w:World)(y:RowAt w a n xs)(en:Nat)(f:Ev en (BS o l k z h xs s.size)):
  Calls Tryz.prog 72 #[.agg #[.int .i64 o,.int .i64 l,.int .i64 k,.int .i64 z,.int .i64 h,.slice a n c,.string s]] w fun e w'=>e=.returned (.int .i64 ((en:Nat):Int))/\Below w.heap.size w w':=by
 have m:=Ab f;obtain⟨r,v⟩:=Eo (Jv o l k z h);obtain⟨u,x⟩:=Eo (Jx k z xs s.size);have i:=Ab v;have j:=Ab x;have B:=Ab (Fh y (.cells #[.int .i64 o,.int .i64 l,.int .i64 k,.int .i64 z,.int .i64 h,.slice a n c,.string s] 59));have A:=Ab (AN w (.cells #[.int .i64 o,.int .i64 l,.int .i64 k,.int .i64 z,.int .i64 h,.slice a n c,.string s] 59));have C:=Ab (Fo w (.int .i64 o) (.int .i64 l) (.int .i64 k) (.int .i64 z) (.int .i64 h) (.slice a n c) (.string s));clear f y v x;go_enter Tryz.func72,Tryz.ntmps72;go_wp2_with fail;refine(cO o l k z h _ _ _ r (Aa i)).mono ?_;rintro e w1 ⟨rfl,b⟩;obtain⟨D,E,G,H,I,J,K⟩:=(Aa C).below b;have p:=Ab ((Aa B).below b);have B1:=Ab (Ad (Aa A) b);clear b;cases r
 ·go_wp2
  go_ret;exact⟨Bu (by rw[(Aa m).no (fun h=>by simpa using(Aa i).2 h.1)];rfl),Aa B1⟩
 ·go_wp2_with fail
  refine(kZ o l k z h a n c xs s _ (Aa p) u (Aa j)).mono ?_;rintro e w2 ⟨rfl,d⟩;have q:=Ab (Ad (Aa B1) d);clear d;cases u
  ·go_wp2
   go_ret;exact⟨Bu (by rw[(Aa m).no (fun h=>by simpa using(Aa j).2 h.2)];rfl),Aa q⟩
  ·go_wp2
   go_ret;exact⟨Bu (by rw[(Aa m).yes ⟨(Aa i).1 rfl,(Aa j).1 rfl⟩];rfl),Aa q⟩
theorem Ry(k z:Int)(w:World)(b:Bool)(d:TB b (Gm k z)):
  Calls Tryz.prog 116 #[.int .i64 k,.int .i64 z] w fun e w'=>e=.returned (.bool b)/\w'=w:=by
 have c:=Ab d;clear d;by_cases f:1<=k
 ·by_cases i:k<=128
  ·by_cases j:1<=z
   ·by_cases l:z<=64
    ·go_enter Tryz.func116,Tryz.ntmps116
     go_wp2;go_ret;exact⟨BJ ((Aa c).yes ⟨⟨f,i⟩,j,l⟩).symm,rfl⟩
    ·go_enter Tryz.func116,Tryz.ntmps116
     go_wp2;go_ret;exact⟨BJ ((Aa c).no (fun h=>by have:=h.2.2;omega)).symm,rfl⟩
   ·go_enter Tryz.func116,Tryz.ntmps116
    go_wp2;go_ret;exact⟨BJ ((Aa c).no (fun h=>by have:=h.2.1;omega)).symm,rfl⟩
  ·go_enter Tryz.func116,Tryz.ntmps116
   go_wp2;go_ret;exact⟨BJ ((Aa c).no (fun h=>by have:=h.1.2;omega)).symm,rfl⟩
 ·go_enter Tryz.func116,Tryz.ntmps116
  go_wp2;go_ret;exact⟨BJ ((Aa c).no (fun h=>by have:=h.1.1;omega)).symm,rfl⟩
theorem Sf(o l k z h:Int)(a:Option Addr)(n c:Nat)(xs:List Nat)(s:ByteArray)(w:World)(B:RowAt w a n xs)(en:Nat)(q:Ev en (BS o l k z h xs s.size)):
  Calls Tryz.prog 118 #[.agg #[.int .i64 o,.int .i64 l,.int .i64 k,.int .i64 z,.int .i64 h,.slice a n c,.string s]] w fun e w'=>e=.returned (.int .i64 ((en:Nat):Int))/\Below w.heap.size w w':=by
 have f:=Ab q;obtain⟨I,J⟩:=Eo (Gm k z);have r:=Ab J;have L:=Ab B.1;have G:=Ab (Fh B (.cells #[.int .i64 o,.int .i64 l,.int .i64 k,.int .i64 z,.int .i64 h,.slice a n c,.string s] 59));have d:=Ab (AN w (.cells #[.int .i64 o,.int .i64 l,.int .i64 k,.int .i64 z,.int .i64 h,.slice a n c,.string s] 59));clear q B J;by_cases c1:0<=o
 case neg=>
  go_enter Tryz.func118,Tryz.ntmps118;go_wp2;go_ret;exact⟨Bu (by rw[(Aa f).no (fun h=>by have:=h.1.2.1.1;omega)];rfl),Aa d⟩
 by_cases c2:o<=4294967295
 case neg=>
  go_enter Tryz.func118,Tryz.ntmps118;go_wp2;go_ret;exact⟨Bu (by rw[(Aa f).no (fun h=>by have:=h.1.2.1.2;omega)];rfl),Aa d⟩
 go_enter Tryz.func118,Tryz.ntmps118;go_wp2_with fail;refine(Ry k z _ I (Aa r)).mono ?_;rintro e w' ⟨rfl,b⟩;obtain rfl:=b.symm;clear b;cases I
 ·go_wp2
  go_ret;exact⟨Bu (by rw[(Aa f).no (fun h=>by simpa using(Aa r).2 h.1.1)];rfl),Aa d⟩
 ·have H:=Ab (show wrap64 (k*z)=k*z by have S:=MC ((Aa r).1 rfl);unfold wrap64;omega)
  by_cases c4:0<=h
  case neg=>
   go_wp2;go_ret;exact⟨Bu (by rw[(Aa f).no (fun h=>by have:=h.1.2.2.2.1;omega)];rfl),Aa d⟩
  by_cases c5:h<=15
  case neg=>
   go_wp2;go_ret;exact⟨Bu (by rw[(Aa f).no (fun h=>by have:=h.1.2.2.2.2;omega)];rfl),Aa d⟩
  by_cases Q:l<0
  case pos=>
   go_wp2;go_ret;exact⟨Bu (by rw[(Aa f).no (fun h=>by have:=h.1.2.2.1.1;omega)];rfl),Aa d⟩
  by_cases R:wrap64 (k*z)<l
  case pos=>
   go_wp2;go_ret;exact⟨Bu (by rw[(Aa f).no (fun h=>by have:=h.1.2.2.1.2;have:=Aa H;omega)];rfl),Aa d⟩
  have x:=Ab (show 0<=l/\l<=k*z by have:=Aa H;omega);have v:=Ab (show Jv o l k z h from⟨(Aa r).1 rfl,⟨c1,c2⟩,Aa x,c4,c5⟩);go_wp2_with fail;refine(Rz a n c xs k _ (Aa G)).mono ?_;rintro e w1 ⟨⟨O,rfl,p⟩,b⟩;obtain rfl:=b.symm;clear b;have E:=Ab p;clear p;cases O
  ·go_wp2
   go_ret;exact⟨Bu (by rw[(Aa f).no (fun h=>by simpa using(Aa E).2 h.2.1)];rfl),Aa d⟩
  ·have C:=(Aa E).1 rfl
   have K:n<=1048576:=by have:=ID C;have:=Aa L;omega
   have u:=Ab (fm a n c xs _ (Aa G) K);have N:=Ab C;clear C K;rcases Nat.eq_zero_or_pos (cnt xs)with i|i
   ·rw[i]at u
    have A:=Ab i;clear i;go_wp2_with fail;refine(Aa u).mono ?_;rintro e w' ⟨rfl,b⟩;obtain rfl:=b.symm;clear b;go_wp2;go_ret;exact⟨Bu (by rw[(Aa f).no (fun h=>by have:=h.2.2.1;have:=Aa A;omega)];rfl),Aa d⟩
   ·have A:=Ab i
    have P:(((cnt xs:Nat):Int)==0)=false:=by rw[beq_eq_false_iff_ne];omega
    generalize ((cnt xs:Nat):Int)=m at*;clear i;by_cases j:(s.size:Int)=z
    ·have D:((s.size:Int) !=z)=false:=by rw[j];simp
     have y:=Ab j;clear j;go_wp2_with fail;refine(Aa u).mono ?_;rintro e w' ⟨rfl,b⟩;obtain rfl:=b.symm;clear b;go_wp2;go_ret;exact⟨Bu (by rw[(Aa f).yes ⟨Aa v,Aa N,Aa A,Aa y⟩];rfl),Aa d⟩
    ·have D:((s.size:Int) !=z)=true:=by rw[bne_iff_ne];exact j
     have y:=Ab j;clear j;go_wp2_with fail;refine(Aa u).mono ?_;rintro e w' ⟨rfl,b⟩;obtain rfl:=b.symm;clear b;go_wp2;go_ret;exact⟨Bu (by rw[(Aa f).no (fun h=>Aa y h.2.2.2)];rfl),Aa d⟩
variable {xs:List Nat}{g n:Nat}{a:Option Addr}{v0 v1 v2 v3 v4 v5 v6:Value}{w:World}
theorem mj(o l k z h q p m r i:Int)(s f:ByteArray)(b:Bool)(x:TB b ((o=q/\l=p/\k=m/\z=r/\h=i)/\s=f))(W:World):
  (binOp .eql 354 (.agg #[.int .i64 o,.int .i64 l,.int .i64 k,.int .i64 z,.int .i64 h,.string s]) (.agg #[.int .i64 q,.int .i64 p,.int .i64 m,.int .i64 r,.int .i64 i,.string f])).run Tryz.prog W=.ok (.bool b) W:=by
 obtain rfl:b=decide ((o=q/\l=p/\k=m/\z=r/\h=i)/\s=f):=by
  rw[eq_comm,Bool.eq_iff_iff,decide_eq_true_iff];exact x.symm
 clear x;rw[run_eql_struct,run_equalIn_struct (d:=9999) (ht:=by kernel_rfl) (hp:=by kernel_rfl)];simp only[Program.fieldsOf,Tryz.underlying354];by_cases c:o=q
 ·by_cases e:l=p
  ·by_cases j:k=m
   ·by_cases u:z=r
    ·by_cases v:h=i
     ·have y:=Jh s f
      by_cases A:s=f<;>simp[Op.eqFields,BL,go_sem,Tryz.underlying3,Tryz.underlying9,c,e,j,u,v,A,y]
     ·simp[Op.eqFields,BL,go_sem,Tryz.underlying3,c,e,j,u,v]
    ·simp[Op.eqFields,BL,go_sem,Tryz.underlying3,c,e,j,u]
   ·simp[Op.eqFields,BL,go_sem,Tryz.underlying3,c,e,j]
  ·simp[Op.eqFields,BL,go_sem,Tryz.underlying3,c,e]
 ·simp[Op.eqFields,BL,go_sem,Tryz.underlying3,c]
theorem VK(w:World)(o b:Obj):Below w.heap.size w ((w.alloc o).alloc b):=((Below.refl _ _).alloc (Nat.le_refl _) _).alloc (by simp) _
theorem Tt(o l k z h:Int)(x:Value)(s:ByteArray)(w:World):
  Calls Tryz.prog 264 #[.agg #[.int .i64 o,.int .i64 l,.int .i64 k,.int .i64 z,.int .i64 h,x,.string s]] w fun e w'=>e=.returned (.agg #[.int .i64 o,.int .i64 l,.int .i64 k,.int .i64 z,.int .i64 h,.string s])/\Below w.heap.size w w':=by
 go_enter Tryz.func264,Tryz.ntmps264;go_wp2;exact bodyPost_ret (v:=.agg #[.int .i64 o,.int .i64 l,.int .i64 k,.int .i64 z,.int .i64 h,.string s]) (by simp[results,Tryz.results264,go_sem]) rfl ⟨rfl,VK w _ _⟩
def KM(o l k z h:Int)(xs:List Nat)(s:ByteArray)(e d c i b:Int)(f:List Nat)(t:ByteArray):Prop:=((o=e/\l=d/\k=c/\z=i/\h=b)/\s=t)/\cnt (xorL xs f)=0
theorem ie{b:List Nat}(e:Ac xs)(f:Ac b):decide (firstI (xorL xs b)<0)=decide (cnt (xorL xs b)=0):=by
 have c:=Qz (xorL xs b);by_cases h:cnt (xorL xs b)=0
 ·rw[decide_eq_true h,decide_eq_true (c.2 (Ri _ (Lr e f) h))]
 ·rw[decide_eq_false h,decide_eq_false (fun d=>h (Q1 _ (c.1 d)))]
theorem Tx(o l k z h:Int)(a:Option Addr)(n c:Nat)(xs:List Nat)(s:ByteArray)(r q p u j:Int)(v:Option Addr)(m x:Nat)(Y:List Nat)(t:ByteArray)(w:World)(ht:Tab w)(hr:RowAt w a n xs)(C:RowAt w v m Y)(hn:n<=1048576)(hm:m<=1048576)(b:Bool)(B:TB b (KM o l k z h xs s r q p u j Y t)):
  Calls Tryz.prog 229 #[.agg #[.int .i64 o,.int .i64 l,.int .i64 k,.int .i64 z,.int .i64 h,.slice a n c,.string s],.agg #[.int .i64 r,.int .i64 q,.int .i64 p,.int .i64 u,.int .i64 j,.slice v m x,.string t]] w fun e w'=>e=.returned (.bool b)/\Below w.heap.size w w':=by
 have Z:=Ab B;obtain⟨b1,h1⟩:=Eo ((o=r/\l=q/\k=p/\z=u/\h=j)/\s=t);have H1:=Ab h1;have hq:=mj o l k z h r q p u j s t b1 h1;have hg:Tryz.prog.eqGuardType Tryz.prog.depth 354=false:=by kernel_rfl
 have x1:=(Fo w (.int .i64 o) (.int .i64 l) (.int .i64 k) (.int .i64 z) (.int .i64 h) (.slice a n c) (.string s)).alloc (.cells #[.int .i64 r,.int .i64 q,.int .i64 p,.int .i64 u,.int .i64 j,.slice v m x,.string t] 59);have x2:=Fo (w.alloc (.cells #[.int .i64 o,.int .i64 l,.int .i64 k,.int .i64 z,.int .i64 h,.slice a n c,.string s] 59)) (.int .i64 r) (.int .i64 q) (.int .i64 p) (.int .i64 u) (.int .i64 j) (.slice v m x) (.string t);rw[Bb]at x2;obtain⟨G,H,I,J,L,N,O⟩:=x1;obtain⟨P,Q,R,S,T,V,X⟩:=x2;have aa:=cell_regrown G;have ab:=cell_regrown H;have ac:=cell_regrown I;have ad:=cell_regrown J;have ae:=cell_regrown L;have af:=cell_regrown N;have ag:=cell_regrown O;have ah:=cell_regrown P;have ai:=cell_regrown Q;have aj:=cell_regrown R;have ak:=cell_regrown S;have al:=cell_regrown T;have am:=cell_regrown V;have an:=cell_regrown X;have c1:=Cr (W:=(w.alloc (.cells #[.int .i64 o,.int .i64 l,.int .i64 k,.int .i64 z,.int .i64 h,.slice a n c,.string s] 59)).alloc (.cells #[.int .i64 r,.int .i64 q,.int .i64 p,.int .i64 u,.int .i64 j,.slice v m x,.string t] 59)) (fun w' B=>Tt o l k z h (.slice a n c) s w');have c2:=Cr (W:=(w.alloc (.cells #[.int .i64 o,.int .i64 l,.int .i64 k,.int .i64 z,.int .i64 h,.slice a n c,.string s] 59)).alloc (.cells #[.int .i64 r,.int .i64 q,.int .i64 p,.int .i64 u,.int .i64 j,.slice v m x,.string t] 59)) (fun w' B=>Tt r q p u j (.slice v m x) t w');have c3:=Cr (W:=(w.alloc (.cells #[.int .i64 o,.int .i64 l,.int .i64 k,.int .i64 z,.int .i64 h,.slice a n c,.string s] 59)).alloc (.cells #[.int .i64 r,.int .i64 q,.int .i64 p,.int .i64 u,.int .i64 j,.slice v m x,.string t] 59)) (fun w' B=>oB a n c xs v m x Y w' (ht.below (Gn (Below.refl _ w) B)) (hr.below (Gn (Below.refl _ w) B)) (C.below (Gn (Below.refl _ w) B)) hn hm);rw[ie hr.2.1 C.2.1]at c3;clear B h1 ht hr C hn hm G H I J L N O P Q R S T V X;cases b1
 ·go_enter Tryz.func229,Tryz.ntmps229
  go_wp2_with fail;refine wp_region_quiet_below (by kernel_rfl) (by kernel_rfl) ?_
  repeat (with_reducible refine wpQuiet_step (fun K y=>?_);go_simp;first|(with_reducible refine y _ ?_;clear y K)|(apply Exists.intro;apply And.intro;(intro _;first|(go_at_call 264;first|with_reducible exact c1 _ _|with_reducible exact c2 _ _)|(go_at_call 265;exact c3 _ _));with_reducible refine y _ ?_;clear y K))
  refine wpQuiet_nil ?_;intro w3 d;obtain⟨⟨A,i⟩,d⟩:=d;have f:Below ((w.alloc (.cells #[.int .i64 o,.int .i64 l,.int .i64 k,.int .i64 z,.int .i64 h,.slice a n c,.string s] 59)).alloc (.cells #[.int .i64 r,.int .i64 q,.int .i64 p,.int .i64 u,.int .i64 j,.slice v m x,.string t] 59)).heap.size ((w.alloc (.cells #[.int .i64 o,.int .i64 l,.int .i64 k,.int .i64 z,.int .i64 h,.slice a n c,.string s] 59)).alloc (.cells #[.int .i64 r,.int .i64 q,.int .i64 p,.int .i64 u,.int .i64 j,.slice v m x,.string t] 59)) w3:=by rw[d];exact below_regrown _ A i
  have E:=Ab (Gn (Below.refl _ w) f);clear d f A i;go_wp2;go_ret;exact⟨BJ ((Aa Z).no (fun h=>by simpa using(Aa H1).2 h.1)).symm,Aa E⟩
 ·by_cases D:cnt (xorL xs Y)=0
  ·rw[decide_eq_true D]at c3
   have HZ:=Ab D;clear D;go_enter Tryz.func229,Tryz.ntmps229;go_wp2_with fail;refine wp_region_quiet_below (by kernel_rfl) (by kernel_rfl) ?_
   repeat (with_reducible refine wpQuiet_step (fun K y=>?_);go_simp;first|(with_reducible refine y _ ?_;clear y K)|(apply Exists.intro;apply And.intro;(intro _;first|(go_at_call 264;first|with_reducible exact c1 _ _|with_reducible exact c2 _ _)|(go_at_call 265;exact c3 _ _));with_reducible refine y _ ?_;clear y K))
   refine wpQuiet_nil ?_;intro w3 d;obtain⟨⟨A,i⟩,d⟩:=d;have f:Below ((w.alloc (.cells #[.int .i64 o,.int .i64 l,.int .i64 k,.int .i64 z,.int .i64 h,.slice a n c,.string s] 59)).alloc (.cells #[.int .i64 r,.int .i64 q,.int .i64 p,.int .i64 u,.int .i64 j,.slice v m x,.string t] 59)).heap.size ((w.alloc (.cells #[.int .i64 o,.int .i64 l,.int .i64 k,.int .i64 z,.int .i64 h,.slice a n c,.string s] 59)).alloc (.cells #[.int .i64 r,.int .i64 q,.int .i64 p,.int .i64 u,.int .i64 j,.slice v m x,.string t] 59)) w3:=by rw[d];exact below_regrown _ A i
   have E:=Ab (Gn (Below.refl _ w) f);clear d f A i;go_wp2;go_ret;exact⟨BJ ((Aa Z).yes ⟨(Aa H1).1 rfl,Aa HZ⟩).symm,Aa E⟩
  ·rw[decide_eq_false D]at c3
   have HZ:=Ab D;clear D;go_enter Tryz.func229,Tryz.ntmps229;go_wp2_with fail;refine wp_region_quiet_below (by kernel_rfl) (by kernel_rfl) ?_
   repeat (with_reducible refine wpQuiet_step (fun K y=>?_);go_simp;first|(with_reducible refine y _ ?_;clear y K)|(apply Exists.intro;apply And.intro;(intro _;first|(go_at_call 264;first|with_reducible exact c1 _ _|with_reducible exact c2 _ _)|(go_at_call 265;exact c3 _ _));with_reducible refine y _ ?_;clear y K))
   refine wpQuiet_nil ?_;intro w3 d;obtain⟨⟨A,i⟩,d⟩:=d;have f:Below ((w.alloc (.cells #[.int .i64 o,.int .i64 l,.int .i64 k,.int .i64 z,.int .i64 h,.slice a n c,.string s] 59)).alloc (.cells #[.int .i64 r,.int .i64 q,.int .i64 p,.int .i64 u,.int .i64 j,.slice v m x,.string t] 59)).heap.size ((w.alloc (.cells #[.int .i64 o,.int .i64 l,.int .i64 k,.int .i64 z,.int .i64 h,.slice a n c,.string s] 59)).alloc (.cells #[.int .i64 r,.int .i64 q,.int .i64 p,.int .i64 u,.int .i64 j,.slice v m x,.string t] 59)) w3:=by rw[d];exact below_regrown _ A i
   have E:=Ab (Gn (Below.refl _ w) f);clear d f A i;go_wp2;go_ret;exact⟨BJ ((Aa Z).no (fun h=>Aa HZ h.2)).symm,Aa E⟩
def AO(w:World)(g:Nat)(v0 v1 v2 v3 v4 v5 v6:Value):Prop:=w.heap[g]? =some (.cells #[v0,v1,v2,v3,v4,v5,v6] 59 (0,0))
theorem Cl(w:World)(v0 v1 v2 v3 v4 v5 v6:Value):AO (w.alloc (.cells #[v0,v1,v2,v3,v4,v5,v6] 59)) w.heap.size v0 v1 v2 v3 v4 v5 v6:=by
 show(w.heap.push _)[w.heap.size]? =_;simp
theorem AO.lt(h:AO w g v0 v1 v2 v3 v4 v5 v6):g<w.heap.size:=(Array.getElem?_eq_some_iff.1 h).1
theorem AO.below{w':World}(h:AO w g v0 v1 v2 v3 v4 v5 v6)(b:Below w.heap.size w w'):AO w' g v0 v1 v2 v3 v4 v5 v6:=(b.block g h.lt).trans h
theorem AO.at(h:AO w g v0 v1 v2 v3 v4 v5 v6):PkAt w g v0 v1 v2 v3 v4 v5 v6:=by
 unfold AO at h;refine⟨?_,?_,?_,?_,?_,?_,?_⟩<;>rw[cell_of_row w g _ _ _ _ h]<;>rfl
theorem AO.frz(h:AO w g v0 v1 v2 v3 v4 v5 v6)(i:Nat):w.frozen? ⟨g,i,none⟩=false:=by
 unfold AO at h;simp[World.frozen?,h]
theorem AO.other(h:AO w g v0 v1 v2 v3 v4 v5 v6){a:Addr}(b:g≠a.block)(u:Value):AO (w.setCell a u) g v0 v1 v2 v3 v4 v5 v6:=
 (Below.heap_setCell w a u g b).trans h
theorem AO.set0(h:AO w g v0 v1 v2 v3 v4 v5 v6)(u:Value):AO (w.setCell ⟨g,0,none⟩ u) g u v1 v2 v3 v4 v5 v6:=heap_setCell_same w g 0 _ _ u h
theorem AO.set1(h:AO w g v0 v1 v2 v3 v4 v5 v6)(u:Value):AO (w.setCell ⟨g,1,none⟩ u) g v0 u v2 v3 v4 v5 v6:=heap_setCell_same w g 1 _ _ u h
theorem AO.set2(h:AO w g v0 v1 v2 v3 v4 v5 v6)(u:Value):AO (w.setCell ⟨g,2,none⟩ u) g v0 v1 u v3 v4 v5 v6:=heap_setCell_same w g 2 _ _ u h
theorem AO.set3(h:AO w g v0 v1 v2 v3 v4 v5 v6)(u:Value):AO (w.setCell ⟨g,3,none⟩ u) g v0 v1 v2 u v4 v5 v6:=heap_setCell_same w g 3 _ _ u h
theorem AO.set4(h:AO w g v0 v1 v2 v3 v4 v5 v6)(u:Value):AO (w.setCell ⟨g,4,none⟩ u) g v0 v1 v2 v3 u v5 v6:=heap_setCell_same w g 4 _ _ u h
theorem AO.set5(h:AO w g v0 v1 v2 v3 v4 v5 v6)(u:Value):AO (w.setCell ⟨g,5,none⟩ u) g v0 v1 v2 v3 v4 u v6:=heap_setCell_same w g 5 _ _ u h
theorem AO.set6(h:AO w g v0 v1 v2 v3 v4 v5 v6)(u:Value):AO (w.setCell ⟨g,6,none⟩ u) g v0 v1 v2 v3 v4 v5 u:=heap_setCell_same w g 6 _ _ u h
def set7(w:World)(g:Nat)(u0 u1 u2 u3 u4 u5 u6:Value):World:=((((((w.setCell ⟨g,0,none⟩ u0).setCell ⟨g,1,none⟩ u1).setCell ⟨g,2,none⟩ u2).setCell ⟨g,3,none⟩ u3).setCell ⟨g,4,none⟩ u4).setCell ⟨g,5,none⟩ u5).setCell ⟨g,6,none⟩ u6
theorem AO.sets(h:AO w g v0 v1 v2 v3 v4 v5 v6)(u0 u1 u2 u3 u4 u5 u6:Value):AO (set7 w g u0 u1 u2 u3 u4 u5 u6) g u0 u1 u2 u3 u4 u5 u6:=
 ((((((h.set0 u0).set1 u1).set2 u2).set3 u3).set4 u4).set5 u5).set6 u6
theorem BZ{B:Nat}{a:World}(h:Below B a w){g:Nat}(b:B<=g)(u0 u1 u2 u3 u4 u5 u6:Value):Below B a (set7 w g u0 u1 u2 u3 u4 u5 u6):=
 ((((((h.setCell b u0).setCell b u1).setCell b u2).setCell b u3).setCell b u4).setCell b u5).setCell b u6
theorem Own.apart{B:Nat}{c:Nat}(h:Own w B (.slice a n c) xs):∀b,a=some b->n≠0->B<=b.block:=by
 intro b i l;obtain⟨j,k,e,m⟩:=h.row;simp only[Value.slice.injEq]at e;obtain⟨rfl,rfl,rfl⟩:=e;obtain⟨g,cap,d,f,_⟩:=h.at (by omega);simp only[Value.slice.injEq]at d;rw[i]at d;obtain rfl:=Option.some.inj d.1;exact f
theorem RowAt.other(h:RowAt w a n xs){B:Nat}(k:∀c,a=some c->n≠0->c.block≠B)(i:Nat)(u:Value):RowAt (w.setCell ⟨B,i,none⟩ u) a n xs:=by
 refine⟨h.1,h.2.1,?_⟩;rcases h.2.2 with f|⟨b,off,rfl,l⟩
 ·exact .inl f
 ·by_cases d:n=0
  ·exact .inl d
  ·exact .inr ⟨b,off,rfl,fun j m=>(World.cell?_setCell_other (h:=fun e=>k _ rfl d (congrArg Addr.block e).symm) ..).trans (l j m)⟩
theorem RowAt.other7(h:RowAt w a n xs){B:Nat}(b:∀c,a=some c->n≠0->c.block≠B)(u0 u1 u2 u3 u4 u5 u6:Value):RowAt (set7 w B u0 u1 u2 u3 u4 u5 u6) a n xs:=
 ((((((h.other b 0 u0).other b 1 u1).other b 2 u2).other b 3 u3).other b 4 u4).other b 5 u5).other b 6 u6
theorem KG(s:ByteArray)(i:Nat)(b:i<s.size):num (tx (s.extract i (i+1)))=(tx s).getD i 0:=by
 have:i<(tx s).length:=by rw[AQ];exact b
 rw[El,show i+1-i=1 by omega,List.drop_eq_getElem_cons this,List.take_succ_cons,List.take_zero,List.getD_eq_getElem?_getD,List.getElem?_eq_getElem this];simp[num]
theorem JS(s:ByteArray)(d:s.size=1\/s.size=4)(w:World):
  Calls Tryz.prog 203 #[.string s] w fun e w'=>e=.returned (.int .i64 ((num (tx s):Nat):Int))/\w'=w:=by
 have c:=fun wx=>Q6 s (s.size:Int) wx;have b:=GW (s:=s) (k:=(s.size:Int)) (by rcases d with h|h<;>rw[h]<;>simp[DX]) (Int.le_refl _);rw[Int.toNat_natCast,<-AQ,List.take_length]at b;rw[AQ]at b;rw[b.1,b.2]at c;have f:=Ab c;generalize num (tx s)=x at*;clear c b d;go_enter Tryz.func203,Tryz.ntmps203;go_wp2_with fail;refine(Aa f _).mono ?_;rintro e w' ⟨rfl,i⟩;obtain rfl:=i.symm;go_wp2;go_ret;exact⟨rfl,rfl⟩
theorem mV(s:ByteArray)(H:11<=s.size)(w:World):
  Calls Tryz.prog 175 #[.string s] w fun e w'=>e=.returned (.agg #[.int .i64 ((dO s:Nat):Int),.int .i64 ((dL s:Nat):Int),.int .i64 ((dK s:Nat):Int),.int .i64 ((dZ s:Nat):Int),.int .i64 ((dH s:Nat):Int),.slice none 0 0,.string ⟨#[]⟩])/\Below w.heap.size w w':=by
 have d:=fun wx=>JS (s.extract 0 4) (by rw[ByteArray.size_extract];omega) wx;have f:=fun wx=>JS (s.extract 4 8) (by rw[ByteArray.size_extract];omega) wx;have j:=fun wx=>JS (s.extract 8 9) (by rw[ByteArray.size_extract];omega) wx;have k:=fun wx=>JS (s.extract 9 10) (by rw[ByteArray.size_extract];omega) wx;have l:=fun wx=>JS (s.extract 10 11) (by rw[ByteArray.size_extract];omega) wx;rw[show num (tx (s.extract 0 4))=dO s from by rw[El];rfl]at d;rw[show num (tx (s.extract 4 8))=dL s from by rw[El];rfl]at f;rw[show num (tx (s.extract 8 9))=dK s from KG s 8 (by omega)]at j;rw[show num (tx (s.extract 9 10))=dZ s from KG s 9 (by omega)]at k;rw[show num (tx (s.extract 10 11))=dH s from KG s 10 (by omega)]at l;have p:=Ab d;have q:=Ab f;have r:=Ab j;have u:=Ab k;have x:=Ab l;generalize dO s=B at*;generalize dL s=C at*;generalize dK s=D at*;generalize dZ s=E at*;generalize dH s=G at*;have y:(4:Int)<=(s.size:Int):=by omega
 have z:(8:Int)<=(s.size:Int):=by omega
 have A:(9:Int)<=(s.size:Int):=by omega
 have m:(10:Int)<=(s.size:Int):=by omega
 have o:(11:Int)<=(s.size:Int):=by omega
 clear d f j k l;go_enter Tryz.func175,Tryz.ntmps175;go_wp2_with fail;refine wp_region_any (by kernel_rfl) ?_;change wpAny _ _ _ _ _ _ _ (World.drew _);refine wpAny_take (i:=0) (v:=?_) rfl (by kernel_rfl) (by kernel_rfl) (by kernel_rfl) (fun _ _ _ h=>h) (Or.inl ⟨by rfl,?f0⟩) ?_
 case f0=>(intro w;go_simp;try with_reducible rfl)
 refine wpAny_take (i:=1) (v:=?_) rfl (by kernel_rfl) (by kernel_rfl) (by kernel_rfl) (fun _ _ _ h=>h) (Or.inl ⟨by rfl,?f1⟩) ?_
 case f1=>(intro w;go_simp;try with_reducible rfl)
 refine wpAny_take (i:=3) (v:=?_) rfl (by kernel_rfl) (by kernel_rfl) (by kernel_rfl) (fun _ _ _ h=>h) (Or.inl ⟨by rfl,?f3⟩) ?_
 case f3=>(intro w;go_simp;try with_reducible rfl)
 refine wpAny_take (i:=4) (v:=?_) rfl (by kernel_rfl) (by kernel_rfl) (by kernel_rfl) (fun _ _ _ h=>h) (Or.inl ⟨by rfl,?f4⟩) ?_
 case f4=>(intro w;go_simp;try with_reducible rfl)
 refine wpAny_take (i:=6) (v:=?_) rfl (by kernel_rfl) (by kernel_rfl) (by kernel_rfl) (fun _ _ _ h=>h) (Or.inl ⟨by rfl,?f6⟩) ?_
 case f6=>(intro w;go_simp;try with_reducible rfl)
 refine wpAny_take (i:=7) (v:=?_) rfl (by kernel_rfl) (by kernel_rfl) (by kernel_rfl) (fun _ _ _ h=>h) (Or.inl ⟨by rfl,?f7⟩) ?_
 case f7=>(intro w;go_simp;try with_reducible rfl)
 refine wpAny_take (i:=9) (v:=?_) rfl (by kernel_rfl) (by kernel_rfl) (by kernel_rfl) (fun _ _ _ h=>h) (Or.inl ⟨by rfl,?f9⟩) ?_
 case f9=>(intro w;go_simp;try with_reducible rfl)
 refine wpAny_take (i:=10) (v:=?_) rfl (by kernel_rfl) (by kernel_rfl) (by kernel_rfl) (fun _ _ _ h=>h) (Or.inl ⟨by rfl,?f10⟩) ?_
 case f10=>(intro w;go_simp;try with_reducible rfl)
 refine wpAny_take (i:=12) (v:=?_) rfl (by kernel_rfl) (by kernel_rfl) (by kernel_rfl) (fun _ _ _ h=>h) (Or.inl ⟨by rfl,?f12⟩) ?_
 case f12=>(intro w;go_simp;try with_reducible rfl)
 refine wpAny_take (i:=13) (v:=?_) rfl (by kernel_rfl) (by kernel_rfl) (by kernel_rfl) (fun _ _ _ h=>h) (Or.inl ⟨by rfl,?f13⟩) ?_
 case f13=>(intro w;go_simp;try with_reducible rfl)
 refine wpAny_ready (rs:=[2]) (by kernel_rfl) (by simp) ?_;refine AllReady.cons rfl (fun K b=>?_) AllReady.nil;go_simp;refine(Aa p _).mono ?_;rintro e w' ⟨rfl,c⟩;obtain rfl:=c.symm;clear c;refine b _ _ ?_;clear b K;refine wpAny_ready (rs:=[5]) (by kernel_rfl) (by simp) ?_;refine AllReady.cons rfl (fun K b=>?_) AllReady.nil;go_simp;refine(Aa q _).mono ?_;rintro e w' ⟨rfl,c⟩;obtain rfl:=c.symm;clear c;refine b _ _ ?_;clear b K;refine wpAny_ready (rs:=[8]) (by kernel_rfl) (by simp) ?_;refine AllReady.cons rfl (fun K b=>?_) AllReady.nil;go_simp;refine(Aa r _).mono ?_;rintro e w' ⟨rfl,c⟩;obtain rfl:=c.symm;clear c;refine b _ _ ?_;clear b K;refine wpAny_ready (rs:=[11]) (by kernel_rfl) (by simp) ?_;refine AllReady.cons rfl (fun K b=>?_) AllReady.nil;go_simp;refine(Aa u _).mono ?_;rintro e w' ⟨rfl,c⟩;obtain rfl:=c.symm;clear c;refine b _ _ ?_;clear b K;refine wpAny_ready (rs:=[14]) (by kernel_rfl) (by simp) ?_;refine AllReady.cons rfl (fun K b=>?_) AllReady.nil;go_simp;refine(Aa x _).mono ?_;rintro e w' ⟨rfl,c⟩;obtain rfl:=c.symm;clear c;refine b _ _ ?_;clear b K;refine wpAny_take (i:=15) (v:=?_) rfl (by kernel_rfl) (by kernel_rfl) (by kernel_rfl) (fun _ _ _ h=>h) (Or.inl ⟨by rfl,?f15⟩) ?_
 case f15=>(intro w;go_simp;try with_reducible rfl)
 refine wpAny_ready (rs:=[16]) (by kernel_rfl) (by simp) ?_;refine AllReady.cons rfl (fun K b=>?_) AllReady.nil;go_simp;refine b _ _ ?_;clear b K;refine wpAny_done (by kernel_rfl) ?_ _;go_wp2;exact bodyPost_ret (v:=.agg #[.int .i64 (B:Int),.int .i64 (C:Int),.int .i64 (D:Int),.int .i64 (E:Int),.int .i64 (G:Int),.slice none 0 0,.string ⟨#[]⟩]) (by simp[results,Tryz.results175,go_sem]) rfl ⟨rfl,(AN w _).drew⟩
end Go.Proofs.YtfpfcnfmigaphaaGreatDoor
