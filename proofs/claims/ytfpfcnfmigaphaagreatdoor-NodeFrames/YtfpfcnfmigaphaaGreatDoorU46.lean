/-
  Laws that the proof stands on.
-/
import Derived.Test.YtfpfcnfmigaphaaGreatDoorU45
namespace Go.Proofs.YtfpfcnfmigaphaaGreatDoor
open Go.RowKit Go.Sort
set_option linter.unusedVariables false
set_option linter.unusedSimpArgs false
set_option maxRecDepth 4000
set_option maxHeartbeats 8000000
theorem Sh(E:Nat)(m:E=2\/E=4)(s:ByteArray)(w:World)(k:s.size<=1048576)(g:openE s=E):Calls Tryz.prog 22 #[.string s] w (H4 w s):=by
 have d:=fun wx=>TC s wx k;rw[g]at d;have l:=Ab (show Ay s 0 0 0 0 0 0 0 0 [] ⟨#[]⟩ E from VU (by omega) g.symm Hw);have i:=Ab d;have j:=Ab (EB w (.int .i64 0) (.int .i64 0) (.int .i64 0) (.int .i64 0) (.int .i64 0) (.int .i64 0) (.int .i64 0) (.int .i64 0) (.slice none 0 0) (.string ⟨#[]⟩));have h:=Ab (AN w (.cells #[.int .i64 0,.int .i64 0,.int .i64 0,.int .i64 0,.int .i64 0,.int .i64 0,.int .i64 0,.int .i64 0,.slice none 0 0,.string ⟨#[]⟩] 78));generalize openT s=T at*;clear k g d;rcases m with rfl|rfl
 all_goals
  go_enter Tryz.func22,Tryz.ntmps22;go_wp2_with fail;refine(Aa i _).mono ?_;rintro e w1 ⟨rfl,a⟩;have c:=Ab ((Aa j).below a);have B1:=Ab (Ad (Aa h) a);clear a j h i;obtain⟨⟨n,o,p⟩,r,u,v,x,y,z,A⟩:=(Aa c).at;have f:=(Aa c).frz;go_wp2;have q:=Ab ((Aa c).sets (.int .i64 0) (.int .i64 0) (.int .i64 0) (.int .i64 0) (.int .i64 0) (.int .i64 0) (.int .i64 0) (.int .i64 0) (.slice none 0 0) (.string ⟨#[]⟩));have b:=Ab (EY (Aa B1) (Nat.le_refl _) (.int .i64 0) (.int .i64 0) (.int .i64 0) (.int .i64 0) (.int .i64 0) (.int .i64 0) (.int .i64 0) (.int .i64 0) (.slice none 0 0) (.string ⟨#[]⟩));exact bodyPost_ret (Gy rfl rfl (Aa q)) rfl (Iy (Aa l) (Aa b))
theorem dR(s T:ByteArray)(w:World)(i:∀wx,Calls Tryz.prog 54 #[.string s] wx fun e w'=>e=.returned (.tuple #[.string T,.int .i64 ((0:Nat):Int)])/\Below wx.heap.size wx w')(l:T.size<6)(j:Ay s 0 0 0 0 0 0 0 0 [] ⟨#[]⟩ 2):
  Calls Tryz.prog 22 #[.string s] w (H4 w s):=by
 have g:=Ab i;have h:=Ab (EB w (.int .i64 0) (.int .i64 0) (.int .i64 0) (.int .i64 0) (.int .i64 0) (.int .i64 0) (.int .i64 0) (.int .i64 0) (.slice none 0 0) (.string ⟨#[]⟩));have d:=Ab (AN w (.cells #[.int .i64 0,.int .i64 0,.int .i64 0,.int .i64 0,.int .i64 0,.int .i64 0,.int .i64 0,.int .i64 0,.slice none 0 0,.string ⟨#[]⟩] 78));have m:(T.size:Int)<6:=by omega
 have k:=Ab j;clear l i j;go_enter Tryz.func22,Tryz.ntmps22;go_wp2_with fail;refine(Aa g _).mono ?_;rintro e w1 ⟨rfl,a⟩;have c:=Ab ((Aa h).below a);have B1:=Ab (Ad (Aa d) a);clear a h d g;obtain⟨⟨n,o,p⟩,r,u,v,x,y,z,A⟩:=(Aa c).at;have f:=(Aa c).frz;go_wp2;have q:=Ab ((Aa c).sets (.int .i64 0) (.int .i64 0) (.int .i64 0) (.int .i64 0) (.int .i64 0) (.int .i64 0) (.int .i64 0) (.int .i64 0) (.slice none 0 0) (.string ⟨#[]⟩));have b:=Ab (EY (Aa B1) (Nat.le_refl _) (.int .i64 0) (.int .i64 0) (.int .i64 0) (.int .i64 0) (.int .i64 0) (.int .i64 0) (.int .i64 0) (.int .i64 0) (.slice none 0 0) (.string ⟨#[]⟩));exact bodyPost_ret (Gy rfl rfl (Aa q)) rfl (Iy (en:=2) (Aa k) (Aa b))
theorem lI(s T:ByteArray)(c d n:Nat)(w:World)(hs:T.size<=1048576)(R:∀wx,Calls Tryz.prog 54 #[.string s] wx fun e w'=>e=.returned (.tuple #[.string T,.int .i64 ((0:Nat):Int)])/\Below wx.heap.size wx w')(h6:¬T.size<6)(j:hdK T=c)(l:hdF T=d)(u:hdI T=n)(G:DV T)(S:Ay s 0 0 0 0 0 0 0 0 [] ⟨#[]⟩ 3):
  Calls Tryz.prog 22 #[.string s] w (H4 w s):=by
 have N:=Ab R;have O:=Ab (EB w (.int .i64 0) (.int .i64 0) (.int .i64 0) (.int .i64 0) (.int .i64 0) (.int .i64 0) (.int .i64 0) (.int .i64 0) (.slice none 0 0) (.string ⟨#[]⟩));have H:=Ab (AN w (.cells #[.int .i64 0,.int .i64 0,.int .i64 0,.int .i64 0,.int .i64 0,.int .i64 0,.int .i64 0,.int .i64 0,.slice none 0 0,.string ⟨#[]⟩] 78));have aa:¬((T.size:Int)<6):=by omega
 have Z:(2:Int)<=(T.size:Int):=by omega
 have ab:(6:Int)<=(T.size:Int):=by omega
 have z0:0<T.size:=by omega
 have z1:1<T.size:=by omega
 have ac:(0:Int)<(T.size:Int):=by omega
 have ad:(1:Int)<(T.size:Int):=by omega
 have W:c<256:=by rw[<-j];exact(Bk T).get 0
 have X:d<256:=by rw[<-l];exact(Bk T).get 1
 have v0:IntKind.i64.wrap (c:Int)=(c:Int):=by rw[IntKind.wrap_i64];omega
 have v1:IntKind.i64.wrap (d:Int)=(d:Int):=by rw[IntKind.wrap_i64];omega
 have i0:T[0].toNat=c:=by rw[Eb T 0 z0];exact j
 have i1:T[1].toNat=d:=by rw[Eb T 1 z1];exact l
 have A:=GW (s:=T.extract 2 T.size) (k:=4) (.inr (.inr rfl)) (by rw[ByteArray.size_extract];omega);rw[Jp]at A;have B:=fun wx=>JX (T.extract 2 T.size) 4 wx;rw[A.1,A.2,show num (((tx T).drop 2).take (4:Int).toNat)=n from u]at B;have L:=Ab B;have C:=Ab S
 have x:=Ab (show 8<=(d:Int)\/(¬8<=(d:Int)/\(c:Int)≠1/\(c:Int)≠2)\/(¬8<=(d:Int)/\(c:Int)=1/\6<(T.size:Int)) by
  unfold DV at G;rw[j,l]at G;omega)
 clear G S;clear A B j l u h6 R hs;go_enter Tryz.func22,Tryz.ntmps22;go_wp2_with fail;refine(Aa N _).mono ?_;rintro e w1 ⟨rfl,m⟩;have D:=Ab ((Aa O).below m);have B1:=Ab (Ad (Aa H) m);have r:=(Aa D).lt;clear m O H N;go_wp2_with fail;refine wp_region_any (by kernel_rfl) ?_;change wpAny _ _ _ _ _ _ _ (World.drew _);refine wpAny_take (i:=0) (v:=?_) rfl (by kernel_rfl) (by kernel_rfl) (by kernel_rfl) (fun _ _ _ h=>h) (Or.inl ⟨by rfl,?f0⟩) ?_
 case f0=>(intro w;go_simp;try with_reducible rfl)
 refine wpAny_take (i:=1) (v:=?_) rfl (by kernel_rfl) (by kernel_rfl) (by kernel_rfl) (fun _ _ _ h=>h) (Or.inl ⟨by rfl,?f1⟩) ?_
 case f1=>(intro w;go_simp;try with_reducible rfl)
 refine wpAny_take (i:=2) (v:=?_) rfl (by kernel_rfl) (by kernel_rfl) (by kernel_rfl) (fun _ _ _ h=>h) (Or.inl ⟨by rfl,?f2⟩) ?_
 case f2=>(intro w;go_simp;try with_reducible rfl)
 refine wpAny_take (i:=3) (v:=?_) rfl (by kernel_rfl) (by kernel_rfl) (by kernel_rfl) (fun _ _ _ h=>h) (Or.inl ⟨by rfl,?f3⟩) ?_
 case f3=>(intro w;go_simp;try with_reducible rfl)
 refine wpAny_take (i:=4) (v:=?_) rfl (by kernel_rfl) (by kernel_rfl) (by kernel_rfl) (fun _ _ _ h=>h) (Or.inl ⟨by rfl,?f4⟩) ?_
 case f4=>(intro w;go_simp;try with_reducible rfl)
 refine wpAny_take (i:=5) (v:=?_) rfl (by kernel_rfl) (by kernel_rfl) (by kernel_rfl) (fun _ _ _ h=>h) (Or.inl ⟨by rfl,?f5⟩) ?_
 case f5=>(intro w;go_simp;try with_reducible rfl)
 refine wpAny_take (i:=6) (v:=?_) rfl (by kernel_rfl) (by kernel_rfl) (by kernel_rfl) (fun _ _ _ h=>h) (Or.inl ⟨by rfl,?f6⟩) ?_
 case f6=>(intro w;go_simp;try with_reducible rfl)
 refine wpAny_ready (rs:=[7]) (by kernel_rfl) (by simp) ?_;refine AllReady.cons rfl (fun K o=>?_) AllReady.nil;go_simp;refine o _ _ ?_;clear o K;refine wpAny_ready (rs:=[8]) (by kernel_rfl) (by simp) ?_;refine AllReady.cons rfl (fun K o=>?_) AllReady.nil;go_simp;refine o _ _ ?_;clear o K;refine wpAny_done (by kernel_rfl) ?_ _;clear i0 i1 v0 v1 W X;have P:=Ab ((Aa D).below (AN w1 (.cells #[.int .i64 (c:Int),.int .i64 (d:Int),.int .i64 0,.int .i64 0,.int .i64 0,.int .i64 0,.int .i64 0,.int .i64 0,.slice none 0 0,.string ⟨#[]⟩] 78)).drew);have I:=Ab (Ad (Aa B1) (AN w1 (.cells #[.int .i64 (c:Int),.int .i64 (d:Int),.int .i64 0,.int .i64 0,.int .i64 0,.int .i64 0,.int .i64 0,.int .i64 0,.slice none 0 0,.string ⟨#[]⟩] 78)).drew);have z:Hid (AK (w1.alloc (.cells #[.int .i64 (c:Int),.int .i64 (d:Int),.int .i64 0,.int .i64 0,.int .i64 0,.int .i64 0,.int .i64 0,.int .i64 0,.slice none 0 0,.string ⟨#[]⟩] 78)).drew w1.heap.size (.int .i64 (c:Int)) (.int .i64 (d:Int)) (.int .i64 0) (.int .i64 0) (.int .i64 0) (.int .i64 0) (.int .i64 0) (.int .i64 0) (.slice none 0 0) (.string ⟨#[]⟩)):=Ab (EB w1 (.int .i64 (c:Int)) (.int .i64 (d:Int)) (.int .i64 0) (.int .i64 0) (.int .i64 0) (.int .i64 0) (.int .i64 0) (.int .i64 0) (.slice none 0 0) (.string ⟨#[]⟩));clear D B1;generalize (w1.alloc (.cells #[.int .i64 (c:Int),.int .i64 (d:Int),.int .i64 0,.int .i64 0,.int .i64 0,.int .i64 0,.int .i64 0,.int .i64 0,.slice none 0 0,.string ⟨#[]⟩] 78)).drew=w3 at*;generalize w1.heap.size=g at*;go_wp2_with fail;refine(Aa L _).mono ?_;rintro e w' ⟨rfl,V⟩;obtain rfl:=V.symm;clear V;have m2:=(Aa z).at.1.2.2;have mf:=(Aa z).frz
 iterate 16 (first|go_values|go_skip|go_guarded|go_step|go_upon|go_back|go_simp)
 have E:=Ab ((Aa z).set2 (.int .i64 (n:Int)));have y:=Ab ((Aa P).other (a:=⟨g,2,none⟩) (Nat.ne_of_lt r) (.int .i64 (n:Int)));have J:=Ab ((Aa I).setCell (p:=⟨g,2,none⟩) (Nat.le_of_lt r) (.int .i64 (n:Int)));generalize w3.setCell ⟨g,2,none⟩ (.int .i64 (n:Int))=w4 at*;clear m2 mf P z I L;obtain⟨⟨k0,k1,k2⟩,k3,k4,k5,k6,k7,k8,k9⟩:=(Aa y).at;have f:=(Aa y).frz;have m0:=(Aa E).at.1.1;have m1:=(Aa E).at.1.2.1;clear E;have q:=Ab ((Aa y).sets (.int .i64 0) (.int .i64 0) (.int .i64 0) (.int .i64 0) (.int .i64 0) (.int .i64 0) (.int .i64 0) (.int .i64 0) (.slice none 0 0) (.string ⟨#[]⟩));have b:=Ab (EY (Aa J) (Nat.le_refl _) (.int .i64 0) (.int .i64 0) (.int .i64 0) (.int .i64 0) (.int .i64 0) (.int .i64 0) (.int .i64 0) (.int .i64 0) (.slice none 0 0) (.string ⟨#[]⟩));clear y J;generalize (c:Int)=kd at*;generalize (d:Int)=fr at*;rcases(Aa x)with h|⟨h,Q,Y⟩|⟨h,Q,Y⟩
 ·clear x
  go_wp2;exact bodyPost_ret (Gy rfl rfl (Aa q)) rfl (Iy (en:=3) (Aa C) (Aa b))
 ·clear x
  go_wp2;exact bodyPost_ret (Gy rfl rfl (Aa q)) rfl (Iy (en:=3) (Aa C) (Aa b))
 ·subst Q
  clear x;go_wp2;exact bodyPost_ret (Gy rfl rfl (Aa q)) rfl (Iy (en:=3) (Aa C) (Aa b))
theorem dQ(s T:ByteArray)(c d j:Nat)(w:World)(hs:T.size<=1048576)(O:∀wx,Calls Tryz.prog 54 #[.string s] wx fun e w'=>e=.returned (.tuple #[.string T,.int .i64 ((0:Nat):Int)])/\Below wx.heap.size wx w')(h6:¬T.size<6)(m:hdK T=c)(n:hdF T=d)(u:hdI T=j)(h8:¬8<=d)(hk:c=1)(hz:¬6<T.size)(P:Ay s (c:Int) (d:Int) (j:Int) 0 0 0 0 0 [] ⟨#[]⟩ 0):
  Calls Tryz.prog 22 #[.string s] w (H4 w s):=by
 have J:=Ab O;have L:=Ab (EB w (.int .i64 0) (.int .i64 0) (.int .i64 0) (.int .i64 0) (.int .i64 0) (.int .i64 0) (.int .i64 0) (.int .i64 0) (.slice none 0 0) (.string ⟨#[]⟩));have E:=Ab (AN w (.cells #[.int .i64 0,.int .i64 0,.int .i64 0,.int .i64 0,.int .i64 0,.int .i64 0,.int .i64 0,.int .i64 0,.slice none 0 0,.string ⟨#[]⟩] 78));have aa:¬((T.size:Int)<6):=by omega
 have Z:(2:Int)<=(T.size:Int):=by omega
 have ac:(6:Int)<=(T.size:Int):=by omega
 have z0:0<T.size:=by omega
 have z1:1<T.size:=by omega
 have ae:(0:Int)<(T.size:Int):=by omega
 have af:(1:Int)<(T.size:Int):=by omega
 have X:c<256:=by rw[<-m];exact(Bk T).get 0
 have Y:d<256:=by rw[<-n];exact(Bk T).get 1
 have v0:IntKind.i64.wrap (c:Int)=(c:Int):=by rw[IntKind.wrap_i64];omega
 have v1:IntKind.i64.wrap (d:Int)=(d:Int):=by rw[IntKind.wrap_i64];omega
 have i0:T[0].toNat=c:=by rw[Eb T 0 z0];exact m
 have i1:T[1].toNat=d:=by rw[Eb T 1 z1];exact n
 have y:=GW (s:=T.extract 2 T.size) (k:=4) (.inr (.inr rfl)) (by rw[ByteArray.size_extract];omega);rw[Jp]at y;have z:=fun wx=>JX (T.extract 2 T.size) 4 wx;rw[y.1,y.2,show num (((tx T).drop 2).take (4:Int).toNat)=j from u]at z;have H:=Ab z;have V:=Ab P;have I:=Ab (show¬8<=(d:Int)/\(c:Int)=1 by omega);have W:=Ab (show¬6<(T.size:Int) by omega);clear h8 hk hz P;clear y z m n u h6 O hs;go_enter Tryz.func22,Tryz.ntmps22;go_wp2_with fail;refine(Aa J _).mono ?_;rintro e w1 ⟨rfl,l⟩;have A:=Ab ((Aa L).below l);have B1:=Ab (Ad (Aa E) l);have r:=(Aa A).lt;clear l L E J;go_wp2_with fail;refine wp_region_any (by kernel_rfl) ?_;change wpAny _ _ _ _ _ _ _ (World.drew _);refine wpAny_take (i:=0) (v:=?_) rfl (by kernel_rfl) (by kernel_rfl) (by kernel_rfl) (fun _ _ _ h=>h) (Or.inl ⟨by rfl,?f0⟩) ?_
 case f0=>(intro w;go_simp;try with_reducible rfl)
 refine wpAny_take (i:=1) (v:=?_) rfl (by kernel_rfl) (by kernel_rfl) (by kernel_rfl) (fun _ _ _ h=>h) (Or.inl ⟨by rfl,?f1⟩) ?_
 case f1=>(intro w;go_simp;try with_reducible rfl)
 refine wpAny_take (i:=2) (v:=?_) rfl (by kernel_rfl) (by kernel_rfl) (by kernel_rfl) (fun _ _ _ h=>h) (Or.inl ⟨by rfl,?f2⟩) ?_
 case f2=>(intro w;go_simp;try with_reducible rfl)
 refine wpAny_take (i:=3) (v:=?_) rfl (by kernel_rfl) (by kernel_rfl) (by kernel_rfl) (fun _ _ _ h=>h) (Or.inl ⟨by rfl,?f3⟩) ?_
 case f3=>(intro w;go_simp;try with_reducible rfl)
 refine wpAny_take (i:=4) (v:=?_) rfl (by kernel_rfl) (by kernel_rfl) (by kernel_rfl) (fun _ _ _ h=>h) (Or.inl ⟨by rfl,?f4⟩) ?_
 case f4=>(intro w;go_simp;try with_reducible rfl)
 refine wpAny_take (i:=5) (v:=?_) rfl (by kernel_rfl) (by kernel_rfl) (by kernel_rfl) (fun _ _ _ h=>h) (Or.inl ⟨by rfl,?f5⟩) ?_
 case f5=>(intro w;go_simp;try with_reducible rfl)
 refine wpAny_take (i:=6) (v:=?_) rfl (by kernel_rfl) (by kernel_rfl) (by kernel_rfl) (fun _ _ _ h=>h) (Or.inl ⟨by rfl,?f6⟩) ?_
 case f6=>(intro w;go_simp;try with_reducible rfl)
 refine wpAny_ready (rs:=[7]) (by kernel_rfl) (by simp) ?_;refine AllReady.cons rfl (fun K o=>?_) AllReady.nil;go_simp;refine o _ _ ?_;clear o K;refine wpAny_ready (rs:=[8]) (by kernel_rfl) (by simp) ?_;refine AllReady.cons rfl (fun K o=>?_) AllReady.nil;go_simp;refine o _ _ ?_;clear o K;refine wpAny_done (by kernel_rfl) ?_ _;clear i0 i1 v0 v1 X Y;have N:=Ab ((Aa A).below (AN w1 (.cells #[.int .i64 (c:Int),.int .i64 (d:Int),.int .i64 0,.int .i64 0,.int .i64 0,.int .i64 0,.int .i64 0,.int .i64 0,.slice none 0 0,.string ⟨#[]⟩] 78)).drew);have G:=Ab (Ad (Aa B1) (AN w1 (.cells #[.int .i64 (c:Int),.int .i64 (d:Int),.int .i64 0,.int .i64 0,.int .i64 0,.int .i64 0,.int .i64 0,.int .i64 0,.slice none 0 0,.string ⟨#[]⟩] 78)).drew);have x:Hid (AK (w1.alloc (.cells #[.int .i64 (c:Int),.int .i64 (d:Int),.int .i64 0,.int .i64 0,.int .i64 0,.int .i64 0,.int .i64 0,.int .i64 0,.slice none 0 0,.string ⟨#[]⟩] 78)).drew w1.heap.size (.int .i64 (c:Int)) (.int .i64 (d:Int)) (.int .i64 0) (.int .i64 0) (.int .i64 0) (.int .i64 0) (.int .i64 0) (.int .i64 0) (.slice none 0 0) (.string ⟨#[]⟩)):=Ab (EB w1 (.int .i64 (c:Int)) (.int .i64 (d:Int)) (.int .i64 0) (.int .i64 0) (.int .i64 0) (.int .i64 0) (.int .i64 0) (.int .i64 0) (.slice none 0 0) (.string ⟨#[]⟩));clear A B1;generalize (w1.alloc (.cells #[.int .i64 (c:Int),.int .i64 (d:Int),.int .i64 0,.int .i64 0,.int .i64 0,.int .i64 0,.int .i64 0,.int .i64 0,.slice none 0 0,.string ⟨#[]⟩] 78)).drew=w3 at*;generalize w1.heap.size=g at*;go_wp2_with fail;refine(Aa H _).mono ?_;rintro e w' ⟨rfl,Q⟩;obtain rfl:=Q.symm;clear Q;have R:=(Aa x).at.1.2.2;have mf:=(Aa x).frz
 iterate 16 (first|go_values|go_skip|go_guarded|go_step|go_upon|go_back|go_simp)
 have C:=Ab ((Aa x).set2 (.int .i64 (j:Int)));have B:=Ab ((Aa N).other (a:=⟨g,2,none⟩) (Nat.ne_of_lt r) (.int .i64 (j:Int)));have S:=Ab ((Aa G).setCell (p:=⟨g,2,none⟩) (Nat.le_of_lt r) (.int .i64 (j:Int)));generalize w3.setCell ⟨g,2,none⟩ (.int .i64 (j:Int))=w4 at*;clear R mf N x G H;have m0:=(Aa C).at.1.1;have m1:=(Aa C).at.1.2.1;generalize (c:Int)=kd at*;generalize (d:Int)=fr at*;obtain⟨ab,D⟩:=Aa I;clear I;subst D;have ad:=Aa W
 iterate 60 (first|go_values|go_skip|go_guarded|go_step|go_upon|go_back|go_simp)
 go_step;obtain⟨⟨k0,k1,k2⟩,k3,k4,k5,k6,k7,k8,k9⟩:=(Aa B).at;have f:=(Aa B).frz;obtain⟨⟨-, -,R⟩,m3,m4,m5,m6,m7,m8,m9⟩:=(Aa C).at;go_wp2;have q:=Ab ((Aa B).sets (.int .i64 1) (.int .i64 fr) (.int .i64 (j:Int)) (.int .i64 0) (.int .i64 0) (.int .i64 0) (.int .i64 0) (.int .i64 0) (.slice none 0 0) (.string ⟨#[]⟩));have b:=Ab (EY (Aa S) (Nat.le_refl _) (.int .i64 1) (.int .i64 fr) (.int .i64 (j:Int)) (.int .i64 0) (.int .i64 0) (.int .i64 0) (.int .i64 0) (.int .i64 0) (.slice none 0 0) (.string ⟨#[]⟩));exact bodyPost_ret (Gy rfl rfl (Aa q)) rfl ⟨_,_,_,0,0,0,0,0,none,0,0,[],⟨#[]⟩,0,rfl,FQ _,Aa V,Aa b⟩
theorem fw(s T:ByteArray)(d j u:Nat)(w:World)(hs:T.size<=1048576)(hO:∀wx,Calls Tryz.prog 54 #[.string s] wx fun e w'=>e=.returned (.tuple #[.string T,.int .i64 ((0:Nat):Int)])/\Below wx.heap.size wx w')(h6:¬T.size<6)(D:hdK T=d)(E:hdF T=j)(S:hdI T=u)(h8:¬8<=j)(hk:d=2)
  (hF:∀(o l k z h:Int) (xs:List Nat) (t:ByteArray) (en:Nat),BP (C8 T) o l k z h xs t en->(en=0\/en=2\/en=3)/\(en≠0->Ay s 0 0 0 0 0 0 0 0 [] ⟨#[]⟩ en)/\(en=0->Ay s (d:Int) (j:Int) (u:Int) o l k z h xs t 0)):
  Calls Tryz.prog 22 #[.string s] w (H4 w s):=by
 have HO:=Ab hO;have X0:=Ab (EB w (.int .i64 0) (.int .i64 0) (.int .i64 0) (.int .i64 0) (.int .i64 0) (.int .i64 0) (.int .i64 0) (.int .i64 0) (.slice none 0 0) (.string ⟨#[]⟩));have B0:=Ab (AN w (.cells #[.int .i64 0,.int .i64 0,.int .i64 0,.int .i64 0,.int .i64 0,.int .i64 0,.int .i64 0,.int .i64 0,.slice none 0 0,.string ⟨#[]⟩] 78));have ad:¬((T.size:Int)<6):=by omega
 have ac:(2:Int)<=(T.size:Int):=by omega
 have af:(6:Int)<=(T.size:Int):=by omega
 have z0:0<T.size:=by omega
 have z1:1<T.size:=by omega
 have ag:(0:Int)<(T.size:Int):=by omega
 have ah:(1:Int)<(T.size:Int):=by omega
 have b0:d<256:=by rw[<-D];exact(Bk T).get 0
 have b1:j<256:=by rw[<-E];exact(Bk T).get 1
 have v0:IntKind.i64.wrap (d:Int)=(d:Int):=by rw[IntKind.wrap_i64];omega
 have v1:IntKind.i64.wrap (j:Int)=(j:Int):=by rw[IntKind.wrap_i64];omega
 have i0:T[0].toNat=d:=by rw[Eb T 0 z0];exact D
 have i1:T[1].toNat=j:=by rw[Eb T 1 z1];exact E
 have Z:=GW (s:=T.extract 2 T.size) (k:=4) (.inr (.inr rfl)) (by rw[ByteArray.size_extract];omega);rw[Jp]at Z;have G4:=fun wx=>JX (T.extract 2 T.size) 4 wx;rw[Z.1,Z.2,show num (((tx T).drop 2).take (4:Int).toNat)=u from S]at G4;have HG:=Ab G4;have HF:=Ab hF;have HK:=Ab (show¬8<=(j:Int)/\(d:Int)=2 by omega);have HR:=Ab (fun wx=>oZ (C8 T) wx (by unfold C8;rw[ByteArray.size_extract];omega));have ab:T.extract 6 T.size=C8 T:=rfl;clear h8 hk hF;generalize C8 T=R at*;clear Z G4 D E S h6 hO hs;go_enter Tryz.func22,Tryz.ntmps22;go_wp2_with fail;refine(Aa HO _).mono ?_;rintro e w1 ⟨rfl,C⟩;have X1:=Ab ((Aa X0).below C);have B1:=Ab (Ad (Aa B0) C);have A:=(Aa X1).lt;clear C X0 B0 HO;go_wp2_with fail;refine wp_region_any (by kernel_rfl) ?_;change wpAny _ _ _ _ _ _ _ (World.drew _);refine wpAny_take (i:=0) (v:=?_) rfl (by kernel_rfl) (by kernel_rfl) (by kernel_rfl) (fun _ _ _ h=>h) (Or.inl ⟨by rfl,?f0⟩) ?_
 case f0=>(intro w;go_simp;try with_reducible rfl)
 refine wpAny_take (i:=1) (v:=?_) rfl (by kernel_rfl) (by kernel_rfl) (by kernel_rfl) (fun _ _ _ h=>h) (Or.inl ⟨by rfl,?f1⟩) ?_
 case f1=>(intro w;go_simp;try with_reducible rfl)
 refine wpAny_take (i:=2) (v:=?_) rfl (by kernel_rfl) (by kernel_rfl) (by kernel_rfl) (fun _ _ _ h=>h) (Or.inl ⟨by rfl,?f2⟩) ?_
 case f2=>(intro w;go_simp;try with_reducible rfl)
 refine wpAny_take (i:=3) (v:=?_) rfl (by kernel_rfl) (by kernel_rfl) (by kernel_rfl) (fun _ _ _ h=>h) (Or.inl ⟨by rfl,?f3⟩) ?_
 case f3=>(intro w;go_simp;try with_reducible rfl)
 refine wpAny_take (i:=4) (v:=?_) rfl (by kernel_rfl) (by kernel_rfl) (by kernel_rfl) (fun _ _ _ h=>h) (Or.inl ⟨by rfl,?f4⟩) ?_
 case f4=>(intro w;go_simp;try with_reducible rfl)
 refine wpAny_take (i:=5) (v:=?_) rfl (by kernel_rfl) (by kernel_rfl) (by kernel_rfl) (fun _ _ _ h=>h) (Or.inl ⟨by rfl,?f5⟩) ?_
 case f5=>(intro w;go_simp;try with_reducible rfl)
 refine wpAny_take (i:=6) (v:=?_) rfl (by kernel_rfl) (by kernel_rfl) (by kernel_rfl) (fun _ _ _ h=>h) (Or.inl ⟨by rfl,?f6⟩) ?_
 case f6=>(intro w;go_simp;try with_reducible rfl)
 refine wpAny_ready (rs:=[7]) (by kernel_rfl) (by simp) ?_;refine AllReady.cons rfl (fun K P=>?_) AllReady.nil;go_simp;refine P _ _ ?_;clear P K;refine wpAny_ready (rs:=[8]) (by kernel_rfl) (by simp) ?_;refine AllReady.cons rfl (fun K P=>?_) AllReady.nil;go_simp;refine P _ _ ?_;clear P K;refine wpAny_done (by kernel_rfl) ?_ _;clear i0 i1 v0 v1 b0 b1;have X3:=Ab ((Aa X1).below (AN w1 (.cells #[.int .i64 (d:Int),.int .i64 (j:Int),.int .i64 0,.int .i64 0,.int .i64 0,.int .i64 0,.int .i64 0,.int .i64 0,.slice none 0 0,.string ⟨#[]⟩] 78)).drew);have B3:=Ab (Ad (Aa B1) (AN w1 (.cells #[.int .i64 (d:Int),.int .i64 (j:Int),.int .i64 0,.int .i64 0,.int .i64 0,.int .i64 0,.int .i64 0,.int .i64 0,.slice none 0 0,.string ⟨#[]⟩] 78)).drew);have W:Hid (AK (w1.alloc (.cells #[.int .i64 (d:Int),.int .i64 (j:Int),.int .i64 0,.int .i64 0,.int .i64 0,.int .i64 0,.int .i64 0,.int .i64 0,.slice none 0 0,.string ⟨#[]⟩] 78)).drew w1.heap.size (.int .i64 (d:Int)) (.int .i64 (j:Int)) (.int .i64 0) (.int .i64 0) (.int .i64 0) (.int .i64 0) (.int .i64 0) (.int .i64 0) (.slice none 0 0) (.string ⟨#[]⟩)):=Ab (EB w1 (.int .i64 (d:Int)) (.int .i64 (j:Int)) (.int .i64 0) (.int .i64 0) (.int .i64 0) (.int .i64 0) (.int .i64 0) (.int .i64 0) (.slice none 0 0) (.string ⟨#[]⟩));clear X1 B1;generalize (w1.alloc (.cells #[.int .i64 (d:Int),.int .i64 (j:Int),.int .i64 0,.int .i64 0,.int .i64 0,.int .i64 0,.int .i64 0,.int .i64 0,.slice none 0 0,.string ⟨#[]⟩] 78)).drew=w3 at*;generalize w1.heap.size=g at*;go_wp2_with fail;refine(Aa HG _).mono ?_;rintro e w' ⟨rfl,hw⟩;obtain rfl:=hw.symm;clear hw;have m2:=(Aa W).at.1.2.2;have mf:=(Aa W).frz
 iterate 16 (first|go_values|go_skip|go_guarded|go_step|go_upon|go_back|go_simp)
 have X:=Ab ((Aa W).set2 (.int .i64 (u:Int)));have X4:=Ab ((Aa X3).other (a:=⟨g,2,none⟩) (Nat.ne_of_lt A) (.int .i64 (u:Int)));have B4:=Ab ((Aa B3).setCell (p:=⟨g,2,none⟩) (Nat.le_of_lt A) (.int .i64 (u:Int)));generalize w3.setCell ⟨g,2,none⟩ (.int .i64 (u:Int))=w4 at*;clear m2 mf X3 W B3 HG;have m0:=(Aa X).at.1.1;have m1:=(Aa X).at.1.2.1;generalize (d:Int)=kd at*;generalize (j:Int)=fr at*;obtain⟨ae,aa⟩:=Aa HK;clear HK;subst aa;go_wp2_with fail;refine(Aa HR _).mono ?_;rintro e H ⟨o,l,k,z,h,a,n,c,xs,t,en,rfl,hr,Q,y⟩;have X5:=(Aa X4).below y;have Y5:=(Aa X).below y;have B5:=Ad (Aa B4) y;have m:=Ab (X5.below (AN H (.cells #[.int .i64 o,.int .i64 l,.int .i64 k,.int .i64 z,.int .i64 h,.slice a n c,.string t] 59)));have B:=Ab (Y5.below (AN H (.cells #[.int .i64 o,.int .i64 l,.int .i64 k,.int .i64 z,.int .i64 h,.slice a n c,.string t] 59)));have G:=Ab (Ad B5 (AN H (.cells #[.int .i64 o,.int .i64 l,.int .i64 k,.int .i64 z,.int .i64 h,.slice a n c,.string t] 59)));have L:=Ab (Fh hr (.cells #[.int .i64 o,.int .i64 l,.int .i64 k,.int .i64 z,.int .i64 h,.slice a n c,.string t] 59));have Y:=Ab (Cl H (.int .i64 o) (.int .i64 l) (.int .i64 k) (.int .i64 z) (.int .i64 h) (.slice a n c) (.string t));obtain⟨O,hN,hY⟩:=Aa HF _ _ _ _ _ _ _ _ Q;have x:=Ab O;have I:=Ab hN;have V:=Ab hY;clear y X5 Y5 B5 X4 X B4 HR hr Q HF m0 m1 O hN hY
 iterate 19 (first|go_values|go_skip|go_guarded|go_step|go_upon|go_back|go_simp)
 generalize H.alloc (.cells #[.int .i64 o,.int .i64 l,.int .i64 k,.int .i64 z,.int .i64 h,.slice a n c,.string t] 59)=w6 at*;generalize H.heap.size=g7 at*;rcases(Aa x)with rfl|rfl|rfl
 ·have J:=Ab (Aa V rfl)
  clear x I V;obtain⟨n0,n1,n2,n3,n4,n5,n6⟩:=(Aa Y).at;obtain⟨⟨m0,m1,m2⟩,m3,m4,m5,m6,m7,m8,m9⟩:=(Aa B).at;have mf:=(Aa B).frz
  iterate 29 (first|go_values|go_skip|go_guarded|go_step|go_upon|go_back|go_simp)
  clear n0 n1 n2 n3 n4 n5 n6 m0 m1 m2 m3 m4 m5 m6 m7 m8 m9 mf;have Y7:=Ab ((Aa B).setp (.int .i64 o) (.int .i64 l) (.int .i64 k) (.int .i64 z) (.int .i64 h) (.slice a n c) (.string t));have N:=Ab ((Aa m).otherp (Nat.ne_of_lt A) (.int .i64 o) (.int .i64 l) (.int .i64 k) (.int .i64 z) (.int .i64 h) (.slice a n c) (.string t));have B7:=Ab (WU (Aa G) (Nat.le_of_lt A) (.int .i64 o) (.int .i64 l) (.int .i64 k) (.int .i64 z) (.int .i64 h) (.slice a n c) (.string t));have R7:=Ab ((Aa L).otherP ((Aa B).apart (Aa L)) (.int .i64 o) (.int .i64 l) (.int .i64 k) (.int .i64 z) (.int .i64 h) (.slice a n c) (.string t));clear m B G L Y
  conv=>arg 2;change Hb w6 g (.int .i64 o) (.int .i64 l) (.int .i64 k) (.int .i64 z) (.int .i64 h) (.slice a n c) (.string t)
  generalize Hb w6 g (.int .i64 o) (.int .i64 l) (.int .i64 k) (.int .i64 z) (.int .i64 h) (.slice a n c) (.string t)=w7 at*;obtain⟨⟨k0,k1,k2⟩,k3,k4,k5,k6,k7,k8,k9⟩:=(Aa N).at;have f:=(Aa N).frz;obtain⟨⟨m0,m1,m2⟩,m3,m4,m5,m6,m7,m8,m9⟩:=(Aa Y7).at;have q:=Ab ((Aa N).sets (.int .i64 2) (.int .i64 fr) (.int .i64 (u:Int)) (.int .i64 o) (.int .i64 l) (.int .i64 k) (.int .i64 z) (.int .i64 h) (.slice a n c) (.string t));have b:=Ab (EY (Aa B7) (Nat.le_refl _) (.int .i64 2) (.int .i64 fr) (.int .i64 (u:Int)) (.int .i64 o) (.int .i64 l) (.int .i64 k) (.int .i64 z) (.int .i64 h) (.slice a n c) (.string t));have r:=Ab ((Aa R7).other10 ((Aa N).apart (Aa R7)) (.int .i64 2) (.int .i64 fr) (.int .i64 (u:Int)) (.int .i64 o) (.int .i64 l) (.int .i64 k) (.int .i64 z) (.int .i64 h) (.slice a n c) (.string t));clear N Y7 B7 R7;go_wp2;exact bodyPost_ret (Gy rfl rfl (Aa q)) rfl ⟨_,_,_,o,l,k,z,h,a,n,c,xs,t,0,rfl,Aa r,Aa J,Aa b⟩
 ·obtain⟨⟨k0,k1,k2⟩,k3,k4,k5,k6,k7,k8,k9⟩:=(Aa m).at
  have f:=(Aa m).frz;have J:=Ab (Aa I (by decide));have q:=Ab ((Aa m).sets (.int .i64 0) (.int .i64 0) (.int .i64 0) (.int .i64 0) (.int .i64 0) (.int .i64 0) (.int .i64 0) (.int .i64 0) (.slice none 0 0) (.string ⟨#[]⟩));have b:=Ab (EY (Aa G) (Nat.le_refl _) (.int .i64 0) (.int .i64 0) (.int .i64 0) (.int .i64 0) (.int .i64 0) (.int .i64 0) (.int .i64 0) (.int .i64 0) (.slice none 0 0) (.string ⟨#[]⟩));clear x I V m B G L Y;go_wp2;exact bodyPost_ret (Gy rfl rfl (Aa q)) rfl (Iy (en:=2) (Aa J) (Aa b))
 ·obtain⟨⟨k0,k1,k2⟩,k3,k4,k5,k6,k7,k8,k9⟩:=(Aa m).at
  have f:=(Aa m).frz;have J:=Ab (Aa I (by decide));have q:=Ab ((Aa m).sets (.int .i64 0) (.int .i64 0) (.int .i64 0) (.int .i64 0) (.int .i64 0) (.int .i64 0) (.int .i64 0) (.int .i64 0) (.slice none 0 0) (.string ⟨#[]⟩));have b:=Ab (EY (Aa G) (Nat.le_refl _) (.int .i64 0) (.int .i64 0) (.int .i64 0) (.int .i64 0) (.int .i64 0) (.int .i64 0) (.int .i64 0) (.int .i64 0) (.slice none 0 0) (.string ⟨#[]⟩));clear x I V m B G L Y;go_wp2;exact bodyPost_ret (Gy rfl rfl (Aa q)) rfl (Iy (en:=3) (Aa J) (Aa b))
theorem lH(s:ByteArray)(w:World)(j:s.size<=1048576):Calls Tryz.prog 22 #[.string s] w (H4 w s):=by
 rcases R9 s with a|a|a
 ·have e:=fun wx=>TC s wx j
  have i:=Vj s;obtain⟨T,c⟩:∃T,openT s=T:=⟨_,rfl⟩;rw[a,c]at e;rw[c]at i;by_cases b:T.size<6
  ·exact dR s T w e b (GI a c (TY b rfl Hw))
  ·by_cases d:DV T
   ·exact lI s T _ _ _ w (by omega) e b rfl rfl rfl d (GI a c (Mq b d rfl Hw))
   ·have g:¬8<=hdF T:=fun h=>d (.inl h)
    by_cases f:hdK T=1
    ·exact dQ s T _ _ _ w (by omega) e b rfl rfl rfl g f (fun h=>d (.inr (.inr ⟨f,h⟩))) (GI a c (TW b d f rfl ⟨rfl,rfl,rfl⟩ Ix))
    ·have n:hdK T=2:=by
      by_cases h:hdK T=2
      ·exact h
      ·exact absurd (.inr (.inl ⟨f,h⟩)) d
     refine fw s T _ _ _ w (by omega) e b rfl rfl rfl g n fun o l k z h xs t en hp=>?_;have m:Jz (hdK T:Int) (C8 T) o l k z h xs t en:=⟨fun h=>by omega,fun _=>hp,fun _ h=>by omega⟩;have:=VV b g m;exact⟨Wv m,fun h=>GI a c (this.1 h),fun h=>GI a c (this.2 h)⟩
 ·exact Sh 2 (.inl rfl) s w j a
 ·exact Sh 4 (.inr rfl) s w j a
def Ca.cells(f:Ca):List Value:=[.slice f.a f.n f.c,.string f.obj,.int .i64 f.size,.int .i64 f.spread,.int .i64 f.buffer,.int .i64 f.queue,.int .i64 f.cache,.float .f64 f.rate,.int .i64 f.timeout,.int .i64 f.target]
theorem bN(f:Ca)(id:Int)(a:Option Addr)(n c:Nat)(ds:List ER)(w:World)(hf:Dg w f)(ht:Bs w)(h:DH w a n ds)(hn:n<=9223372036854775807)(Q:∀i,(ds.getD i .dflt).s.size<=9223372036854775807/\(ds.getD i .dflt).dn<=9223372036854775807):
  Calls Tryz.prog 4 #[f.val,.int .i64 id,.slice a n c] w fun e w'=>e=.returned (.bool true)/\Below w.heap.size w w':=by
 have HA:=Ab (fun wx (hb:Below w.heap.size w wx)=>eD wx (ht.below hb));have HT:=Ab ht;have HF:=Ab hf;have HD:=Ab h;have ad:=Ab Q;have HX:=Ab (show BkA 25 (w.alloc (.cells #[.slice f.a f.n f.c,.string f.obj,.int .i64 f.size,.int .i64 f.spread,.int .i64 f.buffer,.int .i64 f.queue,.int .i64 f.cache,.float .f64 f.rate,.int .i64 f.timeout,.int .i64 f.target] 25)) w.heap.size f.cells from AV _ _ _);have R:=Ab (AB w (.cells #[.slice f.a f.n f.c,.string f.obj,.int .i64 f.size,.int .i64 f.spread,.int .i64 f.buffer,.int .i64 f.queue,.int .i64 f.cache,.float .f64 f.rate,.int .i64 f.timeout,.int .i64 f.target] 25));clear hf ht h Q;rw[show f.val=.agg #[.slice f.a f.n f.c,.string f.obj,.int .i64 f.size,.int .i64 f.spread,.int .i64 f.buffer,.int .i64 f.queue,.int .i64 f.cache,.float .f64 f.rate,.int .i64 f.timeout,.int .i64 f.target] from rfl];go_enter Tryz.func4,Tryz.ntmps4;go_wp2_with fail;refine(oW f _ ((Aa HF).below (Aa R))).mono ?_;rintro e w1 ⟨en,rfl,ao,V⟩;have af:=Ab ao;have G:=Ab (Ad (Aa R) V);have z:=Ab ((Aa HX).below V);clear ao V HX R;by_cases aq:en=0
 case neg=>
  have K:(en !=0)=true:=by simpa using aq
  go_wp2_with (first
   |(go_at_call 9;refine(Aa HA _ (Aa G)).mono ?_;rintro e w9 ⟨rfl,l⟩;have u:=Ab (Ad (Aa G) l);clear l)
   |fail)
  go_ret;exact⟨rfl,Aa u⟩
 subst aq;have I:=(Aa z).at 0 rfl;have x1:=(Aa z).at 1 rfl;have x2:=(Aa z).at 2 rfl;have x3:=(Aa z).at 3 rfl;have x4:=(Aa z).at 4 rfl;have x5:=(Aa z).at 5 rfl;have x6:=(Aa z).at 6 rfl;have x7:=(Aa z).at 7 rfl;have x8:=(Aa z).at 8 rfl;have x9:=(Aa z).at 9 rfl;go_wp2_with fail;refine(dw f _ (Aa HF).obj).mono ?_;clear I x1 x2 x3 x4 x5 x6 x7 x8 x9;rintro e w2 ⟨⟨rfl,h6⟩|⟨rfl,h6⟩,H⟩
 ·have o:=Ab (Ad (Aa G) H)
  clear H
  go_wp2_with (first
   |(go_at_call 9;refine(Aa HA _ (Aa o)).mono ?_;rintro e w9 ⟨rfl,l⟩;have u:=Ab (Ad (Aa o) l);clear l)
   |fail)
  go_ret;exact⟨rfl,Aa u⟩
 have o:=Ab (Ad (Aa G) H);have A:=Ab ((Aa z).below H);clear H z G;go_wp2_with fail;refine(jD a n c ds _ ((Aa HD).below (Aa o)) hn (Aa ad)).mono ?_;rintro e w3 ⟨⟨rfl,X⟩|⟨rfl,X⟩,O⟩
 case inr=>
  obtain rfl:=O.symm;clear O
  go_wp2_with (first
   |(go_at_call 9;refine(Aa HA _ (Aa o)).mono ?_;rintro e w9 ⟨rfl,l⟩;have u:=Ab (Ad (Aa o) l);clear l)
   |fail)
  go_ret;exact⟨rfl,Aa u⟩
 obtain rfl:=O.symm;clear O;have ai:=Ab X;clear X;by_cases au:id<0
 ·have hd:decide (id<0)=true:=by simpa using au
  go_wp2_with (first
   |(go_at_call 9;refine(Aa HA _ (Aa o)).mono ?_;rintro e w9 ⟨rfl,l⟩;have u:=Ab (Ad (Aa o) l);clear l)
   |fail)
  go_ret;exact⟨rfl,Aa u⟩
 have bv:decide (id<0)=false:=by simpa using au
 have I:=(Aa A).at 0 rfl;by_cases aw:(f.n:Int)<=id
 ·have hd:decide ((f.n:Int)<=id)=true:=by simpa using aw
  go_wp2_with (first
   |(go_at_call 9;refine(Aa HA _ (Aa o)).mono ?_;rintro e w9 ⟨rfl,l⟩;have u:=Ab (Ad (Aa o) l);clear l)
   |fail)
  go_ret;exact⟨rfl,Aa u⟩
 have bw:decide ((f.n:Int)<=id)=false:=by simpa using aw
 clear I;have I:=(Aa A).at 0 rfl;have x1:=(Aa A).at 1 rfl;have x2:=(Aa A).at 2 rfl;have x3:=(Aa A).at 3 rfl;have x4:=(Aa A).at 4 rfl;have x5:=(Aa A).at 5 rfl;have x6:=(Aa A).at 6 rfl;have x7:=(Aa A).at 7 rfl;have x8:=(Aa A).at 8 rfl;have x9:=(Aa A).at 9 rfl;go_wp2_with fail;obtain⟨i,rfl⟩:∃i:Nat,id=(i:Int):=⟨id.toNat,by omega⟩;have hi:i<f.n:=by omega
 have ae:=Ab ((Aa HF).below (Aa o));obtain⟨E,h8⟩:=XX (Aa ae) (Aa af) hi;have ak:=Ab ((Aa HT).below (Aa o));have ag:=Ab ((Aa HD).below (Aa o));refine(Oe f i _ E).mono ?_;rintro e w4 ⟨g,n0,rfl,az,a0,al⟩;have aj:=Ab (Yj E (by omega) az a0 al);have bj:(f.ds.getD i .dflt).tos.length=(f.ds.getD i .dflt).n:=(E.nds.2.1 i hi).1;have a9:=Ab (E.nds.2.1 i hi);have bg:=E.len;clear E az a0 al I x1 x2 x3 x4 x5 x6 x7 x8 x9 HF HD HT af h6;have bc:i<=7:=by omega
 have an:=fun wx (hb:Below w2.heap.size w2 wx)=>((Aa ae).below hb).node hi;have a4:=Ab an;clear an;generalize f.ds.getD i .dflt=dn at*;have bo:n<=60:=by have:=(Aa ai).1;rw[(Aa ag).1]at this;exact this
 go_wp2_with fail;go_loopw [8] (fun iv wr=> ∃(k:Nat) (nd:AD),k<=n/\iv=.int .i64 k/\Hid (CX w2 wr g nd i dn.kd dn.tos (k*2))) (fun iv _=>n-(intOf iv).toNat)
 case atStart=>exact⟨0,n0,Nat.zero_le _,rfl,aj⟩
 case round=>
  obtain⟨k,nd,hk,rfl,S⟩:=hrel;rename_i wr;clear aj;by_cases L:k<n
  case neg=>
   obtain rfl:k=n:=by omega
   have ab:=Ab (Ad (Aa o) (Aa S).low)
   go_wp2_with (first
    |(go_at_call 9;refine(Aa HA _ (Aa ab)).mono ?_;rintro e w9 ⟨rfl,l⟩;have u:=Ab (Ad (Aa ab) l);clear l)
    |fail)
   go_ret;exact⟨rfl,Aa u⟩
  have bm:(k:Int)<(n:Int):=by omega
  have hd:=(Aa ag).below (Aa S).low;obtain⟨b,off,rfl,hc⟩:=hd.at L;obtain⟨d0,d1,d2,d3,d4⟩:=hc k L;have HR:=Ab (hd.2.1 k L);obtain⟨bh,bi⟩:=(Aa ai).2 k;clear hc hd;generalize ds.getD k .dflt=d at*;have bf:d.kd=1\/d.kd=2\/d.kd=3\/(d.kd≠1/\d.kd≠2/\d.kd≠3):=by omega
  rcases bf with k1|k1|k1|⟨k1,k2,k3⟩
  all_goals first
   |(rw[k1]at d0;clear k1)
   |(have e1:(d.kd==1)=false:=beq_eq_false_iff_ne.2 k1;have e2:(d.kd==2)=false:=beq_eq_false_iff_ne.2 k2;have e3:(d.kd==3)=false:=beq_eq_false_iff_ne.2 k3;clear k1 k2 k3)
  all_goals go_wp2_with fail
  all_goals first
   |(go_region_with (first
     |(go_at_call 11;refine(nB ((Aa S).below (Below.refl _ _).drew) (Aa ak) d.s d.now (by omega) (by omega)).mono ?_;rintro e w5 ⟨en,a3,rfl,B⟩;have J:=Ab B;clear B)
     |(go_at_call 12;refine(Yi ((Aa S).below (Below.refl _ _).drew) (Aa ak) bc d.a d.dn d.dc d.xs d.now ((Aa HR).below (Below.refl _ _).drew) (by omega) (by omega)).mono ?_;rintro e w5 ⟨a3,rfl,B⟩;have J:=Ab B;clear B)))
   |(go_wp2_with (first
     |(go_at_call 13;refine(nC (Aa S) d.n).mono ?_;rintro e w5 ⟨a3,rfl,B⟩;have J:=Ab B;clear B)
     |fail))
   |skip
  all_goals (try go_wp2_with fail)
  all_goals first
   |(have T:=Ab (Aa J);clear J)
   |(have T:=Ab ((Aa S).more (Nat.le_succ _)))
  all_goals clear d0 d1 d2 d3 d4 S HR bh bi
  all_goals as_aux_lemma=>
   refine(nA (Aa T)).mono ?_;rintro e w7 ⟨v,fs,b1,rfl,Y,W,ax⟩;obtain⟨av,cv,rfl⟩:=Y.len;have a7:=Ab Y;have a5:=Ab W;have D:=Ab ax;have bz:=W.1;clear T Y W ax;go_wp2_with fail;go_loopw [10] (fun kv wi=> ∃q:Nat,q<=fs.length/\kv=.int .i64 (q:Nat)/\Hid (Below w7.heap.size w7 wi)) (fun kv _=>fs.length-(intOf kv).toNat)
   case atStart=>exact⟨0,Nat.zero_le _,rfl,Ab (Below.refl _ _)⟩
   case round=>
    obtain⟨q,hq,rfl,C⟩:=hrel;rename_i wi;by_cases Z:q<fs.length
    case neg=>
     have a6:=Ab (((Aa D).below (Aa C)).more (show k*2+1+1<=(k+1)*2 by omega));obtain rfl:q=fs.length:=by omega
     go_wp2;go_roundw
     case rel=>exact⟨k+1,_,L,by go_num,a6⟩
     case measure=>simp[intOf];omega
    case pos=>
     have bp:(q:Int)<(fs.length:Int):=by omega
     obtain⟨gv,bs,K,ap⟩:=((Aa a7).below (Aa C)).at (by omega);simp only[Value.slice.injEq,true_and]at K;obtain⟨rfl,rfl⟩:=K;obtain⟨m0,m1,m2⟩:=ap q Z;obtain⟨p0,p1,j0,b0,p2⟩:=(Aa a5).2 q Z;have ah:=Ab p1;have a8:=Ab p2;obtain⟨bn,on,ha,n1,n2⟩:=Aa a4 _ ((Aa D).low.trans ((Aa C).mono (Aa D).low.size));have a2:=(Aa a9).below ((Aa D).low.trans ((Aa C).mono (Aa D).low.size));obtain⟨bt,ot,a1,aa⟩:=a2.at (show 0<dn.n by omega);have I:=((Aa A).below ((Aa D).low.trans ((Aa C).mono (Aa D).low.size))).at 0 (show f.cells[0]? =some (.slice f.a f.n f.c) from rfl);rw[ha]at I;rw[a1]at n2;have bx:dn.n<=8:=bg;have br:dn.tos.length=dn.n:=bj;clear a2 ap p1 ha a1 p2;generalize fs.getD q .dflt=x at*;go_wp2_with fail;refine(lH x.s _ (Aa ah).size).mono ?_;rintro e w8 ⟨P,bu,bl,o',l',k',z',h',ra,rn,rc,ys,t,en,rfl, -,ar,am⟩;obtain⟨rfl,rfl,ay⟩:=(Aa ah).dec ar;have l:=Ad am (AB w8 (.cells #[.int .i64 P,.int .i64 (i:Int),.int .i64 bl,.int .i64 o',.int .i64 l',.int .i64 k',.int .i64 z',.int .i64 h',.slice ra rn rc,.string t] 78));have y0:=(l.cell (p:=⟨gv,q*3,none⟩) (World.block_lt_of_cell? _ _ m0)).trans m0;have y1:=(l.cell (p:=⟨gv,q*3+1,none⟩) (World.block_lt_of_cell? _ _ m1)).trans m1;have z1:=(l.cell (p:=⟨bn,on+i*2,none⟩) (World.block_lt_of_cell? _ _ n1)).trans n1;have z2:=(l.cell (p:=⟨bn,on+i*2+1,none⟩) (World.block_lt_of_cell? _ _ n2)).trans n2;have z0:=(l.cell (p:=⟨w.heap.size,0,none⟩) (World.block_lt_of_cell? _ _ I)).trans I;have ba:=Ab (fun(j:Nat) (hj:j<dn.n)=>(l.cell (p:=⟨bt,ot+j,none⟩) (World.block_lt_of_cell? _ _ (aa j hj))).trans (aa j hj));have u:=Ab (Ad (Aa C) l);rw[p0]at y0;clear m0 m1 m2 n1 n2 I aa ar am l C p0;have bd:((P==2)=true/\(dn.kd==3)=false)\/(P==2)=false:=by
      by_cases e:P=2
      ·exact .inl ⟨by rw[beq_iff_eq];exact e,beq_eq_false_iff_ne.2 (ay e)⟩
      ·exact .inr (beq_eq_false_iff_ne.2 e)
     clear ay;rcases bd with⟨e2,e3⟩|e2
     all_goals go_wp2_with fail
     all_goals as_aux_lemma=>
      go_loop [147,13] (fun m b=> ∃p:Nat,p<=dn.n/\m=.int .i64 (p:Nat)/\∃bb:Bool,b=.bool bb/\Hid ((∃j,j<p/\dn.tos.getD j 0=x.dst)->bb=true)) (fun m _=>dn.n-(intOf m).toNat)
      case atStart=>exact⟨0,Nat.zero_le _,rfl,false,rfl,Ab fun⟨j,h,_⟩=>by omega⟩
      case round=>
       obtain⟨r,hr,rfl,bb,rfl,ac⟩:=hrel;by_cases N:r<dn.n
       ·have bq:(r:Int)<(dn.n:Int):=by omega
        have zt:=Aa ba r N;cases bb with
        |true=>
         have o:=Ab (show(∃j,j<r+1/\dn.tos.getD j 0=x.dst)->true=true from fun _=>rfl);generalize dn.tos.getD r 0=y at*;go_wp2;go_round
         case rel=>exact⟨r+1,N,by go_num,true,rfl,o⟩
         case measure=>simp[intOf];omega
        |false=>
         by_cases K:dn.tos.getD r 0=x.dst
         ·rw[K]at zt
          have o:=Ab (show(∃j,j<r+1/\dn.tos.getD j 0=x.dst)->true=true from fun _=>rfl);clear K;go_wp2;go_round
          case rel=>exact⟨r+1,N,by go_num,true,rfl,o⟩
          case measure=>simp[intOf];omega
         ·have e4:(dn.tos.getD r 0==x.dst)=false:=beq_eq_false_iff_ne.2 K
          have o:=Ab (show(∃j,j<r+1/\dn.tos.getD j 0=x.dst)->false=true from fun⟨j,h1,h2⟩=>by
           by_cases e:j=r
           ·rw[e]at h2;exact absurd h2 K
           ·exact Aa ac ⟨j,by omega,h2⟩)
          clear K;generalize dn.tos.getD r 0=y at*;go_wp2;go_round
          case rel=>exact⟨r+1,N,by go_num,false,rfl,o⟩
          case measure=>simp[intOf];omega
       ·obtain rfl:bb=true:=Aa ac ⟨j0,by omega,(Aa a8).symm⟩
        go_wp2;go_roundw
        case rel=>exact⟨q+1,Z,by go_num,u⟩
        case measure=>simp[intOf];omega
end Go.Proofs.YtfpfcnfmigaphaaGreatDoor
