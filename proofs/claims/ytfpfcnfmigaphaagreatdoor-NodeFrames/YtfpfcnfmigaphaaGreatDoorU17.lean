/-
  Laws that the proof stands on.
-/
import Derived.Test.YtfpfcnfmigaphaaGreatDoorU16
import Derived.Laws.ShiftsVarLaws
namespace Go.Proofs.YtfpfcnfmigaphaaGreatDoor
open Go.RowKit Go.Sort
set_option linter.unusedVariables false
set_option linter.unusedSimpArgs false
set_option maxRecDepth 4000
set_option maxHeartbeats 8000000
theorem Gf{tmps:Array Value}{W:World}{g:Nat}{x:Int}{u0 u1 u2 u3 u4 u5 u6:Value}(d:tmps.getD 2 undef=.pointer (some ⟨g,0,none⟩))(e:tmps.getD 3 undef=.int .i64 x)(f:AO W g u0 u1 u2 u3 u4 u5 u6):
  (results Tryz.f56 tmps).run Tryz.prog W=.ok (.tuple #[.agg #[u0,u1,u2,u3,u4,u5,u6],.int .i64 x]) W:=by
 obtain⟨h,i,j,k,l,m,n⟩:=f.at;have a:tmps[2]?.getD undef=.pointer (some ⟨g,0,none⟩):=by simpa using d
 have b:tmps[3]?.getD undef=.int .i64 x:=by simpa using e
 simp[results,Tryz.results56,go_sem,a,b,h,i,j,k,l,m,n]
theorem Jp(s:ByteArray)(i:Nat):tx (s.extract i s.size)=(tx s).drop i:=by
 rw[El,List.take_of_length_le (by rw[List.length_drop,AQ];omega)]
theorem oZ(s:ByteArray)(w:World)(hs:s.size<=140737488351232):Calls Tryz.prog 56 #[.string s] w (MT w s):=by
 by_cases X:s.size<11
 ·have af:((s.size:Int)<11):=by omega
  have HF:=Ab (show Cs s from .inl X);clear X;go_enter Tryz.func56,Tryz.ntmps56;go_wp2;exact bodyPost_ret (Gf rfl rfl (Cl w (.int .i64 0) (.int .i64 0) (.int .i64 0) (.int .i64 0) (.int .i64 0) (.slice none 0 0) (.string ⟨#[]⟩))) rfl (Ho (en:=2) (.inl ⟨Aa HF,rfl⟩) (AN w _))
 ·have af:¬((s.size:Int)<11):=by omega
  have aa:=Ab X;have h4:(4:Int)<=(s.size:Int):=by omega
  obtain⟨b1,ag⟩:=Eo (Gm (dK s) (dZ s));have H1:=Ab ag;have g4:=(GW (s:=s) (k:=4) (.inr (.inr rfl)) (by omega));have g8:=(GW (s:=s.extract 4 s.size) (k:=4) (.inr (.inr rfl)) (by rw[ByteArray.size_extract];omega));rw[Jp]at g8;have G4:=fun wx=>JX s 4 wx;have G8:=fun wx=>JX (s.extract 4 s.size) 4 wx;rw[g4.1,g4.2]at G4;rw[g8.1,g8.2]at G8;have G4:=Ab (show∀wx,Calls Tryz.prog 55 #[.string s,.int .i64 4] wx fun e w'=>e=.returned (.tuple #[.int .i64 ((dO s:Nat):Int),.int .i64 ((0:Nat):Int)])/\w'=wx from G4);have G8:=Ab (show∀wx,Calls Tryz.prog 55 #[.string (s.extract 4 s.size),.int .i64 4] wx fun e w'=>e=.returned (.tuple #[.int .i64 ((dL s:Nat):Int),.int .i64 ((0:Nat):Int)])/\w'=wx from G8);have z8:8<s.size:=by omega
  have z9:9<s.size:=by omega
  have ak:10<s.size:=by omega
  have i8:=Eb s 8 z8;have i9:=Eb s 9 z9;have aj:=Eb s 10 ak;have b8:=(Bk s).get 8;have b9:=(Bk s).get 9;have ah:=(Bk s).get 10;rw[show(tx s).getD 8 0=dK s from rfl]at i8 b8;rw[show(tx s).getD 9 0=dZ s from rfl]at i9 b9;rw[show(tx s).getD 10 0=dH s from rfl]at aj ah;clear ag X g4 g8;have X2:=Ab ((Cl w (.int .i64 0) (.int .i64 0) (.int .i64 0) (.int .i64 0) (.int .i64 0) (.slice none 0 0) (.string ⟨#[]⟩)).below (AN (w.alloc (.cells #[.int .i64 0,.int .i64 0,.int .i64 0,.int .i64 0,.int .i64 0,.slice none 0 0,.string ⟨#[]⟩] 59)) (.cells #[.int .i64 ((dO s:Nat):Int),.int .i64 ((dL s:Nat):Int),.int .i64 ((dK s:Nat):Int),.int .i64 ((dZ s:Nat):Int),.int .i64 ((dH s:Nat):Int),.slice none 0 0,.string ⟨#[]⟩] 59)));have X4:=Cl (w.alloc (.cells #[.int .i64 0,.int .i64 0,.int .i64 0,.int .i64 0,.int .i64 0,.slice none 0 0,.string ⟨#[]⟩] 59)) (.int .i64 ((dO s:Nat):Int)) (.int .i64 ((dL s:Nat):Int)) (.int .i64 ((dK s:Nat):Int)) (.int .i64 ((dZ s:Nat):Int)) (.int .i64 ((dH s:Nat):Int)) (.slice none 0 0) (.string ⟨#[]⟩);rw[Bb]at X4;have X4:=Ab X4;have B1:=Ab (VK w (.cells #[.int .i64 0,.int .i64 0,.int .i64 0,.int .i64 0,.int .i64 0,.slice none 0 0,.string ⟨#[]⟩] 59) (.cells #[.int .i64 ((dO s:Nat):Int),.int .i64 ((dL s:Nat):Int),.int .i64 ((dK s:Nat):Int),.int .i64 ((dZ s:Nat):Int),.int .i64 ((dH s:Nat):Int),.slice none 0 0,.string ⟨#[]⟩] 59));go_enter Tryz.func56,Tryz.ntmps56;go_wp2_with fail;refine(Aa G4 _).mono ?_;rintro e w' ⟨rfl,n⟩;obtain rfl:=n.symm;clear n;go_wp2_with fail;refine(Aa G8 _).mono ?_;rintro e w' ⟨rfl,n⟩;obtain rfl:=n.symm;clear n;go_wp2_with fail;refine(Ry _ _ _ b1 (Aa H1)).mono ?_;rintro e w' ⟨rfl,n⟩;obtain rfl:=n.symm;clear n;cases b1
  ·have HB:=Ab (show¬Cs s/\¬Ct s from⟨by rintro(h|h);exact Aa aa h;simpa using(Aa H1).2 h.1,fun h=>by simpa using(Aa H1).2 h.1.1⟩)
   go_wp2;exact bodyPost_ret (Gf rfl rfl (Aa X2)) rfl (Ho (en:=3) (.inr ⟨(Aa HB).1,(Aa HB).2,rfl⟩) (Aa B1))
  ·have Y:=(Aa H1).1 rfl
   have am:(1:Int)<=((dZ s:Nat):Int):=Y.2.1;have an:((dZ s:Nat):Int)<=64:=Y.2.2;have Z:=Ab (fun wx=>Ol ((dK s:Nat):Int) wx);have N:sizeOfK ((dK s:Nat):Int)=1\/sizeOfK ((dK s:Nat):Int)=2:=by
    have m:=Y.1;unfold sizeOfK;rw[if_neg (by omega)];omega
   have HG:=Ab (fun wx=>dS (s.extract 11 s.size) ((dK s:Nat):Int) wx (by rw[ByteArray.size_extract];omega));have al:(11:Int)<=(s.size:Int):=by omega
   clear Y;rcases N with N|N
   ·rw[N]at Z
    have H:=Ab (show dN s=19 from by unfold dN;rw[N]);have HS:=Ab N;clear N;by_cases ai:(s.size:Int)<19+((dZ s:Nat):Int)
    ·have HF:=Ab (show Cs s from .inr ⟨(Aa H1).1 rfl,by have:=Aa H;omega⟩)
     go_wp2_with fail;refine(Aa Z _).mono ?_;rintro e w' ⟨rfl,n⟩;obtain rfl:=n.symm;clear n;go_wp2;exact bodyPost_ret (Gf rfl rfl (Aa X2)) rfl (Ho (en:=2) (.inl ⟨Aa HF,rfl⟩) (Aa B1))
    ·have hD:(19:Int)<=(s.size:Int):=by omega
     have J:=Ab (show 19+dZ s<=s.size by omega);have z:=Ab (show¬Cs s from by rintro(h|h);exact Aa aa h;have:=h.2;have:=Aa H;have:=Aa J;omega);go_wp2_with fail;refine(Aa Z _).mono ?_;rintro e w' ⟨rfl,n⟩;obtain rfl:=n.symm;clear n;go_wp2_with fail;refine wp_region_any (by kernel_rfl) ?_;change wpAny _ _ _ _ _ _ _ (World.drew _);refine wpAny_take (i:=0) (v:=?_) rfl (by kernel_rfl) (by kernel_rfl) (by kernel_rfl) (fun _ _ _ h=>h) (Or.inl ⟨by rfl,?f0⟩) ?_
     case f0=>(intro w;go_simp;try with_reducible rfl)
     refine wpAny_take (i:=1) (v:=?_) rfl (by kernel_rfl) (by kernel_rfl) (by kernel_rfl) (fun _ _ _ h=>h) (Or.inl ⟨by rfl,?f1⟩) ?_
     case f1=>(intro w;go_simp;try with_reducible rfl)
     refine wpAny_take (i:=2) (v:=?_) rfl (by kernel_rfl) (by kernel_rfl) (by kernel_rfl) (fun _ _ _ h=>h) (Or.inl ⟨by rfl,?f2⟩) ?_
     case f2=>(intro w;go_simp;try with_reducible rfl)
     refine wpAny_ready (rs:=[3]) (by kernel_rfl) (by simp) ?_;refine AllReady.cons rfl (fun K L=>?_) AllReady.nil;go_simp;refine L _ _ ?_;clear L K;refine wpAny_ready (rs:=[4]) (by kernel_rfl) (by simp) ?_;refine AllReady.cons rfl (fun K L=>?_) AllReady.nil;go_simp;refine(Aa HG _).mono ?_;rintro e w3 ⟨v,xs,en,rfl,ho,y,u⟩;obtain⟨j,c1,rfl,R⟩:=ho.row;have G:Hid (∀f,j=some f->xs.length≠0->w.heap.size+2<=f.block):=Ab (fun f m o=>by have:=ho.apart f m o;simpa using this);have ac:=Ab R;have HP:=Ab y;have V2:=Ab ((Aa X2).below ((Below.refl _ _).drew.trans u));have W:=Ab ((Aa X4).below ((Below.refl _ _).drew.trans u));have B3:=Ab (Ad (Aa B1) ((Below.refl _ _).drew.trans u));clear ho R y u X2 X4 B1 HG Z;refine L _ _ ?_;clear L K;refine wpAny_take (i:=5) (v:=?_) rfl (by kernel_rfl) (by kernel_rfl) (by kernel_rfl) (fun _ _ _ h=>h) (Or.inl ⟨by rfl,?f5⟩) ?_
     case f5=>(intro w;go_simp;try with_reducible rfl)
     refine wpAny_take (i:=6) (v:=?_) rfl (by kernel_rfl) (by kernel_rfl) (by kernel_rfl) (fun _ _ _ h=>h) (Or.inl ⟨by rfl,?f6⟩) ?_
     case f6=>(intro w;go_simp;try with_reducible rfl)
     refine wpAny_take (i:=7) (v:=?_) rfl (by kernel_rfl) (by kernel_rfl) (by kernel_rfl) (fun _ _ _ h=>h) (Or.inl ⟨by rfl,?f7⟩) ?_
     case f7=>(intro w;go_simp;try with_reducible rfl)
     refine wpAny_take (i:=8) (v:=?_) rfl (by kernel_rfl) (by kernel_rfl) (by kernel_rfl) (fun _ _ _ h=>h) (Or.inl ⟨by rfl,?f8⟩) ?_
     case f8=>(intro w;go_simp;try with_reducible rfl)
     refine wpAny_take (i:=9) (v:=?_) rfl (by kernel_rfl) (by kernel_rfl) (by kernel_rfl) (fun _ _ _ h=>h) (Or.inl ⟨by rfl,?f9⟩) ?_
     case f9=>(intro w;go_simp;try with_reducible rfl)
     refine wpAny_done (by kernel_rfl) ?_ _;obtain⟨g,hg⟩:∃g,w.heap.size+1=g:=⟨_,rfl⟩;have x:w.heap.size<g:=by omega
     have G:Hid (∀f,j=some f->xs.length≠0->g<f.block):=Ab (fun f m o=>by have:=Aa G f m o;omega);rw[hg]at W⊢;clear hg;have C:=Ab (show(s.extract 19 s.size).size=s.size-dN s by have:=Aa H;rw[ByteArray.size_extract];omega);have HX:=Ab (show wsL (tx (s.extract 11 s.size)) (sizeOfK (dK s))=dX s by rw[Jp];rfl);obtain⟨T,hT⟩:∃T,s.extract 19 s.size=T:=⟨_,rfl⟩;have HT:=Ab hT;rw[hT]at C;have U4:=Ab (((Aa W).set5 (.slice j xs.length c1)).set6 (.string T));have V:=Ab (((Aa V2).other (a:=⟨g,5,none⟩) (Nat.ne_of_lt x) (.slice j xs.length c1)).other (a:=⟨g,6,none⟩) (Nat.ne_of_lt x) (.string T));have B4:=Ab (((Aa B3).setCell (p:=⟨g,5,none⟩) (Nat.le_of_lt x) (.slice j xs.length c1)).setCell (p:=⟨g,6,none⟩) (Nat.le_of_lt x) (.string T));have I:=Ab (((Aa ac).other (B:=g) (fun f m o=>by have:=Aa G f m o;omega) 5 (.slice j xs.length c1)).other (B:=g) (fun f m o=>by have:=Aa G f m o;omega) 6 (.string T));obtain⟨m0,m1,m2,m3,m4,m5,m6⟩:=(Aa W).at;have mf:=(Aa W).frz;obtain⟨n0,n1,n2,n3,n4,n5,n6⟩:=(Aa U4).at
     have EN:Hid ((en=3/\¬Ct s)\/(en=0/\xs=dX s)):=Ab (by
      have h8:(s.extract 11 s.size).size=s.size-11:=by rw[ByteArray.size_extract];omega
      have:=Aa H;have:=Aa HS;have:=Aa J;rcases Aa HP with⟨a,_⟩|⟨_,b,_⟩|⟨_,_,c,d,_⟩|⟨_,_,c,d,e⟩
      ·omega
      ·omega
      ·rw[Aa HX]at c
       exact .inl ⟨d,fun h=>c h.2.1⟩
      ·rw[Aa HX]at e
       exact .inr ⟨d,e⟩)
     rcases Aa EN with⟨rfl,Q⟩|⟨rfl,hX⟩
     ·have ab:=Ab Q
      clear Q;obtain⟨j0,j1,j2,j3,j4,j5,j6⟩:=(Aa V).at;have jf:=(Aa V).frz;obtain⟨k0,k1,k2,k3,k4,k5,k6⟩:=(Aa V2).at;have kf:=(Aa V2).frz;go_wp2;have q:=Ab ((Aa V).sets (.int .i64 0) (.int .i64 0) (.int .i64 0) (.int .i64 0) (.int .i64 0) (.slice none 0 0) (.string ⟨#[]⟩));have b:=Ab (BZ (Aa B4) (Nat.le_refl _) (.int .i64 0) (.int .i64 0) (.int .i64 0) (.int .i64 0) (.int .i64 0) (.slice none 0 0) (.string ⟨#[]⟩));exact bodyPost_ret (Gf rfl rfl (Aa q)) rfl (Ho (en:=3) (.inr ⟨Aa z,Aa ab,rfl⟩) (Aa b))
     ·have D:=Ab hX
      clear hX;obtain⟨ck,P⟩:=KO (BS (dO s) (dL s) (dK s) (dZ s) (dH s) xs T.size);have S:=Ab P;clear P;go_wp2_with fail;refine(Sf _ _ _ _ _ j xs.length c1 xs T _ (Aa I) ck (Aa S)).mono ?_;rintro e w7 ⟨rfl,l⟩;have R4:=Ab ((Aa U4).below l);have E:=Ab ((Aa V).below l);have B7:=Ab (Ad (Aa B4) l);have ae:=Ab ((Aa I).below l);clear l n0 n1 n2 n3 n4 n5 n6 m0 m1 m2 m3 m4 m5 m6 mf;rcases(Aa S)with⟨O,rfl⟩|⟨O,rfl⟩
      ·have A:=Ab (show Ct s from by unfold Ct;rw[<-Aa C,<-Aa D];exact O)
       clear O S;obtain⟨n0,n1,n2,n3,n4,n5,n6⟩:=(Aa R4).at;obtain⟨k0,k1,k2,k3,k4,k5,k6⟩:=(Aa E).at;have kf:=(Aa E).frz;go_wp2;have q:=Ab ((Aa E).sets (.int .i64 ((dO s:Nat):Int)) (.int .i64 ((dL s:Nat):Int)) (.int .i64 ((dK s:Nat):Int)) (.int .i64 ((dZ s:Nat):Int)) (.int .i64 ((dH s:Nat):Int)) (.slice j xs.length c1) (.string T));have b:=Ab (BZ (Aa B7) (Nat.le_refl _) (.int .i64 ((dO s:Nat):Int)) (.int .i64 ((dL s:Nat):Int)) (.int .i64 ((dK s:Nat):Int)) (.int .i64 ((dZ s:Nat):Int)) (.int .i64 ((dH s:Nat):Int)) (.slice j xs.length c1) (.string T));have r:=Ab ((Aa ae).other7 (B:=w.heap.size) (fun f m o=>by have:=Aa G f m o;omega) (.int .i64 ((dO s:Nat):Int)) (.int .i64 ((dL s:Nat):Int)) (.int .i64 ((dK s:Nat):Int)) (.int .i64 ((dZ s:Nat):Int)) (.int .i64 ((dH s:Nat):Int)) (.slice j xs.length c1) (.string T));exact bodyPost_ret (Gf rfl rfl (Aa q)) rfl ⟨_,_,_,_,_,j,xs.length,c1,xs,T,0,rfl,Aa r,.inr (.inr ⟨Aa z,Aa A,rfl,rfl,rfl,rfl,rfl,rfl,Aa D,by rw[<-Aa HT,Aa H]⟩),Aa b⟩
      ·have A:=Ab (show¬Ct s from fun h=>O (by unfold Ct at h;rw[Aa C,Aa D];exact h))
       clear O S;obtain⟨k0,k1,k2,k3,k4,k5,k6⟩:=(Aa E).at;have kf:=(Aa E).frz;go_wp2;have q:=Ab ((Aa E).sets (.int .i64 0) (.int .i64 0) (.int .i64 0) (.int .i64 0) (.int .i64 0) (.slice none 0 0) (.string ⟨#[]⟩));have b:=Ab (BZ (Aa B7) (Nat.le_refl _) (.int .i64 0) (.int .i64 0) (.int .i64 0) (.int .i64 0) (.int .i64 0) (.slice none 0 0) (.string ⟨#[]⟩));exact bodyPost_ret (Gf rfl rfl (Aa q)) rfl (Ho (en:=3) (.inr ⟨Aa z,Aa A,rfl⟩) (Aa b))
   ·rw[N]at Z
    have H:=Ab (show dN s=27 from by unfold dN;rw[N]);have HS:=Ab N;clear N;by_cases ai:(s.size:Int)<27+((dZ s:Nat):Int)
    ·have HF:=Ab (show Cs s from .inr ⟨(Aa H1).1 rfl,by have:=Aa H;omega⟩)
     go_wp2_with fail;refine(Aa Z _).mono ?_;rintro e w' ⟨rfl,n⟩;obtain rfl:=n.symm;clear n;go_wp2;exact bodyPost_ret (Gf rfl rfl (Aa X2)) rfl (Ho (en:=2) (.inl ⟨Aa HF,rfl⟩) (Aa B1))
    ·have hD:(27:Int)<=(s.size:Int):=by omega
     have J:=Ab (show 27+dZ s<=s.size by omega);have z:=Ab (show¬Cs s from by rintro(h|h);exact Aa aa h;have:=h.2;have:=Aa H;have:=Aa J;omega);go_wp2_with fail;refine(Aa Z _).mono ?_;rintro e w' ⟨rfl,n⟩;obtain rfl:=n.symm;clear n;go_wp2_with fail;refine wp_region_any (by kernel_rfl) ?_;change wpAny _ _ _ _ _ _ _ (World.drew _);refine wpAny_take (i:=0) (v:=?_) rfl (by kernel_rfl) (by kernel_rfl) (by kernel_rfl) (fun _ _ _ h=>h) (Or.inl ⟨by rfl,?f0⟩) ?_
     case f0=>(intro w;go_simp;try with_reducible rfl)
     refine wpAny_take (i:=1) (v:=?_) rfl (by kernel_rfl) (by kernel_rfl) (by kernel_rfl) (fun _ _ _ h=>h) (Or.inl ⟨by rfl,?f1⟩) ?_
     case f1=>(intro w;go_simp;try with_reducible rfl)
     refine wpAny_take (i:=2) (v:=?_) rfl (by kernel_rfl) (by kernel_rfl) (by kernel_rfl) (fun _ _ _ h=>h) (Or.inl ⟨by rfl,?f2⟩) ?_
     case f2=>(intro w;go_simp;try with_reducible rfl)
     refine wpAny_ready (rs:=[3]) (by kernel_rfl) (by simp) ?_;refine AllReady.cons rfl (fun K L=>?_) AllReady.nil;go_simp;refine L _ _ ?_;clear L K;refine wpAny_ready (rs:=[4]) (by kernel_rfl) (by simp) ?_;refine AllReady.cons rfl (fun K L=>?_) AllReady.nil;go_simp;refine(Aa HG _).mono ?_;rintro e w3 ⟨v,xs,en,rfl,ho,y,u⟩;obtain⟨j,c1,rfl,R⟩:=ho.row;have G:Hid (∀f,j=some f->xs.length≠0->w.heap.size+2<=f.block):=Ab (fun f m o=>by have:=ho.apart f m o;simpa using this);have ac:=Ab R;have HP:=Ab y;have V2:=Ab ((Aa X2).below ((Below.refl _ _).drew.trans u));have W:=Ab ((Aa X4).below ((Below.refl _ _).drew.trans u));have B3:=Ab (Ad (Aa B1) ((Below.refl _ _).drew.trans u));clear ho R y u X2 X4 B1 HG Z;refine L _ _ ?_;clear L K;refine wpAny_take (i:=5) (v:=?_) rfl (by kernel_rfl) (by kernel_rfl) (by kernel_rfl) (fun _ _ _ h=>h) (Or.inl ⟨by rfl,?f5⟩) ?_
     case f5=>(intro w;go_simp;try with_reducible rfl)
     refine wpAny_take (i:=6) (v:=?_) rfl (by kernel_rfl) (by kernel_rfl) (by kernel_rfl) (fun _ _ _ h=>h) (Or.inl ⟨by rfl,?f6⟩) ?_
     case f6=>(intro w;go_simp;try with_reducible rfl)
     refine wpAny_take (i:=7) (v:=?_) rfl (by kernel_rfl) (by kernel_rfl) (by kernel_rfl) (fun _ _ _ h=>h) (Or.inl ⟨by rfl,?f7⟩) ?_
     case f7=>(intro w;go_simp;try with_reducible rfl)
     refine wpAny_take (i:=8) (v:=?_) rfl (by kernel_rfl) (by kernel_rfl) (by kernel_rfl) (fun _ _ _ h=>h) (Or.inl ⟨by rfl,?f8⟩) ?_
     case f8=>(intro w;go_simp;try with_reducible rfl)
     refine wpAny_take (i:=9) (v:=?_) rfl (by kernel_rfl) (by kernel_rfl) (by kernel_rfl) (fun _ _ _ h=>h) (Or.inl ⟨by rfl,?f9⟩) ?_
     case f9=>(intro w;go_simp;try with_reducible rfl)
     refine wpAny_done (by kernel_rfl) ?_ _;obtain⟨g,hg⟩:∃g,w.heap.size+1=g:=⟨_,rfl⟩;have x:w.heap.size<g:=by omega
     have G:Hid (∀f,j=some f->xs.length≠0->g<f.block):=Ab (fun f m o=>by have:=Aa G f m o;omega);rw[hg]at W⊢;clear hg;have C:=Ab (show(s.extract 27 s.size).size=s.size-dN s by have:=Aa H;rw[ByteArray.size_extract];omega);have HX:=Ab (show wsL (tx (s.extract 11 s.size)) (sizeOfK (dK s))=dX s by rw[Jp];rfl);obtain⟨T,hT⟩:∃T,s.extract 27 s.size=T:=⟨_,rfl⟩;have HT:=Ab hT;rw[hT]at C;have U4:=Ab (((Aa W).set5 (.slice j xs.length c1)).set6 (.string T));have V:=Ab (((Aa V2).other (a:=⟨g,5,none⟩) (Nat.ne_of_lt x) (.slice j xs.length c1)).other (a:=⟨g,6,none⟩) (Nat.ne_of_lt x) (.string T));have B4:=Ab (((Aa B3).setCell (p:=⟨g,5,none⟩) (Nat.le_of_lt x) (.slice j xs.length c1)).setCell (p:=⟨g,6,none⟩) (Nat.le_of_lt x) (.string T));have I:=Ab (((Aa ac).other (B:=g) (fun f m o=>by have:=Aa G f m o;omega) 5 (.slice j xs.length c1)).other (B:=g) (fun f m o=>by have:=Aa G f m o;omega) 6 (.string T));obtain⟨m0,m1,m2,m3,m4,m5,m6⟩:=(Aa W).at;have mf:=(Aa W).frz;obtain⟨n0,n1,n2,n3,n4,n5,n6⟩:=(Aa U4).at
     have EN:Hid ((en=3/\¬Ct s)\/(en=0/\xs=dX s)):=Ab (by
      have h8:(s.extract 11 s.size).size=s.size-11:=by rw[ByteArray.size_extract];omega
      have:=Aa H;have:=Aa HS;have:=Aa J;rcases Aa HP with⟨a,_⟩|⟨_,b,_⟩|⟨_,_,c,d,_⟩|⟨_,_,c,d,e⟩
      ·omega
      ·omega
      ·rw[Aa HX]at c
       exact .inl ⟨d,fun h=>c h.2.1⟩
      ·rw[Aa HX]at e
       exact .inr ⟨d,e⟩)
     rcases Aa EN with⟨rfl,Q⟩|⟨rfl,hX⟩
     ·have ab:=Ab Q
      clear Q;obtain⟨j0,j1,j2,j3,j4,j5,j6⟩:=(Aa V).at;have jf:=(Aa V).frz;obtain⟨k0,k1,k2,k3,k4,k5,k6⟩:=(Aa V2).at;have kf:=(Aa V2).frz;go_wp2;have q:=Ab ((Aa V).sets (.int .i64 0) (.int .i64 0) (.int .i64 0) (.int .i64 0) (.int .i64 0) (.slice none 0 0) (.string ⟨#[]⟩));have b:=Ab (BZ (Aa B4) (Nat.le_refl _) (.int .i64 0) (.int .i64 0) (.int .i64 0) (.int .i64 0) (.int .i64 0) (.slice none 0 0) (.string ⟨#[]⟩));exact bodyPost_ret (Gf rfl rfl (Aa q)) rfl (Ho (en:=3) (.inr ⟨Aa z,Aa ab,rfl⟩) (Aa b))
     ·have D:=Ab hX
      clear hX;obtain⟨ck,P⟩:=KO (BS (dO s) (dL s) (dK s) (dZ s) (dH s) xs T.size);have S:=Ab P;clear P;go_wp2_with fail;refine(Sf _ _ _ _ _ j xs.length c1 xs T _ (Aa I) ck (Aa S)).mono ?_;rintro e w7 ⟨rfl,l⟩;have R4:=Ab ((Aa U4).below l);have E:=Ab ((Aa V).below l);have B7:=Ab (Ad (Aa B4) l);have ae:=Ab ((Aa I).below l);clear l n0 n1 n2 n3 n4 n5 n6 m0 m1 m2 m3 m4 m5 m6 mf;rcases(Aa S)with⟨O,rfl⟩|⟨O,rfl⟩
      ·have A:=Ab (show Ct s from by unfold Ct;rw[<-Aa C,<-Aa D];exact O)
       clear O S;obtain⟨n0,n1,n2,n3,n4,n5,n6⟩:=(Aa R4).at;obtain⟨k0,k1,k2,k3,k4,k5,k6⟩:=(Aa E).at;have kf:=(Aa E).frz;go_wp2;have q:=Ab ((Aa E).sets (.int .i64 ((dO s:Nat):Int)) (.int .i64 ((dL s:Nat):Int)) (.int .i64 ((dK s:Nat):Int)) (.int .i64 ((dZ s:Nat):Int)) (.int .i64 ((dH s:Nat):Int)) (.slice j xs.length c1) (.string T));have b:=Ab (BZ (Aa B7) (Nat.le_refl _) (.int .i64 ((dO s:Nat):Int)) (.int .i64 ((dL s:Nat):Int)) (.int .i64 ((dK s:Nat):Int)) (.int .i64 ((dZ s:Nat):Int)) (.int .i64 ((dH s:Nat):Int)) (.slice j xs.length c1) (.string T));have r:=Ab ((Aa ae).other7 (B:=w.heap.size) (fun f m o=>by have:=Aa G f m o;omega) (.int .i64 ((dO s:Nat):Int)) (.int .i64 ((dL s:Nat):Int)) (.int .i64 ((dK s:Nat):Int)) (.int .i64 ((dZ s:Nat):Int)) (.int .i64 ((dH s:Nat):Int)) (.slice j xs.length c1) (.string T));exact bodyPost_ret (Gf rfl rfl (Aa q)) rfl ⟨_,_,_,_,_,j,xs.length,c1,xs,T,0,rfl,Aa r,.inr (.inr ⟨Aa z,Aa A,rfl,rfl,rfl,rfl,rfl,rfl,Aa D,by rw[<-Aa HT,Aa H]⟩),Aa b⟩
      ·have A:=Ab (show¬Ct s from fun h=>O (by unfold Ct at h;rw[Aa C,Aa D];exact h))
       clear O S;obtain⟨k0,k1,k2,k3,k4,k5,k6⟩:=(Aa E).at;have kf:=(Aa E).frz;go_wp2;have q:=Ab ((Aa E).sets (.int .i64 0) (.int .i64 0) (.int .i64 0) (.int .i64 0) (.int .i64 0) (.slice none 0 0) (.string ⟨#[]⟩));have b:=Ab (BZ (Aa B7) (Nat.le_refl _) (.int .i64 0) (.int .i64 0) (.int .i64 0) (.int .i64 0) (.int .i64 0) (.slice none 0 0) (.string ⟨#[]⟩));exact bodyPost_ret (Gf rfl rfl (Aa q)) rfl (Ho (en:=3) (.inr ⟨Aa z,Aa A,rfl⟩) (Aa b))
variable {c:Nat}
def step1(c:Nat):Nat:=if c%2=1 then(c/2)^^^3988292384 else c/2
def stepN:Nat->Nat->Nat
 |0,c=>c
 |k+1,c=>step1 (stepN k c)
def MI(c b:Nat):Nat:=stepN 8 (c^^^b)
def Fw(c:Nat)(xs:List Nat):Nat:=xs.foldl MI c
def In(xs:List Nat):Nat:=Fw 4294967295 xs^^^4294967295
def be4(c:Nat):List Nat:=[c/16777216%256,c/65536%256,c/256%256,c%256]
theorem pj(h:c<4294967296):step1 c<4294967296:=by
 unfold step1;split
 ·exact Nat.xor_lt_two_pow (n:=32) (by omega) (by decide)
 ·omega
theorem OK(h:c<4294967296)(k:Nat):stepN k c<4294967296:=by
 induction k with
 |zero=>exact h
 |succ k a=>exact pj a
theorem L4{a b:Nat}(d:a<4294967296)(e:b<4294967296):a^^^b<4294967296:=Nat.xor_lt_two_pow (n:=32) d e
theorem nI{b:Nat}(h:c<4294967296)(a:b<256):MI c b<4294967296:=OK (L4 h (by omega)) 8
theorem OZ{xs:List Nat}(h:c<4294967296)(a:∀x∈xs,x<256):Fw c xs<4294967296:=by
 induction xs generalizing c with
 |nil=>exact h
 |cons x xs d=>exact d (nI h (a x (by simp))) (fun y b=>a y (by simp[b]))
theorem Wl{xs:List Nat}(a:∀x∈xs,x<256):In xs<4294967296:=L4 (OZ (by decide) a) (by decide)
theorem cH(c:Nat)(xs a:List Nat):Fw c (xs++a)=Fw (Fw c xs) a:=List.foldl_append ..
theorem iF(c:Nat):∀x∈be4 c,x<256:=by
 intro x a;simp only[be4,List.mem_cons,List.mem_nil_iff,or_false]at a;rcases a with rfl|rfl|rfl|rfl<;>omega
theorem TU(x:Nat)(a:x<4294967296):bits .and .u32 (x:Int) 1=((x%2:Nat):Int):=by
 have h:=u32_and_nat x 1 a (by decide);rw[Nat.and_one_is_mod]at h;exact h
theorem UX(x:Nat)(a:x<4294967296)(h:x%2=1):bits .xor .u32 ((x:Int)/2) 3988292384=((step1 x:Nat):Int):=by
 have e:=u32_xor_nat (x/2) 3988292384 (by omega) (by decide);unfold step1;rw[if_pos h,<-e];rfl
theorem TK(x:Nat)(h:x%2=0):(x:Int)/2=((step1 x:Nat):Int):=by
 unfold step1;rw[if_neg (by omega)];rfl
theorem ko(c:Nat)(w:World)(m:c<4294967296):
  Calls Tryz.prog 183 #[.int .u32 (c:Int)] w fun e w'=>e=.returned (.int .u32 ((stepN 8 c:Nat):Int))/\w'=w:=by
 go_enter Tryz.func183,Tryz.ntmps183;go_wp2;go_loop [0,4] (fun t i=> ∃k x:Nat,k<=8/\i=.int .i64 k/\t=.int .u32 (x:Int)/\Hid (x=stepN k c)) (fun _ i=>8-(intOf i).toNat)
 case atStart=>exact⟨0,c,by decide,rfl,rfl,Ab rfl⟩
 case round=>
  obtain⟨k,x,o,rfl,rfl,d⟩:=hrel;have h:x<4294967296:=by rw[Aa d];exact OK m k
  by_cases n:k<8
  ·have g:(k:Int)<8:=by omega
   have a:=TU x h;rcases Nat.mod_two_eq_zero_or_one x with b|b
   ·rw[b]at a
    have l:=Ab (TK x b);clear b;go_wp2;go_round
    case rel=>exact⟨k+1,step1 x,by omega,by go_num,by rw[Aa l],Ab (by rw[Aa d];rfl)⟩
    case measure=>simp[intOf];omega
   ·rw[b]at a
    have p:=UX x h b;clear b;go_wp2;go_round
    case rel=>exact⟨k+1,step1 x,by omega,by go_num,rfl,Ab (by rw[Aa d];rfl)⟩
    case measure=>simp[intOf];omega
  ·have f:k=8:=by omega
   have j:Hid (stepN 8 c=x):=Ab (by rw[Aa d,f]);go_wp2;go_ret;exact⟨Bu (by rw[Aa j]),rfl⟩
theorem S5(c:Nat)(xs:List Nat)(k:Nat)(h:k<xs.length):Fw c (xs.take (k+1))=MI (Fw c (xs.take k)) (xs.getD k 0):=by
 rw[List.take_add_one,cH,List.getElem?_eq_getElem h,List.getD_eq_getElem?_getD,List.getElem?_eq_getElem h];rfl
theorem qA(x:Nat)(a:x<4294967296):bits .xor .u32 IntKind.u32.max (x:Int)=((x^^^4294967295:Nat):Int):=by
 have:=u32_xor_nat 4294967295 x (by decide) a;rw[Nat.xor_comm]at this;exact this
def sumS(s:ByteArray):Nat:=In (tx s)
theorem Wm(s:ByteArray):sumS s<4294967296:=Wl (Bk s)
theorem UB(s:ByteArray)(w:World)(r:s.size<=1048576):
  Calls Tryz.prog 131 #[.string s] w fun e w'=>e=.returned (.int .u32 ((sumS s:Nat):Int))/\w'=w:=by
 go_enter Tryz.func131,Tryz.ntmps131;go_wp2;go_loop [3,7] (fun t i=> ∃k x:Nat,k<=s.size/\i=.int .i64 k/\t=.int .u32 (x:Int)/\Hid (x=Fw 4294967295 ((tx s).take k))) (fun _ i=>s.size-(intOf i).toNat)
 case atStart=>exact⟨0,4294967295,Nat.zero_le _,rfl,rfl,Ab rfl⟩
 case round=>
  obtain⟨k,x,q,rfl,rfl,d⟩:=hrel;have g:x<4294967296:=by rw[Aa d];exact OZ (by decide) (fun y o=>Bk s y (List.mem_of_mem_take o))
  by_cases b:k<s.size
  ·have h:(k:Int)<(s.size:Int):=by omega
   have p:s[k].toNat<256:=s[k].toNat_lt;have n:=u32_xor_nat x s[k].toNat g (by omega)
   have l:=Ab (show stepN 8 (x^^^s[k].toNat)=Fw 4294967295 ((tx s).take (k+1)) from by
    rw[S5 _ _ _ (by rw[AQ];exact b),<-Aa d,<-Eb s k b];rfl)
   have f:=ko (x^^^s[k].toNat) w (L4 g (by omega));go_wp2_with (go_at_call 183;refine f.mono ?_;rintro e w' ⟨rfl,m⟩;obtain rfl:=m.symm);go_round
   case rel=>exact⟨k+1,_,by omega,by go_num,rfl,l⟩
   case measure=>simp[intOf];omega
  ·have a:k=(tx s).length:=by rw[AQ];omega
   have j:Hid (sumS s=x^^^4294967295):=Ab (by unfold sumS In;rw[Aa d,a,List.take_length]);clear a;go_wp2;go_ret;exact⟨Bu (by rw[Aa j];exact qA x g),rfl⟩
theorem jL(s:ByteArray)(w:World)(G:s.size<=1048576):
  Calls Tryz.prog 168 #[.string s] w fun e w'=>e=.returned (.int .u32 ((sumS s:Nat):Int))/\w'=w:=by
 go_enter Tryz.func168,Tryz.ntmps168;go_wp2;go_loop [3,4] (fun t i=> ∃k x:Nat,k<=s.size/\i=.int .i64 k/\t=.int .u32 (x:Int)/\Hid (x=Fw 4294967295 ((tx s).take k))) (fun _ i=>s.size-(intOf i).toNat)
 case atStart=>exact⟨0,4294967295,Nat.zero_le _,rfl,rfl,Ab rfl⟩
 case round=>
  obtain⟨k,x,E,rfl,rfl,o⟩:=hrel;have p:x<4294967296:=by rw[Aa o];exact OZ (by decide) (fun y m=>Bk s y (List.mem_of_mem_take m))
  by_cases h:k<s.size
  ·have z:(k:Int)<(s.size:Int):=by omega
   have C:s[k].toNat<256:=s[k].toNat_lt;have q:=u32_xor_nat x s[k].toNat p (by omega)
   have r:=Ab (show stepN 8 (x^^^s[k].toNat)=Fw 4294967295 ((tx s).take (k+1)) from by
    rw[S5 _ _ _ (by rw[AQ];exact h),<-Aa o,<-Eb s k h];rfl)
   have u:x^^^s[k].toNat<4294967296:=L4 p (by omega);go_wp2;obtain⟨c,d⟩:∃c,x^^^s[k].toNat=c:=⟨_,rfl⟩;rw[d]at u r;simp only[d];clear d q;go_loop [3,5] (fun t i=> ∃j y:Nat,j<=8/\i=.int .i64 j/\t=.int .u32 (y:Int)/\Hid (y=stepN j c)) (fun _ i=>8-(intOf i).toNat)
   case atStart=>exact⟨0,c,by decide,rfl,rfl,Ab rfl⟩
   case round=>
    obtain⟨j,y,D,rfl,rfl,l⟩:=hrel;have m:y<4294967296:=by rw[Aa l];exact OK u j
    by_cases B:j<8
    ·have v:(j:Int)<8:=by omega
     have a:=TU y m;rcases Nat.mod_two_eq_zero_or_one y with b|b
     ·rw[b]at a
      have A:=Ab (TK y b);clear b;go_wp2;go_round
      case rel=>exact⟨j+1,step1 y,by omega,by go_num,by rw[Aa A],Ab (by rw[Aa l];rfl)⟩
      case measure=>simp[intOf];omega
     ·rw[b]at a
      have H:=UX y m b;clear b;go_wp2;go_round
      case rel=>exact⟨j+1,step1 y,by omega,by go_num,rfl,Ab (by rw[Aa l];rfl)⟩
      case measure=>simp[intOf];omega
    ·have f:j=8:=by omega
     have n:Hid (y=Fw 4294967295 ((tx s).take (k+1))):=Ab (by rw[Aa l,f,Aa r]);clear f;go_wp2;go_round
     case rel=>exact⟨k+1,y,by omega,by go_num,rfl,n⟩
     case measure=>simp[intOf];omega
  ·have g:k=(tx s).length:=by rw[AQ];omega
   have n:Hid (sumS s=x^^^4294967295):=Ab (by unfold sumS In;rw[Aa o,g,List.take_length]);clear g;go_wp2;go_ret;exact⟨Bu (by rw[Aa n];exact u32_xor_nat x 4294967295 p (by decide)),rfl⟩
def H6(c k:Nat):List Nat:=[if 0<k then c/16777216%256 else 0,if 1<k then c/65536%256 else 0,if 2<k then c/256%256 else 0,if 3<k then c%256 else 0]
theorem WE(c d:Nat):(((c/d%256:Nat):Nat):Int)=(c:Int)/(d:Int)%256:=by simp
theorem Zf(c:Nat):((c/16777216:Nat):Int)=(c:Int)/16777216:=by simp
theorem Xi(w:World)(t:TypeId):AC (w.alloc (.cells #[.int .u8 0,.int .u8 0,.int .u8 0,.int .u8 0] t)) w.heap.size (.slice (some ⟨w.heap.size,0,none⟩) 4 4) [0,0,0,0]:=by
 refine⟨fun x b=>?_,.inr ⟨w.heap.size,4,rfl,Nat.le_refl _,by simp,fun i a=>?_,fun i a=>?_⟩⟩
 ·simp only[List.mem_cons,List.mem_nil_iff,or_false,or_self]at b
  omega
 ·match i,a with
  |0,_=>simp
  |1,_=>simp
  |2,_=>simp
  |3,_=>simp
 ·match i,a with
  |0,_=>simp
  |1,_=>simp
  |2,_=>simp
  |3,_=>simp
theorem LK{w wr:World}{B g:Nat}{xs:List Nat}(b:xs.length=4)(a:AC wr B (.slice (some ⟨g,0,none⟩) 4 4) xs)(e:Below B w wr)(d:B<=g)(i x:Nat)(f:x<256):
  AC (wr.setCell ⟨g,i,none⟩ (.int .u8 (x:Int))) B (.slice (some ⟨g,0,none⟩) 4 4) (xs.set i x)/\Below B w (wr.setCell ⟨g,i,none⟩ (.int .u8 (x:Int))):=by
 rw[<-b]at a⊢;exact⟨a.stored i x f,e.setCell (by exact d) _⟩
theorem S6(s:ByteArray)(w:World)(v:s.size<=1048576):
  Calls Tryz.prog 124 #[.string s] w fun e w'=>e=.returned (.string (st (be4 (sumS s))))/\Below w.heap.size w w':=by
 have q:=Wm s;have n:=Ab (UB s w v);obtain⟨c,d⟩:∃c,sumS s=c:=⟨_,rfl⟩;rw[d]at q n;rw[d];clear d;go_enter Tryz.func124,Tryz.ntmps124;go_wp2_with (go_at_call 131;refine(Aa n).mono ?_;rintro e w' ⟨rfl,x⟩;obtain rfl:=x.symm);go_loopw [8] (fun i wr=> ∃k:Nat,k<=4/\i=.int .i64 k/\Hid (AC wr w.heap.size (.slice (some ⟨w.heap.size,0,none⟩) 4 4) (H6 c k))/\Hid (Below w.heap.size w wr)) (fun i _=>4-(intOf i).toNat)
 case atStart=>exact⟨0,by decide,rfl,Ab (Xi _ _),Ab ((Below.refl _ _).alloc (Nat.le_refl _) _)⟩
 case round=>
  obtain⟨k,y,rfl,a,b⟩:=hrel;by_cases f:k<4
  ·obtain⟨g,cap,o,p,u,h,j⟩:=(Aa a).at (by simp[H6])
   simp only[Value.slice.injEq,Option.some.injEq,Addr.mk.injEq,and_true]at o;obtain⟨rfl, -⟩:=o;have l:=h k (by simpa [H6]using f);have r:=j k (by simpa [H6]using f);clear h j
   match k,f with
   |0,_=>
    have R:=Ab (LK rfl (Aa a) (Aa b) (Nat.le_refl _) 0 (c/16777216) (by omega));rw[Zf,show(H6 c 0).set 0 (c/16777216)=H6 c 1 from by unfold H6;rw[show c/16777216=c/16777216%256 by omega];simp]at R;clear a b;go_wp2;go_roundw
    case rel=>exact⟨1,by omega,rfl,Ab (Aa R).1,Ab (Aa R).2⟩
    case measure=>simp[intOf]
   |1,_=>
    have R:=Ab (LK rfl (Aa a) (Aa b) (Nat.le_refl _) 1 (c/65536%256) (by omega));rw[WE]at R;clear a b;go_wp2;go_roundw
    case rel=>exact⟨2,by omega,rfl,Ab (Aa R).1,Ab (Aa R).2⟩
    case measure=>simp[intOf]
   |2,_=>
    have R:=Ab (LK rfl (Aa a) (Aa b) (Nat.le_refl _) 2 (c/256%256) (by omega));rw[WE]at R;clear a b;go_wp2;go_roundw
    case rel=>exact⟨3,by omega,rfl,Ab (Aa R).1,Ab (Aa R).2⟩
    case measure=>simp[intOf]
   |3,_=>
    have R:=Ab (LK rfl (Aa a) (Aa b) (Nat.le_refl _) 3 (c%256) (by omega));clear a b;go_wp2;go_roundw
    case rel=>exact⟨4,by omega,rfl,Ab (Aa R).1,Ab (Aa R).2⟩
    case measure=>simp[intOf]
  ·obtain rfl:k=4:=by omega
   have m:=(Aa a).text;rw[show H6 c 4=be4 c from rfl]at m;clear a;go_wp2;go_ret;exact⟨rfl,Aa b⟩
variable {s:ByteArray}
theorem ZU{W:World}{f:FuncId}{args:Array Value}{v:Value}(h:∀w',Below W.heap.size W w'->Calls Tryz.prog f args w' fun e a=>e=.returned v/\Below w'.heap.size w' a)(d:Nat)(os:Array Obj):
  Calls Tryz.prog f args (grow (redrawn W d) os) fun e a=>e=.returned v/\∃p:Regrown,a=grow (redrawn W p.d) p.os:=
 Calls.regrown_of (h _ (below_regrown W d os))
def En(s:ByteArray):ByteArray:=st (be4 (sumS s))
def CA(s:ByteArray):ByteArray:=s++En s
def Bv(s:ByteArray):ByteArray:=s.extract 0 (s.size-4)
def DU(s:ByteArray):ByteArray:=s.extract (s.size-4) s.size
theorem Nw(s:ByteArray):(En s).size=4:=by unfold En;rw[Dz];rfl
theorem J3(s:ByteArray):(CA s).size=s.size+4:=by unfold CA;rw[ByteArray.size_append,Nw]
theorem RY(s:ByteArray)(h:4<=s.size):(Bv s).size=s.size-4:=by unfold Bv;rw[ByteArray.size_extract];omega
theorem N6(s:ByteArray)(h:4<=s.size):s=Bv s++DU s:=by
 unfold Bv DU;rw[ByteArray.extract_append_extract];have a:min 0 (s.size-4)=0:=by omega
 have b:max (s.size-4) s.size=s.size:=by omega
 rw[a,b];exact(ByteArray.extract_zero_size).symm
theorem On(s:ByteArray):Bv (CA s)=s:=by
 unfold Bv;rw[J3,Nat.add_sub_cancel];unfold CA;rw[ByteArray.extract_append_size_left];exact ByteArray.extract_zero_size
theorem TE(s:ByteArray):DU (CA s)=En s:=by
 have h:=N6 (CA s) (by rw[J3];omega);rw[On]at h;unfold CA at h;exact(ByteArray.append_right_inj _).1 h|>.symm
def openE(s:ByteArray):Nat:=if s.size<4 then 2 else if DU s=En (Bv s)then 0 else 4
def openT(s:ByteArray):ByteArray:=if openE s=0 then Bv s else⟨#[]⟩
theorem St(s:ByteArray):openE (CA s)=0/\openT (CA s)=s:=by
 have h:openE (CA s)=0:=by
  unfold openE;rw[if_neg (by rw[J3];omega),if_pos (by rw[TE,On])]
 exact⟨h,by unfold openT;rw[if_pos h,On]⟩
theorem kh(s:ByteArray)(h:openE s=0):CA (openT s)=s:=by
 unfold openT;rw[if_pos h];unfold openE at h;by_cases a:s.size<4
 ·rw[if_pos a]at h;omega
 ·rw[if_neg a]at h
  by_cases b:DU s=En (Bv s)
  ·unfold CA
   rw[<-b];exact(N6 s (by omega)).symm
  ·rw[if_neg b]at h;omega
theorem pZ(s:ByteArray)(a:4<=s.size):CA (Bv s)=s↔DU s=En (Bv s):=by
 constructor
 ·intro h
  have:=TE (Bv s);rw[h]at this;exact this
 ·intro h
  unfold CA;rw[<-h];exact(N6 s a).symm
theorem jM(s:ByteArray)(w:World)(h:s.size<=1048576):
  Calls Tryz.prog 142 #[.string s] w fun e w'=>e=.returned (.string (CA s))/\Below w.heap.size w w':=by
 have ht:=Nw s;have g:=Ab (show∀w',Calls Tryz.prog 124 #[.string s] w' fun e a=>e=.returned (.string (En s))/\Below w'.heap.size w' a from fun w'=>S6 s w' h);have d:¬(9223372036854775807<s.size+(En s).size):=by omega
 unfold CA;generalize En s=t at*;go_enter Tryz.func142,Tryz.ntmps142;go_wp2_with fail;refine(Aa g _).mono ?_;rintro e w1 ⟨rfl,b⟩;have f:=Ab b;clear b;go_wp2;go_ret;exact⟨rfl,Aa f⟩
theorem aL(w:World)(t:TypeId)(c:Nat)(b:c<4294967296):AC (w.alloc (.cells #[.int .u8 ((c:Int)/16777216),.int .u8 ((c:Int)/65536%256),.int .u8 ((c:Int)/256%256),.int .u8 ((c:Int)%256)] t)) w.heap.size (.slice (some ⟨w.heap.size,0,none⟩) 4 4) (be4 c):=by
 refine⟨iF c,.inr ⟨w.heap.size,4,rfl,Nat.le_refl _,by simp,fun i a=>?_,fun i a=>?_⟩⟩
 ·match i,a with
  |0,_=>simp[be4];omega
  |1,_=>simp[be4]
  |2,_=>simp[be4]
  |3,_=>simp[be4]
 ·match i,a with
  |0,_=>simp
  |1,_=>simp
  |2,_=>simp
  |3,_=>simp
theorem kb(s:ByteArray)(w:World)(g:s.size<=1048576):
  Calls Tryz.prog 114 #[.string s] w fun e w'=>e=.returned (.string (CA s))/\Below w.heap.size w w':=by
 have ht:(st (be4 (sumS s))).size=4:=Nw s;have d:=Wm s;have b:=Ab (jL s w g);have a:¬(9223372036854775807<s.size+(st (be4 (sumS s))).size):=by omega
 unfold CA En;generalize sumS s=c at*;have f:=(aL w 5 c d).text;go_enter Tryz.func114,Tryz.ntmps114;go_wp2_with fail;refine(Aa b).mono ?_;rintro e w1 ⟨rfl,h⟩;obtain rfl:=h.symm;go_wp2;go_ret;exact⟨rfl,(Below.refl _ _).alloc (Nat.le_refl _) _⟩
theorem Nq(h:s.size<4):openE s=2/\openT s=⟨#[]⟩:=by
 have e:openE s=2:=by unfold openE;rw[if_pos h]
 exact⟨e,by unfold openT;rw[if_neg (by omega)]⟩
theorem Vk(h:¬s.size<4)(a:DU s=En (Bv s)):openE s=0/\openT s=Bv s:=by
 have e:openE s=0:=by unfold openE;rw[if_neg h,if_pos a]
 exact⟨e,by unfold openT;rw[if_pos e]⟩
theorem V3(h:¬s.size<4)(a:¬DU s=En (Bv s)):openE s=4/\openT s=⟨#[]⟩:=by
 have e:openE s=4:=by unfold openE;rw[if_neg h,if_neg a]
 exact⟨e,by unfold openT;rw[if_neg (by omega)]⟩
theorem Jl{a b:ByteArray}{i j:Int}(h:a=b)(d:i=j):Ending.returned (.tuple #[.string a,.int .i64 i])=.returned (.tuple #[.string b,.int .i64 j]):=by rw[h,d]
theorem SZ(s:ByteArray)(w:World)(E:s.size<=1048576):
  Calls Tryz.prog 64 #[.string s] w fun e w'=>e=.returned (.tuple #[.string (openT s),.int .i64 ((openE s:Nat):Int)])/\Below w.heap.size w w':=by
 by_cases j:s.size<4
 ·have q:(s.size:Int)<4:=by omega
  have g:=Ab (Nq j);clear j;go_enter Tryz.func64,Tryz.ntmps64;go_wp2;go_ret2;exact⟨Jl (Aa g).2.symm (by rw[(Aa g).1];rfl),Below.refl _ _⟩
 ·have q:decide ((s.size:Int)<4)=false:=by rw[decide_eq_false_iff_not];omega
  have D:=RY s (by omega);have C:((s.size:Int)-4).toNat=s.size-4:=by omega
  have v:(0:Int)<=(s.size:Int)-4:=by omega
  have x:(s.size:Int)-4<=(s.size:Int):=by omega
  have z:s.extract 0 (s.size-4)=Bv s:=rfl;have A:s.extract (s.size-4) s.size=DU s:=rfl;have o:=ZU (W:=w) (fun w' _=>S6 (Bv s) w' (by omega));have u:∀w',Calls Tryz.prog 89 #[.string (Bv s)] w' fun e r=>e=.returned (.string (Bv s))/\Below w'.heap.size w' r:=fun w'=>GB (Bv s) w' (by omega);have y:=Ab u;clear u;by_cases k:DU s=En (Bv s)
  ·have g:=Ab (Vk j k)
   have B:((DU s).toList==(st (be4 (sumS (Bv s)))).toList)=true:=by
    rw[Jh,decide_eq_true (show DU s=st (be4 (sumS (Bv s))) from k)]
   clear j k;generalize Bv s=h at*;generalize DU s=l at*;generalize st (be4 (sumS h))=t at*;go_enter Tryz.func64,Tryz.ntmps64;go_wp2_with fail;refine wp_region_quiet_below (by kernel_rfl) (by kernel_rfl) ?_
   repeat (with_reducible refine wpQuiet_step (fun K f=>?_);go_simp;first|(with_reducible refine f _ ?_;clear f K)|(apply Exists.intro;apply And.intro;(intro _;go_at_call 124;exact o _ _);with_reducible refine f _ ?_;clear f K))
   refine wpQuiet_nil ?_;intro _ i;obtain⟨⟨m,b⟩,a⟩:=i;subst a;have d:=Ab (below_regrown w m b);generalize grow (redrawn w m) b=w1 at*;clear o;go_wp2_with fail;refine(Aa y _).mono ?_;rintro e w2 ⟨rfl,n⟩;have p:=Ab (Ad (Aa d) n);clear n d;go_wp2;go_ret2;exact⟨Jl (Aa g).2.symm (by rw[(Aa g).1];rfl),Aa p⟩
  ·have g:=Ab (V3 j k)
   have B:((DU s).toList==(st (be4 (sumS (Bv s)))).toList)=false:=by
    rw[Jh,decide_eq_false (show¬DU s=st (be4 (sumS (Bv s))) from k)]
   clear j k;generalize Bv s=h at*;generalize DU s=l at*;generalize st (be4 (sumS h))=t at*;go_enter Tryz.func64,Tryz.ntmps64;go_wp2_with fail;refine wp_region_quiet_below (by kernel_rfl) (by kernel_rfl) ?_
   repeat (with_reducible refine wpQuiet_step (fun K f=>?_);go_simp;first|(with_reducible refine f _ ?_;clear f K)|(apply Exists.intro;apply And.intro;(intro _;go_at_call 124;exact o _ _);with_reducible refine f _ ?_;clear f K))
   refine wpQuiet_nil ?_;intro _ i;obtain⟨⟨m,b⟩,a⟩:=i;subst a;have d:=Ab (below_regrown w m b);generalize grow (redrawn w m) b=w1 at*;clear o;go_wp2;go_ret2;exact⟨Jl (Aa g).2.symm (by rw[(Aa g).1];rfl),Aa d⟩
theorem TC(s:ByteArray)(w:World)(r:s.size<=1048576):
  Calls Tryz.prog 54 #[.string s] w fun e w'=>e=.returned (.tuple #[.string (openT s),.int .i64 ((openE s:Nat):Int)])/\Below w.heap.size w w':=by
 by_cases g:s.size<4
 ·have j:(s.size:Int)<4:=by omega
  have d:=Ab (Nq g);clear g;go_enter Tryz.func54,Tryz.ntmps54;go_wp2;go_ret2;exact⟨Jl (Aa d).2.symm (by rw[(Aa d).1];rfl),Below.refl _ _⟩
 ·have j:decide ((s.size:Int)<4)=false:=by rw[decide_eq_false_iff_not];omega
  have q:=RY s (by omega);have p:((s.size:Int)-4).toNat=s.size-4:=by omega
  have l:(0:Int)<=(s.size:Int)-4:=by omega
  have m:(s.size:Int)-4<=(s.size:Int):=by omega
  have n:s.extract 0 (s.size-4)=Bv s:=rfl;have k:=Ab (fun w'=>kb (Bv s) w' (by omega));have a:=pZ s (by omega);by_cases i:DU s=En (Bv s)
  ·have d:=Ab (Vk g i)
   have o:((CA (Bv s)).toList==s.toList)=true:=by rw[Jh,decide_eq_true (a.2 i)]
   clear g i a;generalize CA (Bv s)=t at*;generalize Bv s=h at*;go_enter Tryz.func54,Tryz.ntmps54;go_wp2_with fail;refine(Aa k _).mono ?_;rintro e w2 ⟨rfl,b⟩;have f:=Ab b;clear b;go_wp2;go_ret2;exact⟨Jl (Aa d).2.symm (by rw[(Aa d).1];rfl),Aa f⟩
  ·have d:=Ab (V3 g i)
   have o:((CA (Bv s)).toList==s.toList)=false:=by rw[Jh,decide_eq_false (fun e=>i (a.1 e))]
   clear g i a;generalize CA (Bv s)=t at*;generalize Bv s=h at*;go_enter Tryz.func54,Tryz.ntmps54;go_wp2_with fail;refine(Aa k _).mono ?_;rintro e w2 ⟨rfl,b⟩;have f:=Ab b;clear b;go_wp2;go_ret2;exact⟨Jl (Aa d).2.symm (by rw[(Aa d).1];rfl),Aa f⟩
end Go.Proofs.YtfpfcnfmigaphaaGreatDoor
