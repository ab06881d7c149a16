/-
  Laws that the proof stands on.
-/
import Derived.Test.YtfpfcnfmigaphaaGreatDoorU15
namespace Go.Proofs.YtfpfcnfmigaphaaGreatDoor
open Go.RowKit Go.Sort
set_option linter.unusedVariables false
set_option linter.unusedSimpArgs false
set_option maxRecDepth 4000
set_option maxHeartbeats 8000000
variable {s:ByteArray}{w w':World}
def MT(w:World)(s:ByteArray)(e:Ending)(w':World):Prop:=
 ∃(o l k z h:Int) (a:Option Addr) (n c:Nat) (xs:List Nat) (t:ByteArray) (en:Nat),e=.returned (.tuple #[.agg #[.int .i64 o,.int .i64 l,.int .i64 k,.int .i64 z,.int .i64 h,.slice a n c,.string t],.int .i64 ((en:Nat):Int)])/\
  RowAt w' a n xs/\BP s o l k z h xs t en/\Below w.heap.size w w'
def DI(w:World)(a:Option Addr)(n:Nat):Prop:=∀b,a=some b->n≠0->w.heap.size<=b.block
theorem Og(w:World)(n:Nat):DI w none n:=fun a h=>by cases h
theorem DI.mono{a:Option Addr}{n:Nat}(h:DI w' a n)(e:w.heap.size<=w'.heap.size):DI w a n:=fun b c d=>Nat.le_trans e (h b c d)
def Gw(w:World)(s:ByteArray)(e:Ending)(w':World):Prop:=
 ∃(o l k z h:Int) (a:Option Addr) (n c:Nat) (xs:List Nat) (t:ByteArray) (en:Nat),e=.returned (.tuple #[.agg #[.int .i64 o,.int .i64 l,.int .i64 k,.int .i64 z,.int .i64 h,.slice a n c,.string t],.int .i64 ((en:Nat):Int)])/\
  RowAt w' a n xs/\DI w a n/\BP s o l k z h xs t en/\Below w.heap.size w w'
theorem Gw.dec{e:Ending}(h:Gw w s e w'):MT w s e w':=by
 obtain⟨o,l,k,z,h,a,n,c,xs,t,en,g,b,_,d,f⟩:=h;exact⟨o,l,k,z,h,a,n,c,xs,t,en,g,b,d,f⟩
theorem GG{en:Nat}(h:(Cs s/\en=2)\/(¬Cs s/\¬Ct s/\en=3))(e:Below w.heap.size w w'):
  Gw w s (.returned (.tuple #[.agg #[.int .i64 0,.int .i64 0,.int .i64 0,.int .i64 0,.int .i64 0,.slice none 0 0,.string ⟨#[]⟩],.int .i64 ((en:Nat):Int)])) w':=by
 refine⟨0,0,0,0,0,none,0,0,[],⟨#[]⟩,en,rfl,FQ _,Og _ _,?_,e⟩;have c:A6 0 0 0 0 0 [] ⟨#[]⟩:=⟨rfl,rfl,rfl,rfl,rfl,rfl,rfl⟩;rcases h with⟨a,b⟩|⟨a,b,d⟩
 ·exact .inl ⟨a,b,c⟩
 ·exact .inr (.inl ⟨a,b,d,c⟩)
theorem Ho{en:Nat}(h:(Cs s/\en=2)\/(¬Cs s/\¬Ct s/\en=3))(a:Below w.heap.size w w'):
  MT w s (.returned (.tuple #[.agg #[.int .i64 0,.int .i64 0,.int .i64 0,.int .i64 0,.int .i64 0,.slice none 0 0,.string ⟨#[]⟩],.int .i64 ((en:Nat):Int)])) w':=(GG h a).dec
theorem Gg{tmps:Array Value}{W:World}{g:Nat}{x:Int}{u0 u1 u2 u3 u4 u5 u6:Value}(c:tmps.getD 2 undef=.pointer (some ⟨g,0,none⟩))(d:tmps.getD 3 undef=.int .i64 x)(e:AO W g u0 u1 u2 u3 u4 u5 u6):
  (results Tryz.f126 tmps).run Tryz.prog W=.ok (.tuple #[.agg #[u0,u1,u2,u3,u4,u5,u6],.int .i64 x]) W:=by
 obtain⟨f,h,i,j,k,l,m⟩:=e.at;have a:tmps[2]?.getD undef=.pointer (some ⟨g,0,none⟩):=by simpa using c
 have b:tmps[3]?.getD undef=.int .i64 x:=by simpa using d
 simp[results,Tryz.results126,go_sem,a,b,f,h,i,j,k,l,m]
theorem nT(s:ByteArray)(w:World)(hs:s.size<=140737488351232):Calls Tryz.prog 126 #[.string s] w (Gw w s):=by
 by_cases ah:s.size<11
 ·have an:((s.size:Int)<11):=by omega
  have HF:=Ab (show Cs s from .inl ah);clear ah;go_enter Tryz.func126,Tryz.ntmps126;go_wp2;exact bodyPost_ret (Gg rfl rfl (Cl w (.int .i64 0) (.int .i64 0) (.int .i64 0) (.int .i64 0) (.int .i64 0) (.slice none 0 0) (.string ⟨#[]⟩))) rfl (GG (en:=2) (.inl ⟨Aa HF,rfl⟩) (AN w _))
 ·have an:¬((s.size:Int)<11):=by omega
  have V:=Ab ah;obtain⟨b1,L⟩:=Eo (Gm (dK s) (dZ s));have H1:=Ab L;have HH:=Ab (fun wx=>mV s (by omega) wx);clear L ah;have X2:=Ab (Cl w (.int .i64 0) (.int .i64 0) (.int .i64 0) (.int .i64 0) (.int .i64 0) (.slice none 0 0) (.string ⟨#[]⟩));go_enter Tryz.func126,Tryz.ntmps126;go_wp2_with fail;refine(Aa HH _).mono ?_;rintro e w1 ⟨rfl,L⟩;have y2:=(Aa X2).below L;have B1:=Ab (Ad (AN w _) L);have Y2:=Ab (y2.below (AN w1 (.cells #[.int .i64 ((dO s:Nat):Int),.int .i64 ((dL s:Nat):Int),.int .i64 ((dK s:Nat):Int),.int .i64 ((dZ s:Nat):Int),.int .i64 ((dH s:Nat):Int),.slice none 0 0,.string ⟨#[]⟩] 59)));have Y4:=Ab (Cl w1 (.int .i64 ((dO s:Nat):Int)) (.int .i64 ((dL s:Nat):Int)) (.int .i64 ((dK s:Nat):Int)) (.int .i64 ((dZ s:Nat):Int)) (.int .i64 ((dH s:Nat):Int)) (.slice none 0 0) (.string ⟨#[]⟩));have x:=y2.lt;clear L y2 HH X2;go_wp2_with fail;refine(RD _ _ _ _ _ _ _ _ b1 (Aa H1)).mono ?_;rintro e w2 ⟨rfl,ai⟩;have J:=Ab ((Aa Y2).below ai);have Z4:=Ab ((Aa Y4).below ai);have B2:=Ab (Ps (Aa B1) ai);clear ai Y2 Y4 B1;generalize w1.heap.size=g at*;cases b1
  ·have HB:=Ab (show¬Cs s/\¬Ct s from⟨by rintro(h|h);exact Aa V h;simpa using(Aa H1).2 h.1,fun h=>by simpa using(Aa H1).2 h.1.1⟩)
   obtain⟨N,O,P,k3,Q,R,S⟩:=(Aa J).at;have f:=(Aa J).frz;go_wp2;have q:=Ab ((Aa J).sets (.int .i64 0) (.int .i64 0) (.int .i64 0) (.int .i64 0) (.int .i64 0) (.slice none 0 0) (.string ⟨#[]⟩));have b:=Ab (BZ (Aa B2) (Nat.le_refl _) (.int .i64 0) (.int .i64 0) (.int .i64 0) (.int .i64 0) (.int .i64 0) (.slice none 0 0) (.string ⟨#[]⟩));exact bodyPost_ret (Gg rfl rfl (Aa q)) rfl (GG (en:=3) (.inr ⟨(Aa HB).1,(Aa HB).2,rfl⟩) (Aa b))
  ·have aj:=(Aa H1).1 rfl
   obtain⟨N,O,P,k3,Q,R,S⟩:=(Aa Z4).at;have ap:(1:Int)<=((dZ s:Nat):Int):=aj.2.1;have aq:((dZ s:Nat):Int)<=64:=aj.2.2;have HZ:=Ab (fun wx=>GL ((dK s:Nat):Int) wx);have hN:sizeOfK ((dK s:Nat):Int)=1\/sizeOfK ((dK s:Nat):Int)=2:=by
    have y:=aj.1;unfold sizeOfK;rw[if_neg (by omega)];omega
   clear aj;rcases hN with hN|hN
   ·rw[hN]at HZ
    have H:=Ab (show dN s=19 from by unfold dN;rw[hN]);have HS:=Ab hN;clear hN;by_cases ag:(s.size:Int)<19+((dZ s:Nat):Int)
    ·have HF:=Ab (show Cs s from .inr ⟨(Aa H1).1 rfl,by have:=Aa H;omega⟩)
     go_wp2_with fail;refine(Aa HZ _).mono ?_;rintro e w' ⟨rfl,hw⟩;obtain rfl:=hw.symm;clear hw N O P Q R S;obtain⟨N,O,P,k3,Q,R,S⟩:=(Aa J).at;have f:=(Aa J).frz;go_wp2;have q:=Ab ((Aa J).sets (.int .i64 0) (.int .i64 0) (.int .i64 0) (.int .i64 0) (.int .i64 0) (.slice none 0 0) (.string ⟨#[]⟩));have b:=Ab (BZ (Aa B2) (Nat.le_refl _) (.int .i64 0) (.int .i64 0) (.int .i64 0) (.int .i64 0) (.int .i64 0) (.slice none 0 0) (.string ⟨#[]⟩));exact bodyPost_ret (Gg rfl rfl (Aa q)) rfl (GG (en:=2) (.inl ⟨Aa HF,rfl⟩) (Aa b))
    ·have hD:(19:Int)<=(s.size:Int):=by omega
     have ab:=Ab (show 19+dZ s<=s.size by omega);have HG:=Ab (fun wx=>RX (s.extract 11 19) ((dK s:Nat):Int) wx (by rw[ByteArray.size_extract];omega));go_wp2_with fail;refine(Aa HZ _).mono ?_;rintro e w' ⟨rfl,hw⟩;obtain rfl:=hw.symm;clear hw N O Q R S;go_wp2_with fail;refine wp_region_any (by kernel_rfl) ?_;change wpAny _ _ _ _ _ _ _ (World.drew _);refine wpAny_take (i:=0) (v:=?_) rfl (by kernel_rfl) (by kernel_rfl) (by kernel_rfl) (fun _ _ _ h=>h) (Or.inl ⟨by rfl,?f0⟩) ?_
     case f0=>(intro w;go_simp;try with_reducible rfl)
     refine wpAny_take (i:=1) (v:=?_) rfl (by kernel_rfl) (by kernel_rfl) (by kernel_rfl) (fun _ _ _ h=>h) (Or.inl ⟨by rfl,?f1⟩) ?_
     case f1=>(intro w;go_simp;try with_reducible rfl)
     refine wpAny_take (i:=2) (v:=?_) rfl (by kernel_rfl) (by kernel_rfl) (by kernel_rfl) (fun _ _ _ h=>h) (Or.inl ⟨by rfl,?f2⟩) ?_
     case f2=>(intro w;go_simp;try with_reducible rfl)
     refine wpAny_take (i:=3) (v:=?_) rfl (by kernel_rfl) (by kernel_rfl) (by kernel_rfl) (fun _ _ _ h=>h) (Or.inl ⟨by rfl,?f3⟩) ?_
     case f3=>(intro w;go_simp;try with_reducible rfl)
     refine wpAny_ready (rs:=[4]) (by kernel_rfl) (by simp) ?_;refine AllReady.cons rfl (fun K o=>?_) AllReady.nil;go_simp;refine o _ _ ?_;clear o K;refine wpAny_ready (rs:=[5]) (by kernel_rfl) (by simp) ?_;refine AllReady.cons rfl (fun K o=>?_) AllReady.nil;go_simp;refine(Aa HG _).mono ?_;rintro e w3 ⟨v,xs,en,rfl,ho,u,ac⟩;obtain⟨c,c1,rfl,af⟩:=ho.row;have HA:Hid (∀k,c=some k->xs.length≠0->w2.heap.size<=k.block):=Ab (ho.apart);have ak:=Ab (show w.heap.size<=w2.heap.size from(Aa B2).size);have Y:=Ab af;have HP:=Ab u;have m:Below w2.heap.size w2 w3:=(Below.refl _ _).drew.trans ac;have V2:=Ab ((Aa J).below m);have V4:=Ab ((Aa Z4).below m);have B3:=Ab (Ad (Aa B2) m);have A:=Ab (show g<w2.heap.size from(Aa Z4).lt);clear ho af u ac m J Z4 B2 HG HZ;refine o _ _ ?_;clear o K;refine wpAny_take (i:=6) (v:=?_) rfl (by kernel_rfl) (by kernel_rfl) (by kernel_rfl) (fun _ _ _ h=>h) (Or.inl ⟨by rfl,?f6⟩) ?_
     case f6=>(intro w;go_simp;try with_reducible rfl)
     refine wpAny_take (i:=7) (v:=?_) rfl (by kernel_rfl) (by kernel_rfl) (by kernel_rfl) (fun _ _ _ h=>h) (Or.inl ⟨by rfl,?f7⟩) ?_
     case f7=>(intro w;go_simp;try with_reducible rfl)
     refine wpAny_take (i:=8) (v:=?_) rfl (by kernel_rfl) (by kernel_rfl) (by kernel_rfl) (fun _ _ _ h=>h) (Or.inl ⟨by rfl,?f8⟩) ?_
     case f8=>(intro w;go_simp;try with_reducible rfl)
     refine wpAny_take (i:=9) (v:=?_) rfl (by kernel_rfl) (by kernel_rfl) (by kernel_rfl) (fun _ _ _ h=>h) (Or.inl ⟨by rfl,?f9⟩) ?_
     case f9=>(intro w;go_simp;try with_reducible rfl)
     refine wpAny_take (i:=10) (v:=?_) rfl (by kernel_rfl) (by kernel_rfl) (by kernel_rfl) (fun _ _ _ h=>h) (Or.inl ⟨by rfl,?f10⟩) ?_
     case f10=>(intro w;go_simp;try with_reducible rfl)
     obtain⟨m0,m1,m2,m3,m4,m5,m6⟩:=(Aa V4).at;have mf:=(Aa V4).frz;refine wpAny_ready (rs:=[11]) (by kernel_rfl) (by simp) ?_;refine AllReady.cons rfl (fun K o=>?_) AllReady.nil;go_simp;refine o _ _ ?_;clear o K;refine wpAny_done (by kernel_rfl) ?_ _;clear m0 m1 m2 m3 m4 m5 m6 mf;have U4:=Ab ((Aa V4).set5 (.slice c xs.length c1));have U2:=Ab ((Aa V2).other (a:=⟨g,5,none⟩) (Nat.ne_of_lt x) (.slice c xs.length c1));have B4:=Ab ((Aa B3).setCell (p:=⟨g,5,none⟩) (Nat.le_of_lt x) (.slice c xs.length c1));have Z:=Ab ((Aa Y).other (B:=g) (fun k y E=>by have:=Aa HA k y E;have:=Aa A;omega) 5 (.slice c xs.length c1));clear V4 V2 B3 Y;generalize w3.setCell ⟨g,5,none⟩ (.slice c xs.length c1)=w4 at*;go_wp2_with fail;refine(GB (s.extract 19 (19+dZ s)) _ (by rw[ByteArray.size_extract];omega)).mono ?_;rintro e w5 ⟨rfl,d⟩;have T4:=Ab ((Aa U4).below d);have T2:=Ab ((Aa U2).below d);have B5:=Ab (Ad (Aa B4) d);have al:=Ab ((Aa Z).below d);have C:=Ab (show(s.extract 19 (19+dZ s)).size=dZ s by have:=Aa ab;rw[ByteArray.size_extract];omega);have W:=Ab (fun ag=>Ua (s:=s) (D:=19) (Aa H) ag (by have:=Aa HS;omega) (Aa HP));obtain⟨T,hT⟩:∃T,s.extract 19 (19+dZ s)=T:=⟨_,rfl⟩;have HT:=Ab hT;rw[hT]at C;rw[hT];clear hT;clear d U4 U2 B4 Z P k3;have S4:=Ab ((Aa T4).set6 (.string T));have S2:=Ab ((Aa T2).other (a:=⟨g,6,none⟩) (Nat.ne_of_lt x) (.string T));have B6:=Ab ((Aa B5).setCell (p:=⟨g,6,none⟩) (Nat.le_of_lt x) (.string T));have aa:=Ab ((Aa al).other (B:=g) (fun k y E=>by have:=Aa HA k y E;have:=Aa A;omega) 6 (.string T));obtain⟨m0,m1,m2,m3,m4,m5,m6⟩:=(Aa T4).at;have mf:=(Aa T4).frz;by_cases ao:19+((dZ s:Nat):Int)<(s.size:Int)
     ·have HB:=Ab (show¬Cs s/\¬Ct s from⟨by rintro(h|h);exact Aa V h;have:=h.2;have:=Aa H;omega,fun h=>by have:=h.2.2.2;have:=Aa H;omega⟩)
      clear m0 m1 m2 m3 m4 m5;have f0:=mf 6;clear mf;obtain⟨n0,n1,n2,n3,n4,n5,n6⟩:=(Aa S2).at;have nf:=(Aa S2).frz;obtain⟨N,O,P,k3,Q,R,S⟩:=(Aa T2).at;have kf:=(Aa T2).frz;go_wp2;have q:=Ab ((Aa S2).sets (.int .i64 0) (.int .i64 0) (.int .i64 0) (.int .i64 0) (.int .i64 0) (.slice none 0 0) (.string ⟨#[]⟩));have b:=Ab (BZ (Aa B6) (Nat.le_refl _) (.int .i64 0) (.int .i64 0) (.int .i64 0) (.int .i64 0) (.int .i64 0) (.slice none 0 0) (.string ⟨#[]⟩));exact bodyPost_ret (Gg rfl rfl (Aa q)) rfl (GG (en:=3) (.inr ⟨(Aa HB).1,(Aa HB).2,rfl⟩) (Aa b))
     ·have z:=Ab (show s.size=19+dZ s by have:=Aa ab;omega)
      have X:=Ab (show¬Cs s from by rintro(h|h);exact Aa V h;have:=h.2;have:=Aa H;omega);obtain⟨n0,n1,n2,n3,n4,n5,n6⟩:=(Aa S4).at;obtain⟨ck,ae⟩:=KO (BS (dO s) (dL s) (dK s) (dZ s) (dH s) xs T.size);have HC:=Ab ae;clear ae;go_wp2_with fail;refine(EU _ _ _ _ _ c xs.length c1 xs T _ (Aa aa) ck (Aa HC)).mono ?_;rintro e w7 ⟨rfl,j⟩;have R4:=Ab ((Aa S4).below j);have I:=Ab ((Aa S2).below j);have B7:=Ab (Ad (Aa B6) j);have am:=Ab ((Aa aa).below j);clear j n0 n1 n2 n3 n4 n5 n6 m0 m1 m2 m3 m4 m5 m6 mf;rcases(Aa HC)with⟨G,rfl⟩|⟨G,rfl⟩
      ·rw[Aa C]at G
       have l:=Ab G;clear G HC;obtain⟨n0,n1,n2,n3,n4,n5,n6⟩:=(Aa R4).at;obtain⟨N,O,P,k3,Q,R,S⟩:=(Aa I).at;have kf:=(Aa I).frz;go_wp2;have q:=Ab ((Aa I).sets (.int .i64 ((dO s:Nat):Int)) (.int .i64 ((dL s:Nat):Int)) (.int .i64 ((dK s:Nat):Int)) (.int .i64 ((dZ s:Nat):Int)) (.int .i64 ((dH s:Nat):Int)) (.slice c xs.length c1) (.string T));have b:=Ab (BZ (Aa B7) (Nat.le_refl _) (.int .i64 ((dO s:Nat):Int)) (.int .i64 ((dL s:Nat):Int)) (.int .i64 ((dK s:Nat):Int)) (.int .i64 ((dZ s:Nat):Int)) (.int .i64 ((dH s:Nat):Int)) (.slice c xs.length c1) (.string T));have r:=Ab ((Aa am).other7 (B:=w.heap.size) (fun k y E=>by have:=Aa HA k y E;have:=Aa A;omega) (.int .i64 ((dO s:Nat):Int)) (.int .i64 ((dL s:Nat):Int)) (.int .i64 ((dK s:Nat):Int)) (.int .i64 ((dZ s:Nat):Int)) (.int .i64 ((dH s:Nat):Int)) (.slice c xs.length c1) (.string T));have n:=Aa W (Aa z);have hX:=n.2 (Aa l);exact bodyPost_ret (Gg rfl rfl (Aa q)) rfl ⟨_,_,_,_,_,c,xs.length,c1,xs,T,0,rfl,Aa r,(fun k y E=>Nat.le_trans (Aa ak) (Aa HA k y E)),.inr (.inr ⟨Aa X,n.1.1 (Aa l),rfl,rfl,rfl,rfl,rfl,rfl,hX,by rw[<-Aa HT,Aa H,Aa z]⟩),Aa b⟩
      ·rw[Aa C]at G
       have l:=Ab G;clear G HC;obtain⟨N,O,P,k3,Q,R,S⟩:=(Aa I).at;have kf:=(Aa I).frz;go_wp2;have q:=Ab ((Aa I).sets (.int .i64 0) (.int .i64 0) (.int .i64 0) (.int .i64 0) (.int .i64 0) (.slice none 0 0) (.string ⟨#[]⟩));have b:=Ab (BZ (Aa B7) (Nat.le_refl _) (.int .i64 0) (.int .i64 0) (.int .i64 0) (.int .i64 0) (.int .i64 0) (.slice none 0 0) (.string ⟨#[]⟩));have n:=Aa W (Aa z);exact bodyPost_ret (Gg rfl rfl (Aa q)) rfl (GG (en:=3) (.inr ⟨Aa X,fun h=>Aa l (n.1.2 h),rfl⟩) (Aa b))
   ·rw[hN]at HZ
    have H:=Ab (show dN s=27 from by unfold dN;rw[hN]);have HS:=Ab hN;clear hN;by_cases ag:(s.size:Int)<27+((dZ s:Nat):Int)
    ·have HF:=Ab (show Cs s from .inr ⟨(Aa H1).1 rfl,by have:=Aa H;omega⟩)
     go_wp2_with fail;refine(Aa HZ _).mono ?_;rintro e w' ⟨rfl,hw⟩;obtain rfl:=hw.symm;clear hw N O P Q R S;obtain⟨N,O,P,k3,Q,R,S⟩:=(Aa J).at;have f:=(Aa J).frz;go_wp2;have q:=Ab ((Aa J).sets (.int .i64 0) (.int .i64 0) (.int .i64 0) (.int .i64 0) (.int .i64 0) (.slice none 0 0) (.string ⟨#[]⟩));have b:=Ab (BZ (Aa B2) (Nat.le_refl _) (.int .i64 0) (.int .i64 0) (.int .i64 0) (.int .i64 0) (.int .i64 0) (.slice none 0 0) (.string ⟨#[]⟩));exact bodyPost_ret (Gg rfl rfl (Aa q)) rfl (GG (en:=2) (.inl ⟨Aa HF,rfl⟩) (Aa b))
    ·have hD:(27:Int)<=(s.size:Int):=by omega
     have ab:=Ab (show 27+dZ s<=s.size by omega);have HG:=Ab (fun wx=>RX (s.extract 11 27) ((dK s:Nat):Int) wx (by rw[ByteArray.size_extract];omega));go_wp2_with fail;refine(Aa HZ _).mono ?_;rintro e w' ⟨rfl,hw⟩;obtain rfl:=hw.symm;clear hw N O Q R S;go_wp2_with fail;refine wp_region_any (by kernel_rfl) ?_;change wpAny _ _ _ _ _ _ _ (World.drew _);refine wpAny_take (i:=0) (v:=?_) rfl (by kernel_rfl) (by kernel_rfl) (by kernel_rfl) (fun _ _ _ h=>h) (Or.inl ⟨by rfl,?f0⟩) ?_
     case f0=>(intro w;go_simp;try with_reducible rfl)
     refine wpAny_take (i:=1) (v:=?_) rfl (by kernel_rfl) (by kernel_rfl) (by kernel_rfl) (fun _ _ _ h=>h) (Or.inl ⟨by rfl,?f1⟩) ?_
     case f1=>(intro w;go_simp;try with_reducible rfl)
     refine wpAny_take (i:=2) (v:=?_) rfl (by kernel_rfl) (by kernel_rfl) (by kernel_rfl) (fun _ _ _ h=>h) (Or.inl ⟨by rfl,?f2⟩) ?_
     case f2=>(intro w;go_simp;try with_reducible rfl)
     refine wpAny_take (i:=3) (v:=?_) rfl (by kernel_rfl) (by kernel_rfl) (by kernel_rfl) (fun _ _ _ h=>h) (Or.inl ⟨by rfl,?f3⟩) ?_
     case f3=>(intro w;go_simp;try with_reducible rfl)
     refine wpAny_ready (rs:=[4]) (by kernel_rfl) (by simp) ?_;refine AllReady.cons rfl (fun K o=>?_) AllReady.nil;go_simp;refine o _ _ ?_;clear o K;refine wpAny_ready (rs:=[5]) (by kernel_rfl) (by simp) ?_;refine AllReady.cons rfl (fun K o=>?_) AllReady.nil;go_simp;refine(Aa HG _).mono ?_;rintro e w3 ⟨v,xs,en,rfl,ho,u,ac⟩;obtain⟨c,c1,rfl,af⟩:=ho.row;have HA:Hid (∀k,c=some k->xs.length≠0->w2.heap.size<=k.block):=Ab (ho.apart);have ak:=Ab (show w.heap.size<=w2.heap.size from(Aa B2).size);have Y:=Ab af;have HP:=Ab u;have m:Below w2.heap.size w2 w3:=(Below.refl _ _).drew.trans ac;have V2:=Ab ((Aa J).below m);have V4:=Ab ((Aa Z4).below m);have B3:=Ab (Ad (Aa B2) m);have A:=Ab (show g<w2.heap.size from(Aa Z4).lt);clear ho af u ac m J Z4 B2 HG HZ;refine o _ _ ?_;clear o K;refine wpAny_take (i:=6) (v:=?_) rfl (by kernel_rfl) (by kernel_rfl) (by kernel_rfl) (fun _ _ _ h=>h) (Or.inl ⟨by rfl,?f6⟩) ?_
     case f6=>(intro w;go_simp;try with_reducible rfl)
     refine wpAny_take (i:=7) (v:=?_) rfl (by kernel_rfl) (by kernel_rfl) (by kernel_rfl) (fun _ _ _ h=>h) (Or.inl ⟨by rfl,?f7⟩) ?_
     case f7=>(intro w;go_simp;try with_reducible rfl)
     refine wpAny_take (i:=8) (v:=?_) rfl (by kernel_rfl) (by kernel_rfl) (by kernel_rfl) (fun _ _ _ h=>h) (Or.inl ⟨by rfl,?f8⟩) ?_
     case f8=>(intro w;go_simp;try with_reducible rfl)
     refine wpAny_take (i:=9) (v:=?_) rfl (by kernel_rfl) (by kernel_rfl) (by kernel_rfl) (fun _ _ _ h=>h) (Or.inl ⟨by rfl,?f9⟩) ?_
     case f9=>(intro w;go_simp;try with_reducible rfl)
     refine wpAny_take (i:=10) (v:=?_) rfl (by kernel_rfl) (by kernel_rfl) (by kernel_rfl) (fun _ _ _ h=>h) (Or.inl ⟨by rfl,?f10⟩) ?_
     case f10=>(intro w;go_simp;try with_reducible rfl)
     obtain⟨m0,m1,m2,m3,m4,m5,m6⟩:=(Aa V4).at;have mf:=(Aa V4).frz;refine wpAny_ready (rs:=[11]) (by kernel_rfl) (by simp) ?_;refine AllReady.cons rfl (fun K o=>?_) AllReady.nil;go_simp;refine o _ _ ?_;clear o K;refine wpAny_done (by kernel_rfl) ?_ _;clear m0 m1 m2 m3 m4 m5 m6 mf;have U4:=Ab ((Aa V4).set5 (.slice c xs.length c1));have U2:=Ab ((Aa V2).other (a:=⟨g,5,none⟩) (Nat.ne_of_lt x) (.slice c xs.length c1));have B4:=Ab ((Aa B3).setCell (p:=⟨g,5,none⟩) (Nat.le_of_lt x) (.slice c xs.length c1));have Z:=Ab ((Aa Y).other (B:=g) (fun k y E=>by have:=Aa HA k y E;have:=Aa A;omega) 5 (.slice c xs.length c1));clear V4 V2 B3 Y;generalize w3.setCell ⟨g,5,none⟩ (.slice c xs.length c1)=w4 at*;go_wp2_with fail;refine(GB (s.extract 27 (27+dZ s)) _ (by rw[ByteArray.size_extract];omega)).mono ?_;rintro e w5 ⟨rfl,d⟩;have T4:=Ab ((Aa U4).below d);have T2:=Ab ((Aa U2).below d);have B5:=Ab (Ad (Aa B4) d);have al:=Ab ((Aa Z).below d);have C:=Ab (show(s.extract 27 (27+dZ s)).size=dZ s by have:=Aa ab;rw[ByteArray.size_extract];omega);have W:=Ab (fun ag=>Ua (s:=s) (D:=27) (Aa H) ag (by have:=Aa HS;omega) (Aa HP));obtain⟨T,hT⟩:∃T,s.extract 27 (27+dZ s)=T:=⟨_,rfl⟩;have HT:=Ab hT;rw[hT]at C;rw[hT];clear hT;clear d U4 U2 B4 Z P k3;have S4:=Ab ((Aa T4).set6 (.string T));have S2:=Ab ((Aa T2).other (a:=⟨g,6,none⟩) (Nat.ne_of_lt x) (.string T));have B6:=Ab ((Aa B5).setCell (p:=⟨g,6,none⟩) (Nat.le_of_lt x) (.string T));have aa:=Ab ((Aa al).other (B:=g) (fun k y E=>by have:=Aa HA k y E;have:=Aa A;omega) 6 (.string T));obtain⟨m0,m1,m2,m3,m4,m5,m6⟩:=(Aa T4).at;have mf:=(Aa T4).frz;by_cases ao:27+((dZ s:Nat):Int)<(s.size:Int)
     ·have HB:=Ab (show¬Cs s/\¬Ct s from⟨by rintro(h|h);exact Aa V h;have:=h.2;have:=Aa H;omega,fun h=>by have:=h.2.2.2;have:=Aa H;omega⟩)
      clear m0 m1 m2 m3 m4 m5;have f0:=mf 6;clear mf;obtain⟨n0,n1,n2,n3,n4,n5,n6⟩:=(Aa S2).at;have nf:=(Aa S2).frz;obtain⟨N,O,P,k3,Q,R,S⟩:=(Aa T2).at;have kf:=(Aa T2).frz;go_wp2;have q:=Ab ((Aa S2).sets (.int .i64 0) (.int .i64 0) (.int .i64 0) (.int .i64 0) (.int .i64 0) (.slice none 0 0) (.string ⟨#[]⟩));have b:=Ab (BZ (Aa B6) (Nat.le_refl _) (.int .i64 0) (.int .i64 0) (.int .i64 0) (.int .i64 0) (.int .i64 0) (.slice none 0 0) (.string ⟨#[]⟩));exact bodyPost_ret (Gg rfl rfl (Aa q)) rfl (GG (en:=3) (.inr ⟨(Aa HB).1,(Aa HB).2,rfl⟩) (Aa b))
     ·have z:=Ab (show s.size=27+dZ s by have:=Aa ab;omega)
      have X:=Ab (show¬Cs s from by rintro(h|h);exact Aa V h;have:=h.2;have:=Aa H;omega);obtain⟨n0,n1,n2,n3,n4,n5,n6⟩:=(Aa S4).at;obtain⟨ck,ae⟩:=KO (BS (dO s) (dL s) (dK s) (dZ s) (dH s) xs T.size);have HC:=Ab ae;clear ae;go_wp2_with fail;refine(EU _ _ _ _ _ c xs.length c1 xs T _ (Aa aa) ck (Aa HC)).mono ?_;rintro e w7 ⟨rfl,j⟩;have R4:=Ab ((Aa S4).below j);have I:=Ab ((Aa S2).below j);have B7:=Ab (Ad (Aa B6) j);have am:=Ab ((Aa aa).below j);clear j n0 n1 n2 n3 n4 n5 n6 m0 m1 m2 m3 m4 m5 m6 mf;rcases(Aa HC)with⟨G,rfl⟩|⟨G,rfl⟩
      ·rw[Aa C]at G
       have l:=Ab G;clear G HC;obtain⟨n0,n1,n2,n3,n4,n5,n6⟩:=(Aa R4).at;obtain⟨N,O,P,k3,Q,R,S⟩:=(Aa I).at;have kf:=(Aa I).frz;go_wp2;have q:=Ab ((Aa I).sets (.int .i64 ((dO s:Nat):Int)) (.int .i64 ((dL s:Nat):Int)) (.int .i64 ((dK s:Nat):Int)) (.int .i64 ((dZ s:Nat):Int)) (.int .i64 ((dH s:Nat):Int)) (.slice c xs.length c1) (.string T));have b:=Ab (BZ (Aa B7) (Nat.le_refl _) (.int .i64 ((dO s:Nat):Int)) (.int .i64 ((dL s:Nat):Int)) (.int .i64 ((dK s:Nat):Int)) (.int .i64 ((dZ s:Nat):Int)) (.int .i64 ((dH s:Nat):Int)) (.slice c xs.length c1) (.string T));have r:=Ab ((Aa am).other7 (B:=w.heap.size) (fun k y E=>by have:=Aa HA k y E;have:=Aa A;omega) (.int .i64 ((dO s:Nat):Int)) (.int .i64 ((dL s:Nat):Int)) (.int .i64 ((dK s:Nat):Int)) (.int .i64 ((dZ s:Nat):Int)) (.int .i64 ((dH s:Nat):Int)) (.slice c xs.length c1) (.string T));have n:=Aa W (Aa z);have hX:=n.2 (Aa l);exact bodyPost_ret (Gg rfl rfl (Aa q)) rfl ⟨_,_,_,_,_,c,xs.length,c1,xs,T,0,rfl,Aa r,(fun k y E=>Nat.le_trans (Aa ak) (Aa HA k y E)),.inr (.inr ⟨Aa X,n.1.1 (Aa l),rfl,rfl,rfl,rfl,rfl,rfl,hX,by rw[<-Aa HT,Aa H,Aa z]⟩),Aa b⟩
      ·rw[Aa C]at G
       have l:=Ab G;clear G HC;obtain⟨N,O,P,k3,Q,R,S⟩:=(Aa I).at;have kf:=(Aa I).frz;go_wp2;have q:=Ab ((Aa I).sets (.int .i64 0) (.int .i64 0) (.int .i64 0) (.int .i64 0) (.int .i64 0) (.slice none 0 0) (.string ⟨#[]⟩));have b:=Ab (BZ (Aa B7) (Nat.le_refl _) (.int .i64 0) (.int .i64 0) (.int .i64 0) (.int .i64 0) (.int .i64 0) (.slice none 0 0) (.string ⟨#[]⟩));have n:=Aa W (Aa z);exact bodyPost_ret (Gg rfl rfl (Aa q)) rfl (GG (en:=3) (.inr ⟨Aa X,fun h=>Aa l (n.1.2 h),rfl⟩) (Aa b))
end Go.Proofs.YtfpfcnfmigaphaaGreatDoor
