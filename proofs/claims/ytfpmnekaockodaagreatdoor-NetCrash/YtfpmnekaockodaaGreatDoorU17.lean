/- Laws for the proof. -/
import Derived.Test.YtfpmnekaockodaaGreatDoorU16
import Derived.Test.YtfpmnekaockodaaGreatDoorU12
import Derived.Laws.ShiftsVarLaws
set_option linter.all false
open Go.Proofs.Tryz
open Go.Value renaming int->U,string->β,slice->γ,tuple->ψ
open Go.IntKind renaming i64->α
open Nat renaming le_refl->δ,mod_eq_of_lt->ξ,ne_of_lt->ρ,le_of_lt->ς,xor_lt_two_pow->υ,le_trans->φ,lt_trans->χ
open Go.Ending renaming returned->ε
open Or renaming inl->ζ
open Go.Proofs.Tryz renaming prog->η
open Go.AllReady renaming cons->θ,nil->μ
open List renaming drop_succ_cons->ι,getElem?_eq_getElem->κ,getD_eq_getElem?_getD->ο,length_take->π,take_of_length_le->σ
open Go renaming World->ν,Calls->τ
namespace Go.Proofs.YtfpmnekaockodaaGreatDoor
open Go.RowKit Go.Sort
set_option maxRecDepth 4000
set_option maxHeartbeats 8000000
def DF(w:ν)(a:Option Addr)(n:Nat):Prop:=∀b,a=some b->n≠0->w.heap.size<=b.block
def OU(w:ν)(n:Nat):DF w none n:=fun a h=>by cases h
def DF.mono{w w':ν}{a:Option Addr}{n:Nat}(h:DF w' a n)(f:w.heap.size<=w'.heap.size):DF w a n:=fun b d e=>φ f (h b d e)
def Rw(w:ν)(s:ByteArray)(e:Ending)(w':ν):Prop:=
 ∃(o l k z h:Int) (a:Option Addr) (n c:Nat) (xs:List Nat) (t:ByteArray) (en:Nat),e=ε (ψ #[.agg #[U α o,U α l,U α k,U α z,U α h,γ a n c,β t],U α ((en:Nat):Int)])/\
  RowAt w' a n xs/\DF w a n/\C4 s o l k z h xs t en/\Below w.heap.size w w'
def ID{w w':ν}{s:ByteArray}{en:Nat}(h:(DY s/\en=2)\/(¬DY s/\¬E2 s/\en=3))(f:Below w.heap.size w w'):
  Rw w s (ε (ψ #[.agg #[U α 0,U α 0,U α 0,U α 0,U α 0,γ none 0 0,β ⟨#[]⟩],U α ((en:Nat):Int)])) w':=by
 refine⟨0,0,0,0,0,none,0,0,[],⟨#[]⟩,en,rfl,C8 _,OU _ _,?_,f⟩;have d:Ft 0 0 0 0 0 [] ⟨#[]⟩:=⟨rfl,rfl,rfl,rfl,rfl,rfl,rfl⟩;rcases h with⟨a,b⟩|⟨a,b,e⟩
 ·exact .inl ⟨a,b,d⟩
 ·exact .inr (.inl ⟨a,b,e,d⟩)
def GI{tmps:Array Value}{W:ν}{g:Nat}{x:Int}{u0 u1 u2 u3 u4 u5 u6:Value}(d:tmps.getD 2 undef=.pointer (some ⟨g,0,none⟩))(e:tmps.getD 3 undef=U α x)(f:AS W g u0 u1 u2 u3 u4 u5 u6):
  (results Tryz.f152 tmps).run η W=.ok (ψ #[.agg #[u0,u1,u2,u3,u4,u5,u6],U α x]) W:=by
 obtain⟨i,j,m,n,p,q,r⟩:=f.at;have a:tmps[2]?.getD undef=.pointer (some ⟨g,0,none⟩):=by simpa using d
 have b:tmps[3]?.getD undef=U α x:=by simpa using e
 simp[results,Tryz.results152,go_sem,a,b,i,j,m,n,p,q,r]
def pC(s:ByteArray)(w:ν)(hs:s.size<=140737488351232):τ η 152 #[β s] w (Rw w s):=by
 by_cases am:s.size<11
 ·have au:((s.size:Int)<11):=by omega
  have HF:=Ab (show DY s from .inl am);clear am;go_enter func152,ntmps152;go_wp2;exact bodyPost_ret (GI rfl rfl (CC w (U α 0) (U α 0) (U α 0) (U α 0) (U α 0) (γ none 0 0) (β ⟨#[]⟩))) rfl (ID (en:=2) (.inl ⟨Aa HF,rfl⟩) (Bn w _))
 ·have au:¬((s.size:Int)<11):=by omega
  have aa:=Ab am;obtain⟨b1,S⟩:=EZ (Je (dK s) (dZ s));have H1:=Ab S;have HH:=Ab (fun wx=>pt s (by omega) wx);clear S am;have X2:=Ab (CC w (U α 0) (U α 0) (U α 0) (U α 0) (U α 0) (γ none 0 0) (β ⟨#[]⟩));go_enter func152,ntmps152;go_wp2_with fail;refine(Aa HH _).mono ?_;rintro e w1 ⟨rfl,S⟩;have y2:=(Aa X2).below S;have B1:=Ab (Ad (Bn w _) S);have Y2:=Ab (y2.below (Bn w1 (.cells #[U α ((dO s:Nat):Int),U α ((dL s:Nat):Int),U α ((dK s:Nat):Int),U α ((dZ s:Nat):Int),U α ((dH s:Nat):Int),γ none 0 0,β ⟨#[]⟩] 75)));have Y4:=Ab (CC w1 (U α ((dO s:Nat):Int)) (U α ((dL s:Nat):Int)) (U α ((dK s:Nat):Int)) (U α ((dZ s:Nat):Int)) (U α ((dH s:Nat):Int)) (γ none 0 0) (β ⟨#[]⟩));have E:=y2.lt;clear S y2 HH X2;go_wp2_with fail;refine(SN _ _ _ _ _ _ _ _ b1 (Aa H1)).mono ?_;rintro e w2 ⟨rfl,an⟩;have R:=Ab ((Aa Y2).below an);have Z4:=Ab ((Aa Y4).below an);have B2:=Ab (Qm (Aa B1) an);clear an Y2 Y4 B1;generalize w1.heap.size=g at*;cases b1
  ·have HB:=Ab (show¬DY s/\¬E2 s from⟨by rintro(h|h);exact Aa aa h;simpa using(Aa H1).2 h.1,fun h=>by simpa using(Aa H1).2 h.1.1⟩)
   obtain⟨V,W,X,k3,Y,Z,k6⟩:=(Aa R).at;have f:=(Aa R).frz;go_wp2;have q:=Ab ((Aa R).sets (U α 0) (U α 0) (U α 0) (U α 0) (U α 0) (γ none 0 0) (β ⟨#[]⟩));have b:=Ab (Cv (Aa B2) (δ _) (U α 0) (U α 0) (U α 0) (U α 0) (U α 0) (γ none 0 0) (β ⟨#[]⟩));exact bodyPost_ret (GI rfl rfl (Aa q)) rfl (ID (en:=3) (.inr ⟨(Aa HB).1,(Aa HB).2,rfl⟩) (Aa b))
  ·have ao:=(Aa H1).1 rfl
   obtain⟨V,W,X,k3,Y,Z,k6⟩:=(Aa Z4).at;have aw:(1:Int)<=((dZ s:Nat):Int):=ao.2.1;have ax:((dZ s:Nat):Int)<=64:=ao.2.2;have HZ:=Ab (fun wx=>Hr ((dK s:Nat):Int) wx);have hN:sizeOfK ((dK s:Nat):Int)=1\/sizeOfK ((dK s:Nat):Int)=2:=by
    have H:=ao.1;unfold sizeOfK;rw[if_neg (by omega)];omega
   clear ao;rcases hN with hN|hN
   ·rw[hN]at HZ
    have P:=Ab (show dN s=19 from by unfold dN;rw[hN]);have HS:=Ab hN;clear hN;by_cases al:(s.size:Int)<19+((dZ s:Nat):Int)
    ·have HF:=Ab (show DY s from .inr ⟨(Aa H1).1 rfl,by have:=Aa P;omega⟩)
     go_wp2_with fail;refine(Aa HZ _).mono ?_;rintro e w' ⟨rfl,hw⟩;obtain rfl:=hw.symm;clear hw V W X Y Z k6;obtain⟨V,W,X,k3,Y,Z,k6⟩:=(Aa R).at;have f:=(Aa R).frz;go_wp2;have q:=Ab ((Aa R).sets (U α 0) (U α 0) (U α 0) (U α 0) (U α 0) (γ none 0 0) (β ⟨#[]⟩));have b:=Ab (Cv (Aa B2) (δ _) (U α 0) (U α 0) (U α 0) (U α 0) (U α 0) (γ none 0 0) (β ⟨#[]⟩));exact bodyPost_ret (GI rfl rfl (Aa q)) rfl (ID (en:=2) (.inl ⟨Aa HF,rfl⟩) (Aa b))
    ·have hD:(19:Int)<=(s.size:Int):=by omega
     have ah:=Ab (show 19+dZ s<=s.size by omega);have HG:=Ab (fun wx=>Ta (s.extract 11 19) ((dK s:Nat):Int) wx (by rw[ByteArray.size_extract];omega));go_wp2_with fail;refine(Aa HZ _).mono ?_;rintro e w' ⟨rfl,hw⟩;obtain rfl:=hw.symm;clear hw V W Y Z k6;go_wp2_with fail;refine wp_region_any (by kernel_rfl) ?_;change wpAny _ _ _ _ _ _ _ (World.drew _);refine wpAny_take (i:=0) (v:=?_) rfl (by kernel_rfl) (by kernel_rfl) (by kernel_rfl) (fun _ _ _ h=>h) (ζ ⟨by rfl,?f0⟩) ?_
     case f0=>(intro w;go_simp;try with_reducible rfl)
     refine wpAny_take (i:=1) (v:=?_) rfl (by kernel_rfl) (by kernel_rfl) (by kernel_rfl) (fun _ _ _ h=>h) (ζ ⟨by rfl,?f1⟩) ?_
     case f1=>(intro w;go_simp;try with_reducible rfl)
     refine wpAny_take (i:=2) (v:=?_) rfl (by kernel_rfl) (by kernel_rfl) (by kernel_rfl) (fun _ _ _ h=>h) (ζ ⟨by rfl,?f2⟩) ?_
     case f2=>(intro w;go_simp;try with_reducible rfl)
     refine wpAny_take (i:=3) (v:=?_) rfl (by kernel_rfl) (by kernel_rfl) (by kernel_rfl) (fun _ _ _ h=>h) (ζ ⟨by rfl,?f3⟩) ?_
     case f3=>(intro w;go_simp;try with_reducible rfl)
     refine wpAny_ready (rs:=[4]) (by kernel_rfl) (by simp) ?_;refine θ rfl (fun K A=>?_) μ;go_simp;refine A _ _ ?_;clear A K;refine wpAny_ready (rs:=[5]) (by kernel_rfl) (by simp) ?_;refine θ rfl (fun K A=>?_) μ;go_simp;refine(Aa HG _).mono ?_;rintro e w3 ⟨v,xs,en,rfl,ho,C,ai⟩;obtain⟨d,c1,rfl,ak⟩:=ho.row;have HA:Hid (∀n,d=some n->xs.length≠0->w2.heap.size<=n.block):=Ab (ho.apart);have ap:=Ab (show w.heap.size<=w2.heap.size from(Aa B2).size);have ae:=Ab ak;have HP:=Ab C;have x:Below w2.heap.size w2 w3:=(Below.refl _ _).drew.trans ai;have V2:=Ab ((Aa R).below x);have V4:=Ab ((Aa Z4).below x);have B3:=Ab (Ad (Aa B2) x);have J:=Ab (show g<w2.heap.size from(Aa Z4).lt);clear ho ak C ai x R Z4 B2 HG HZ;refine A _ _ ?_;clear A K;refine wpAny_take (i:=6) (v:=?_) rfl (by kernel_rfl) (by kernel_rfl) (by kernel_rfl) (fun _ _ _ h=>h) (ζ ⟨by rfl,?f6⟩) ?_
     case f6=>(intro w;go_simp;try with_reducible rfl)
     refine wpAny_take (i:=7) (v:=?_) rfl (by kernel_rfl) (by kernel_rfl) (by kernel_rfl) (fun _ _ _ h=>h) (ζ ⟨by rfl,?f7⟩) ?_
     case f7=>(intro w;go_simp;try with_reducible rfl)
     refine wpAny_take (i:=8) (v:=?_) rfl (by kernel_rfl) (by kernel_rfl) (by kernel_rfl) (fun _ _ _ h=>h) (ζ ⟨by rfl,?f8⟩) ?_
     case f8=>(intro w;go_simp;try with_reducible rfl)
     refine wpAny_take (i:=9) (v:=?_) rfl (by kernel_rfl) (by kernel_rfl) (by kernel_rfl) (fun _ _ _ h=>h) (ζ ⟨by rfl,?f9⟩) ?_
     case f9=>(intro w;go_simp;try with_reducible rfl)
     refine wpAny_take (i:=10) (v:=?_) rfl (by kernel_rfl) (by kernel_rfl) (by kernel_rfl) (fun _ _ _ h=>h) (ζ ⟨by rfl,?f10⟩) ?_
     case f10=>(intro w;go_simp;try with_reducible rfl)
     obtain⟨m0,m1,m2,m3,m4,m5,m6⟩:=(Aa V4).at;have mf:=(Aa V4).frz;refine wpAny_ready (rs:=[11]) (by kernel_rfl) (by simp) ?_;refine θ rfl (fun K A=>?_) μ;go_simp;refine A _ _ ?_;clear A K;refine wpAny_done (by kernel_rfl) ?_ _;clear m0 m1 m2 m3 m4 m5 m6 mf;have U4:=Ab ((Aa V4).set5 (γ d xs.length c1));have U2:=Ab ((Aa V2).other (a:=⟨g,5,none⟩) (ρ E) (γ d xs.length c1));have B4:=Ab ((Aa B3).setCell (p:=⟨g,5,none⟩) (ς E) (γ d xs.length c1));have af:=Ab ((Aa ae).other (B:=g) (fun n H N=>by have:=Aa HA n H N;have:=Aa J;omega) 5 (γ d xs.length c1));clear V4 V2 B3 ae;generalize w3.setCell ⟨g,5,none⟩ (γ d xs.length c1)=w4 at*;go_wp2_with fail;refine(GR (s.extract 19 (19+dZ s)) _ (by rw[ByteArray.size_extract];omega)).mono ?_;rintro e w5 ⟨rfl,j⟩;have T4:=Ab ((Aa U4).below j);have T2:=Ab ((Aa U2).below j);have B5:=Ab (Ad (Aa B4) j);have aq:=Ab ((Aa af).below j);have L:=Ab (show(s.extract 19 (19+dZ s)).size=dZ s by have:=Aa ah;rw[ByteArray.size_extract];omega);have ab:=Ab (fun al=>Vn (s:=s) (D:=19) (Aa P) al (by have:=Aa HS;omega) (Aa HP));obtain⟨T,hT⟩:∃T,s.extract 19 (19+dZ s)=T:=⟨_,rfl⟩;have HT:=Ab hT;rw[hT]at L;rw[hT];clear hT;clear j U4 U2 B4 af X k3;have S4:=Ab ((Aa T4).set6 (β T));have S2:=Ab ((Aa T2).other (a:=⟨g,6,none⟩) (ρ E) (β T));have B6:=Ab ((Aa B5).setCell (p:=⟨g,6,none⟩) (ς E) (β T));have ag:=Ab ((Aa aq).other (B:=g) (fun n H N=>by have:=Aa HA n H N;have:=Aa J;omega) 6 (β T));obtain⟨m0,m1,m2,m3,m4,m5,m6⟩:=(Aa T4).at;have mf:=(Aa T4).frz;by_cases av:19+((dZ s:Nat):Int)<(s.size:Int)
     ·have HB:=Ab (show¬DY s/\¬E2 s from⟨by rintro(h|h);exact Aa aa h;have:=h.2;have:=Aa P;omega,fun h=>by have:=h.2.2.2;have:=Aa P;omega⟩)
      clear m0 m1 m2 m3 m4 m5;have f0:=mf 6;clear mf;obtain⟨n0,n1,n2,n3,n4,n5,n6⟩:=(Aa S2).at;have nf:=(Aa S2).frz;obtain⟨V,W,X,k3,Y,Z,k6⟩:=(Aa T2).at;have kf:=(Aa T2).frz;go_wp2;have q:=Ab ((Aa S2).sets (U α 0) (U α 0) (U α 0) (U α 0) (U α 0) (γ none 0 0) (β ⟨#[]⟩));have b:=Ab (Cv (Aa B6) (δ _) (U α 0) (U α 0) (U α 0) (U α 0) (U α 0) (γ none 0 0) (β ⟨#[]⟩));exact bodyPost_ret (GI rfl rfl (Aa q)) rfl (ID (en:=3) (.inr ⟨(Aa HB).1,(Aa HB).2,rfl⟩) (Aa b))
     ·have I:=Ab (show s.size=19+dZ s by have:=Aa ah;omega)
      have ac:=Ab (show¬DY s from by rintro(h|h);exact Aa aa h;have:=h.2;have:=Aa P;omega);obtain⟨n0,n1,n2,n3,n4,n5,n6⟩:=(Aa S4).at;obtain⟨ck,aj⟩:=Nl (Cd (dO s) (dL s) (dK s) (dZ s) (dH s) xs T.size);have HC:=Ab aj;clear aj;go_wp2_with fail;refine(ES _ _ _ _ _ d xs.length c1 xs T _ (Aa ag) ck (Aa HC)).mono ?_;rintro e w7 ⟨rfl,m⟩;have R4:=Ab ((Aa S4).below m);have Q:=Ab ((Aa S2).below m);have B7:=Ab (Ad (Aa B6) m);have ar:=Ab ((Aa ag).below m);clear m n0 n1 n2 n3 n4 n5 n6 m0 m1 m2 m3 m4 m5 m6 mf;rcases(Aa HC)with⟨O,rfl⟩|⟨O,rfl⟩
      ·rw[Aa L]at O
       have u:=Ab O;clear O HC;obtain⟨n0,n1,n2,n3,n4,n5,n6⟩:=(Aa R4).at;obtain⟨V,W,X,k3,Y,Z,k6⟩:=(Aa Q).at;have kf:=(Aa Q).frz;go_wp2;have q:=Ab ((Aa Q).sets (U α ((dO s:Nat):Int)) (U α ((dL s:Nat):Int)) (U α ((dK s:Nat):Int)) (U α ((dZ s:Nat):Int)) (U α ((dH s:Nat):Int)) (γ d xs.length c1) (β T));have b:=Ab (Cv (Aa B7) (δ _) (U α ((dO s:Nat):Int)) (U α ((dL s:Nat):Int)) (U α ((dK s:Nat):Int)) (U α ((dZ s:Nat):Int)) (U α ((dH s:Nat):Int)) (γ d xs.length c1) (β T));have r:=Ab ((Aa ar).other7 (B:=w.heap.size) (fun n H N=>by have:=Aa HA n H N;have:=Aa J;omega) (U α ((dO s:Nat):Int)) (U α ((dL s:Nat):Int)) (U α ((dK s:Nat):Int)) (U α ((dZ s:Nat):Int)) (U α ((dH s:Nat):Int)) (γ d xs.length c1) (β T));have y:=Aa ab (Aa I);have hX:=y.2 (Aa u);exact bodyPost_ret (GI rfl rfl (Aa q)) rfl ⟨_,_,_,_,_,d,xs.length,c1,xs,T,0,rfl,Aa r,(fun n H N=>φ (Aa ap) (Aa HA n H N)),.inr (.inr ⟨Aa ac,y.1.1 (Aa u),rfl,rfl,rfl,rfl,rfl,rfl,hX,by rw[<-Aa HT,Aa P,Aa I]⟩),Aa b⟩
      ·rw[Aa L]at O
       have u:=Ab O;clear O HC;obtain⟨V,W,X,k3,Y,Z,k6⟩:=(Aa Q).at;have kf:=(Aa Q).frz;go_wp2;have q:=Ab ((Aa Q).sets (U α 0) (U α 0) (U α 0) (U α 0) (U α 0) (γ none 0 0) (β ⟨#[]⟩));have b:=Ab (Cv (Aa B7) (δ _) (U α 0) (U α 0) (U α 0) (U α 0) (U α 0) (γ none 0 0) (β ⟨#[]⟩));have y:=Aa ab (Aa I);exact bodyPost_ret (GI rfl rfl (Aa q)) rfl (ID (en:=3) (.inr ⟨Aa ac,fun h=>Aa u (y.1.2 h),rfl⟩) (Aa b))
   ·rw[hN]at HZ
    have P:=Ab (show dN s=27 from by unfold dN;rw[hN]);have HS:=Ab hN;clear hN;by_cases al:(s.size:Int)<27+((dZ s:Nat):Int)
    ·have HF:=Ab (show DY s from .inr ⟨(Aa H1).1 rfl,by have:=Aa P;omega⟩)
     go_wp2_with fail;refine(Aa HZ _).mono ?_;rintro e w' ⟨rfl,hw⟩;obtain rfl:=hw.symm;clear hw V W X Y Z k6;obtain⟨V,W,X,k3,Y,Z,k6⟩:=(Aa R).at;have f:=(Aa R).frz;go_wp2;have q:=Ab ((Aa R).sets (U α 0) (U α 0) (U α 0) (U α 0) (U α 0) (γ none 0 0) (β ⟨#[]⟩));have b:=Ab (Cv (Aa B2) (δ _) (U α 0) (U α 0) (U α 0) (U α 0) (U α 0) (γ none 0 0) (β ⟨#[]⟩));exact bodyPost_ret (GI rfl rfl (Aa q)) rfl (ID (en:=2) (.inl ⟨Aa HF,rfl⟩) (Aa b))
    ·have hD:(27:Int)<=(s.size:Int):=by omega
     have ah:=Ab (show 27+dZ s<=s.size by omega);have HG:=Ab (fun wx=>Ta (s.extract 11 27) ((dK s:Nat):Int) wx (by rw[ByteArray.size_extract];omega));go_wp2_with fail;refine(Aa HZ _).mono ?_;rintro e w' ⟨rfl,hw⟩;obtain rfl:=hw.symm;clear hw V W Y Z k6;go_wp2_with fail;refine wp_region_any (by kernel_rfl) ?_;change wpAny _ _ _ _ _ _ _ (World.drew _);refine wpAny_take (i:=0) (v:=?_) rfl (by kernel_rfl) (by kernel_rfl) (by kernel_rfl) (fun _ _ _ h=>h) (ζ ⟨by rfl,?f0⟩) ?_
     case f0=>(intro w;go_simp;try with_reducible rfl)
     refine wpAny_take (i:=1) (v:=?_) rfl (by kernel_rfl) (by kernel_rfl) (by kernel_rfl) (fun _ _ _ h=>h) (ζ ⟨by rfl,?f1⟩) ?_
     case f1=>(intro w;go_simp;try with_reducible rfl)
     refine wpAny_take (i:=2) (v:=?_) rfl (by kernel_rfl) (by kernel_rfl) (by kernel_rfl) (fun _ _ _ h=>h) (ζ ⟨by rfl,?f2⟩) ?_
     case f2=>(intro w;go_simp;try with_reducible rfl)
     refine wpAny_take (i:=3) (v:=?_) rfl (by kernel_rfl) (by kernel_rfl) (by kernel_rfl) (fun _ _ _ h=>h) (ζ ⟨by rfl,?f3⟩) ?_
     case f3=>(intro w;go_simp;try with_reducible rfl)
     refine wpAny_ready (rs:=[4]) (by kernel_rfl) (by simp) ?_;refine θ rfl (fun K A=>?_) μ;go_simp;refine A _ _ ?_;clear A K;refine wpAny_ready (rs:=[5]) (by kernel_rfl) (by simp) ?_;refine θ rfl (fun K A=>?_) μ;go_simp;refine(Aa HG _).mono ?_;rintro e w3 ⟨v,xs,en,rfl,ho,C,ai⟩;obtain⟨d,c1,rfl,ak⟩:=ho.row;have HA:Hid (∀n,d=some n->xs.length≠0->w2.heap.size<=n.block):=Ab (ho.apart);have ap:=Ab (show w.heap.size<=w2.heap.size from(Aa B2).size);have ae:=Ab ak;have HP:=Ab C;have x:Below w2.heap.size w2 w3:=(Below.refl _ _).drew.trans ai;have V2:=Ab ((Aa R).below x);have V4:=Ab ((Aa Z4).below x);have B3:=Ab (Ad (Aa B2) x);have J:=Ab (show g<w2.heap.size from(Aa Z4).lt);clear ho ak C ai x R Z4 B2 HG HZ;refine A _ _ ?_;clear A K;refine wpAny_take (i:=6) (v:=?_) rfl (by kernel_rfl) (by kernel_rfl) (by kernel_rfl) (fun _ _ _ h=>h) (ζ ⟨by rfl,?f6⟩) ?_
     case f6=>(intro w;go_simp;try with_reducible rfl)
     refine wpAny_take (i:=7) (v:=?_) rfl (by kernel_rfl) (by kernel_rfl) (by kernel_rfl) (fun _ _ _ h=>h) (ζ ⟨by rfl,?f7⟩) ?_
     case f7=>(intro w;go_simp;try with_reducible rfl)
     refine wpAny_take (i:=8) (v:=?_) rfl (by kernel_rfl) (by kernel_rfl) (by kernel_rfl) (fun _ _ _ h=>h) (ζ ⟨by rfl,?f8⟩) ?_
     case f8=>(intro w;go_simp;try with_reducible rfl)
     refine wpAny_take (i:=9) (v:=?_) rfl (by kernel_rfl) (by kernel_rfl) (by kernel_rfl) (fun _ _ _ h=>h) (ζ ⟨by rfl,?f9⟩) ?_
     case f9=>(intro w;go_simp;try with_reducible rfl)
     refine wpAny_take (i:=10) (v:=?_) rfl (by kernel_rfl) (by kernel_rfl) (by kernel_rfl) (fun _ _ _ h=>h) (ζ ⟨by rfl,?f10⟩) ?_
     case f10=>(intro w;go_simp;try with_reducible rfl)
     obtain⟨m0,m1,m2,m3,m4,m5,m6⟩:=(Aa V4).at;have mf:=(Aa V4).frz;refine wpAny_ready (rs:=[11]) (by kernel_rfl) (by simp) ?_;refine θ rfl (fun K A=>?_) μ;go_simp;refine A _ _ ?_;clear A K;refine wpAny_done (by kernel_rfl) ?_ _;clear m0 m1 m2 m3 m4 m5 m6 mf;have U4:=Ab ((Aa V4).set5 (γ d xs.length c1));have U2:=Ab ((Aa V2).other (a:=⟨g,5,none⟩) (ρ E) (γ d xs.length c1));have B4:=Ab ((Aa B3).setCell (p:=⟨g,5,none⟩) (ς E) (γ d xs.length c1));have af:=Ab ((Aa ae).other (B:=g) (fun n H N=>by have:=Aa HA n H N;have:=Aa J;omega) 5 (γ d xs.length c1));clear V4 V2 B3 ae;generalize w3.setCell ⟨g,5,none⟩ (γ d xs.length c1)=w4 at*;go_wp2_with fail;refine(GR (s.extract 27 (27+dZ s)) _ (by rw[ByteArray.size_extract];omega)).mono ?_;rintro e w5 ⟨rfl,j⟩;have T4:=Ab ((Aa U4).below j);have T2:=Ab ((Aa U2).below j);have B5:=Ab (Ad (Aa B4) j);have aq:=Ab ((Aa af).below j);have L:=Ab (show(s.extract 27 (27+dZ s)).size=dZ s by have:=Aa ah;rw[ByteArray.size_extract];omega);have ab:=Ab (fun al=>Vn (s:=s) (D:=27) (Aa P) al (by have:=Aa HS;omega) (Aa HP));obtain⟨T,hT⟩:∃T,s.extract 27 (27+dZ s)=T:=⟨_,rfl⟩;have HT:=Ab hT;rw[hT]at L;rw[hT];clear hT;clear j U4 U2 B4 af X k3;have S4:=Ab ((Aa T4).set6 (β T));have S2:=Ab ((Aa T2).other (a:=⟨g,6,none⟩) (ρ E) (β T));have B6:=Ab ((Aa B5).setCell (p:=⟨g,6,none⟩) (ς E) (β T));have ag:=Ab ((Aa aq).other (B:=g) (fun n H N=>by have:=Aa HA n H N;have:=Aa J;omega) 6 (β T));obtain⟨m0,m1,m2,m3,m4,m5,m6⟩:=(Aa T4).at;have mf:=(Aa T4).frz;by_cases av:27+((dZ s:Nat):Int)<(s.size:Int)
     ·have HB:=Ab (show¬DY s/\¬E2 s from⟨by rintro(h|h);exact Aa aa h;have:=h.2;have:=Aa P;omega,fun h=>by have:=h.2.2.2;have:=Aa P;omega⟩)
      clear m0 m1 m2 m3 m4 m5;have f0:=mf 6;clear mf;obtain⟨n0,n1,n2,n3,n4,n5,n6⟩:=(Aa S2).at;have nf:=(Aa S2).frz;obtain⟨V,W,X,k3,Y,Z,k6⟩:=(Aa T2).at;have kf:=(Aa T2).frz;go_wp2;have q:=Ab ((Aa S2).sets (U α 0) (U α 0) (U α 0) (U α 0) (U α 0) (γ none 0 0) (β ⟨#[]⟩));have b:=Ab (Cv (Aa B6) (δ _) (U α 0) (U α 0) (U α 0) (U α 0) (U α 0) (γ none 0 0) (β ⟨#[]⟩));exact bodyPost_ret (GI rfl rfl (Aa q)) rfl (ID (en:=3) (.inr ⟨(Aa HB).1,(Aa HB).2,rfl⟩) (Aa b))
     ·have I:=Ab (show s.size=27+dZ s by have:=Aa ah;omega)
      have ac:=Ab (show¬DY s from by rintro(h|h);exact Aa aa h;have:=h.2;have:=Aa P;omega);obtain⟨n0,n1,n2,n3,n4,n5,n6⟩:=(Aa S4).at;obtain⟨ck,aj⟩:=Nl (Cd (dO s) (dL s) (dK s) (dZ s) (dH s) xs T.size);have HC:=Ab aj;clear aj;go_wp2_with fail;refine(ES _ _ _ _ _ d xs.length c1 xs T _ (Aa ag) ck (Aa HC)).mono ?_;rintro e w7 ⟨rfl,m⟩;have R4:=Ab ((Aa S4).below m);have Q:=Ab ((Aa S2).below m);have B7:=Ab (Ad (Aa B6) m);have ar:=Ab ((Aa ag).below m);clear m n0 n1 n2 n3 n4 n5 n6 m0 m1 m2 m3 m4 m5 m6 mf;rcases(Aa HC)with⟨O,rfl⟩|⟨O,rfl⟩
      ·rw[Aa L]at O
       have u:=Ab O;clear O HC;obtain⟨n0,n1,n2,n3,n4,n5,n6⟩:=(Aa R4).at;obtain⟨V,W,X,k3,Y,Z,k6⟩:=(Aa Q).at;have kf:=(Aa Q).frz;go_wp2;have q:=Ab ((Aa Q).sets (U α ((dO s:Nat):Int)) (U α ((dL s:Nat):Int)) (U α ((dK s:Nat):Int)) (U α ((dZ s:Nat):Int)) (U α ((dH s:Nat):Int)) (γ d xs.length c1) (β T));have b:=Ab (Cv (Aa B7) (δ _) (U α ((dO s:Nat):Int)) (U α ((dL s:Nat):Int)) (U α ((dK s:Nat):Int)) (U α ((dZ s:Nat):Int)) (U α ((dH s:Nat):Int)) (γ d xs.length c1) (β T));have r:=Ab ((Aa ar).other7 (B:=w.heap.size) (fun n H N=>by have:=Aa HA n H N;have:=Aa J;omega) (U α ((dO s:Nat):Int)) (U α ((dL s:Nat):Int)) (U α ((dK s:Nat):Int)) (U α ((dZ s:Nat):Int)) (U α ((dH s:Nat):Int)) (γ d xs.length c1) (β T));have y:=Aa ab (Aa I);have hX:=y.2 (Aa u);exact bodyPost_ret (GI rfl rfl (Aa q)) rfl ⟨_,_,_,_,_,d,xs.length,c1,xs,T,0,rfl,Aa r,(fun n H N=>φ (Aa ap) (Aa HA n H N)),.inr (.inr ⟨Aa ac,y.1.1 (Aa u),rfl,rfl,rfl,rfl,rfl,rfl,hX,by rw[<-Aa HT,Aa P,Aa I]⟩),Aa b⟩
      ·rw[Aa L]at O
       have u:=Ab O;clear O HC;obtain⟨V,W,X,k3,Y,Z,k6⟩:=(Aa Q).at;have kf:=(Aa Q).frz;go_wp2;have q:=Ab ((Aa Q).sets (U α 0) (U α 0) (U α 0) (U α 0) (U α 0) (γ none 0 0) (β ⟨#[]⟩));have b:=Ab (Cv (Aa B7) (δ _) (U α 0) (U α 0) (U α 0) (U α 0) (U α 0) (γ none 0 0) (β ⟨#[]⟩));have y:=Aa ab (Aa I);exact bodyPost_ret (GI rfl rfl (Aa q)) rfl (ID (en:=3) (.inr ⟨Aa ac,fun h=>Aa u (y.1.2 h),rfl⟩) (Aa b))
variable {c:Nat}
def step1(c:Nat):Nat:=if c%2=1 then(c/2)^^^3988292384 else c/2
def stepN:Nat->Nat->Nat
 |0,c=>c
 |k+1,c=>step1 (stepN k c)
def Nq(c b:Nat):Nat:=stepN 8 (c^^^b)
def H4(c:Nat)(xs:List Nat):Nat:=xs.foldl Nq c
def Jt(xs:List Nat):Nat:=H4 4294967295 xs^^^4294967295
def H7(c:Nat):List Nat:=[c/16777216%256,c/65536%256,c/256%256,c%256]
def rF(h:c<4294967296):step1 c<4294967296:=by
 unfold step1;split
 ·exact υ (n:=32) (by omega) (by decide)
 ·omega
def V1(h:c<4294967296)(k:Nat):stepN k c<4294967296:=by
 induction k with
 |zero=>exact h
 |succ k a=>exact rF a
def Pu{a b:Nat}(d:a<4294967296)(e:b<4294967296):a^^^b<4294967296:=υ (n:=32) d e
def oj{b:Nat}(h:c<4294967296)(a:b<256):Nq c b<4294967296:=V1 (Pu h (by omega)) 8
def WW{xs:List Nat}(h:c<4294967296)(a:∀x∈xs,x<256):H4 c xs<4294967296:=by
 induction xs generalizing c with
 |nil=>exact h
 |cons x xs d=>exact d (oj h (a x (by simp))) (fun y b=>a y (by simp[b]))
def Xy{xs:List Nat}(a:∀x∈xs,x<256):Jt xs<4294967296:=Pu (WW (by decide) a) (by decide)
def fT(c:Nat)(xs a:List Nat):H4 c (xs++a)=H4 (H4 c xs) a:=List.foldl_append ..
def qL(x:Nat)(a:x<4294967296):bits .and .u32 (x:Int) 1=((x%2:Nat):Int):=by
 have h:=u32_and_nat x 1 a (by decide);rw[Nat.and_one_is_mod]at h;exact h
def rG(x:Nat)(a:x<4294967296)(h:x%2=1):bits .xor .u32 ((x:Int)/2) 3988292384=((step1 x:Nat):Int):=by
 have e:=u32_xor_nat (x/2) 3988292384 (by omega) (by decide);unfold step1;rw[if_pos h,<-e];rfl
def oO(x:Nat)(h:x%2=0):(x:Int)/2=((step1 x:Nat):Int):=by
 unfold step1;rw[if_neg (by omega)];rfl
def oG(c:Nat)(w:ν)(p:c<4294967296):
  τ η 182 #[U .u32 (c:Int)] w fun e w'=>e=ε (U .u32 ((stepN 8 c:Nat):Int))/\w'=w:=by
 go_enter func182,ntmps182;go_wp2;go_loop [0,4] (fun t i=> ∃k x:Nat,k<=8/\i=U α k/\t=U .u32 (x:Int)/\Hid (x=stepN k c)) (fun _ i=>8-(intOf i).toNat)
 case atStart=>exact⟨0,c,by decide,rfl,rfl,Ab rfl⟩
 case round=>
  obtain⟨k,x,r,rfl,rfl,d⟩:=hrel;have j:x<4294967296:=by rw[Aa d];exact V1 p k
  by_cases q:k<8
  ·have g:(k:Int)<8:=by omega
   have a:=qL x j;rcases Nat.mod_two_eq_zero_or_one x with b|b
   ·rw[b]at a
    have n:=Ab (oO x b);clear b;go_wp2;go_round
    case rel=>exact⟨k+1,step1 x,by omega,by go_num,by rw[Aa n],Ab (by rw[Aa d];rfl)⟩
    case measure=>simp[intOf];omega
   ·rw[b]at a
    have u:=rG x j b;clear b;go_wp2;go_round
    case rel=>exact⟨k+1,step1 x,by omega,by go_num,rfl,Ab (by rw[Aa d];rfl)⟩
    case measure=>simp[intOf];omega
  ·have f:k=8:=by omega
   have m:Hid (stepN 8 c=x):=Ab (by rw[Aa d,f]);go_wp2;go_ret;exact⟨Cu (by rw[Aa m]),rfl⟩
def kY(c:Nat)(xs:List Nat)(k:Nat)(h:k<xs.length):H4 c (xs.take (k+1))=Nq (H4 c (xs.take k)) (xs.getD k 0):=by
 rw[List.take_add_one,fT,κ h,ο,κ h];rfl
def XU(x:Nat)(a:x<4294967296):bits .xor .u32 IntKind.u32.max (x:Int)=((x^^^4294967295:Nat):Int):=by
 have:=u32_xor_nat 4294967295 x (by decide) a;rw[Nat.xor_comm]at this;exact this
def sumS(s:ByteArray):Nat:=Jt (tx s)
def Y7(s:ByteArray):sumS s<4294967296:=Xy (Cg s)
def Va(s:ByteArray)(w:ν)(A:s.size<=1048576):
  τ η 157 #[β s] w fun e w'=>e=ε (U .u32 ((sumS s:Nat):Int))/\w'=w:=by
 go_enter func157,ntmps157;go_wp2;go_loop [3,7] (fun t i=> ∃k x:Nat,k<=s.size/\i=U α k/\t=U .u32 (x:Int)/\Hid (x=H4 4294967295 ((tx s).take k))) (fun _ i=>s.size-(intOf i).toNat)
 case atStart=>exact⟨0,4294967295,Nat.zero_le _,rfl,rfl,Ab rfl⟩
 case round=>
  obtain⟨k,x,v,rfl,rfl,d⟩:=hrel;have g:x<4294967296:=by rw[Aa d];exact WW (by decide) (fun y r=>Cg s y (List.mem_of_mem_take r))
  by_cases b:k<s.size
  ·have j:(k:Int)<(s.size:Int):=by omega
   have u:s[k].toNat<256:=s[k].toNat_lt;have q:=u32_xor_nat x s[k].toNat g (by omega)
   have n:=Ab (show stepN 8 (x^^^s[k].toNat)=H4 4294967295 ((tx s).take (k+1)) from by
    rw[kY _ _ _ (by rw[AR];exact b),<-Aa d,<-Lg s k b];rfl)
   have f:=oG (x^^^s[k].toNat) w (Pu g (by omega));go_wp2_with (go_at_call 182;refine f.mono ?_;rintro e w' ⟨rfl,p⟩;obtain rfl:=p.symm);go_round
   case rel=>exact⟨k+1,_,by omega,by go_num,rfl,n⟩
   case measure=>simp[intOf];omega
  ·have a:k=(tx s).length:=by rw[AR];omega
   have m:Hid (sumS s=x^^^4294967295):=Ab (by unfold sumS Jt;rw[Aa d,a,List.take_length]);clear a;go_wp2;go_ret;exact⟨Cu (by rw[Aa m];exact XU x g),rfl⟩
def G6(c k:Nat):List Nat:=[if 0<k then c/16777216%256 else 0,if 1<k then c/65536%256 else 0,if 2<k then c/256%256 else 0,if 3<k then c%256 else 0]
def ZDi(c k:Nat):bytes (G6 c k):=by
 intro x a;simp only[G6,List.mem_cons,List.mem_nil_iff,or_false]at a;rcases a with rfl|rfl|rfl|rfl<;>split<;>omega
def Xr(c d:Nat):(((c/d%256:Nat):Nat):Int)=(c:Int)/(d:Int)%256:=by simp
def Zd(c:Nat):((c/16777216:Nat):Int)=(c:Int)/16777216:=by simp
def YQ(w:ν)(t:TypeId):AB (w.alloc (.cells #[U .u8 0,U .u8 0,U .u8 0,U .u8 0] t)) w.heap.size (γ (some ⟨w.heap.size,0,none⟩) 4 4) [0,0,0,0]:=by
 refine⟨fun x b=>?_,.inr ⟨w.heap.size,4,rfl,δ _,by simp,fun i a=>?_,fun i a=>?_⟩⟩
 ·simp only[List.mem_cons,List.mem_nil_iff,or_false,or_self]at b
  omega
 ·match i,a with
  |0,_=>simp
  |1,_=>simp
  |2,_=>simp
  |3,_=>simp
 ·match i,a with
  |0,_=>simp
  |1,_=>simp
  |2,_=>simp
  |3,_=>simp
def Mk{w wr:ν}{B g:Nat}{xs:List Nat}(b:xs.length=4)(a:AB wr B (γ (some ⟨g,0,none⟩) 4 4) xs)(e:Below B w wr)(d:B<=g)(i x:Nat)(f:x<256):
  AB (wr.setCell ⟨g,i,none⟩ (U .u8 (x:Int))) B (γ (some ⟨g,0,none⟩) 4 4) (xs.set i x)/\Below B w (wr.setCell ⟨g,i,none⟩ (U .u8 (x:Int))):=by
 rw[<-b]at a⊢;exact⟨a.stored i x f,e.setCell (by exact d) _⟩
def Ui(s:ByteArray)(w:ν)(A:s.size<=1048576):
  τ η 150 #[β s] w fun e w'=>e=ε (β (st (H7 (sumS s))))/\Below w.heap.size w w':=by
 have v:=Y7 s;have q:=Ab (Va s w A);obtain⟨c,d⟩:∃c,sumS s=c:=⟨_,rfl⟩;rw[d]at v q;rw[d];clear d;go_enter func150,ntmps150;go_wp2_with (go_at_call 157;refine(Aa q).mono ?_;rintro e w' ⟨rfl,B⟩;obtain rfl:=B.symm);go_loopw [8] (fun i wr=> ∃k:Nat,k<=4/\i=U α k/\Hid (AB wr w.heap.size (γ (some ⟨w.heap.size,0,none⟩) 4 4) (G6 c k))/\Hid (Below w.heap.size w wr)) (fun i _=>4-(intOf i).toNat)
 case atStart=>exact⟨0,by decide,rfl,Ab (YQ _ _),Ab ((Below.refl _ _).alloc (δ _) _)⟩
 case round=>
  obtain⟨k,C,rfl,a,b⟩:=hrel;by_cases f:k<4
  ·obtain⟨g,cap,r,u,y,j,m⟩:=(Aa a).at (by simp[G6])
   simp only[Value.slice.injEq,Option.some.injEq,Addr.mk.injEq,and_true]at r;obtain⟨rfl, -⟩:=r;have n:=j k (by simpa [G6]using f);have x:=m k (by simpa [G6]using f);clear j m
   match k,f with
   |0,_=>
    have R:=Ab (Mk rfl (Aa a) (Aa b) (δ _) 0 (c/16777216) (by omega));rw[Zd,show(G6 c 0).set 0 (c/16777216)=G6 c 1 from by unfold G6;rw[show c/16777216=c/16777216%256 by omega];simp]at R;clear a b;go_wp2;go_roundw
    case rel=>exact⟨1,by omega,rfl,Ab (Aa R).1,Ab (Aa R).2⟩
    case measure=>simp[intOf]
   |1,_=>
    have R:=Ab (Mk rfl (Aa a) (Aa b) (δ _) 1 (c/65536%256) (by omega));rw[Xr]at R;clear a b;go_wp2;go_roundw
    case rel=>exact⟨2,by omega,rfl,Ab (Aa R).1,Ab (Aa R).2⟩
    case measure=>simp[intOf]
   |2,_=>
    have R:=Ab (Mk rfl (Aa a) (Aa b) (δ _) 2 (c/256%256) (by omega));rw[Xr]at R;clear a b;go_wp2;go_roundw
    case rel=>exact⟨3,by omega,rfl,Ab (Aa R).1,Ab (Aa R).2⟩
    case measure=>simp[intOf]
   |3,_=>
    have R:=Ab (Mk rfl (Aa a) (Aa b) (δ _) 3 (c%256) (by omega));clear a b;go_wp2;go_roundw
    case rel=>exact⟨4,by omega,rfl,Ab (Aa R).1,Ab (Aa R).2⟩
    case measure=>simp[intOf]
  ·obtain rfl:k=4:=by omega
   have p:=(Aa a).text;rw[show G6 c 4=H7 c from rfl]at p;clear a;go_wp2;go_ret;exact⟨rfl,Aa b⟩
variable {s:ByteArray}
def cA{W:ν}{f:FuncId}{args:Array Value}{v:Value}(h:∀w',Below W.heap.size W w'->τ η f args w' fun e a=>e=ε v/\Below w'.heap.size w' a)(d:Nat)(os:Array Obj):
  τ η f args (grow (redrawn W d) os) fun e a=>e=ε v/\∃p:Regrown,a=grow (redrawn W p.d) p.os:=
 Calls.regrown_of (h _ (below_regrown W d os))
def FS(s:ByteArray):ByteArray:=st (H7 (sumS s))
def Ea(s:ByteArray):ByteArray:=s++FS s
def Cn(s:ByteArray):ByteArray:=s.extract 0 (s.size-4)
def Eh(s:ByteArray):ByteArray:=s.extract (s.size-4) s.size
def SR(s:ByteArray):(FS s).size=4:=by unfold FS;rw[Dq];rfl
def KK(s:ByteArray):(Ea s).size=s.size+4:=by unfold Ea;rw[ByteArray.size_append,SR]
def gB(s:ByteArray)(h:4<=s.size):(Cn s).size=s.size-4:=by unfold Cn;rw[ByteArray.size_extract];omega
def TR(s:ByteArray)(h:4<=s.size):s=Cn s++Eh s:=by
 unfold Cn Eh;rw[ByteArray.extract_append_extract];have a:min 0 (s.size-4)=0:=by omega
 have b:max (s.size-4) s.size=s.size:=by omega
 rw[a,b];exact(ByteArray.extract_zero_size).symm
def O2(s:ByteArray):Cn (Ea s)=s:=by
 unfold Cn;rw[KK,Nat.add_sub_cancel];unfold Ea;rw[ByteArray.extract_append_size_left];exact ByteArray.extract_zero_size
def mZ(s:ByteArray):Eh (Ea s)=FS s:=by
 have h:=TR (Ea s) (by rw[KK];omega);rw[O2]at h;unfold Ea at h;exact(ByteArray.append_right_inj _).1 h|>.symm
def openE(s:ByteArray):Nat:=if s.size<4 then 2 else if Eh s=FS (Cn s)then 0 else 4
def openT(s:ByteArray):ByteArray:=if openE s=0 then Cn s else⟨#[]⟩
def nL(s:ByteArray):openE (Ea s)=0/\openT (Ea s)=s:=by
 have h:openE (Ea s)=0:=by
  unfold openE;rw[if_neg (by rw[KK];omega),if_pos (by rw[mZ,O2])]
 exact⟨h,by unfold openT;rw[if_pos h,O2]⟩
def ma(s:ByteArray)(h:openE s=0):Ea (openT s)=s:=by
 unfold openT;rw[if_pos h];unfold openE at h;by_cases a:s.size<4
 ·rw[if_pos a]at h;omega
 ·rw[if_neg a]at h
  by_cases b:Eh s=FS (Cn s)
  ·unfold Ea
   rw[<-b];exact(TR s (by omega)).symm
  ·rw[if_neg b]at h;omega
def kZ(s:ByteArray)(w:ν)(i:s.size<=1048576):
  τ η 148 #[β s] w fun e w'=>e=ε (β (Ea s))/\Below w.heap.size w w':=by
 have ht:=SR s;have g:=Ab (show∀w',τ η 150 #[β s] w' fun e a=>e=ε (β (FS s))/\Below w'.heap.size w' a from fun w'=>Ui s w' i);have d:¬(9223372036854775807<s.size+(FS s).size):=by omega
 unfold Ea;generalize FS s=t at*;go_enter func148,ntmps148;go_wp2_with fail;refine(Aa g _).mono ?_;rintro e w1 ⟨rfl,b⟩;have f:=Ab b;clear b;go_wp2;go_ret;exact⟨rfl,Aa f⟩
def il(h:s.size<4):openE s=2/\openT s=⟨#[]⟩:=by
 have e:openE s=2:=by unfold openE;rw[if_pos h]
 exact⟨e,by unfold openT;rw[if_neg (by omega)]⟩
def sJ(h:¬s.size<4)(a:Eh s=FS (Cn s)):openE s=0/\openT s=Cn s:=by
 have e:openE s=0:=by unfold openE;rw[if_neg h,if_pos a]
 exact⟨e,by unfold openT;rw[if_pos e]⟩
def Zk(h:¬s.size<4)(a:¬Eh s=FS (Cn s)):openE s=4/\openT s=⟨#[]⟩:=by
 have e:openE s=4:=by unfold openE;rw[if_neg h,if_neg a]
 exact⟨e,by unfold openT;rw[if_neg (by omega)]⟩
def Pl{a b:ByteArray}{i j:Int}(h:a=b)(d:i=j):Ending.returned (ψ #[β a,U α i])=ε (ψ #[β b,U α j]):=by rw[h,d]
def Uh(s:ByteArray)(w:ν)(J:s.size<=1048576):
  τ η 113 #[β s] w fun e w'=>e=ε (ψ #[β (openT s),U α ((openE s:Nat):Int)])/\Below w.heap.size w w':=by
 by_cases j:s.size<4
 ·have u:(s.size:Int)<4:=by omega
  have g:=Ab (il j);clear j;go_enter func113,ntmps113;go_wp2;go_ret2;exact⟨Pl (Aa g).2.symm (by rw[(Aa g).1];rfl),Below.refl _ _⟩
 ·have u:decide ((s.size:Int)<4)=false:=by rw[decide_eq_false_iff_not];omega
  have I:=gB s (by omega);have H:((s.size:Int)-4).toNat=s.size-4:=by omega
  have y:(0:Int)<=(s.size:Int)-4:=by omega
  have A:(s.size:Int)-4<=(s.size:Int):=by omega
  have C:s.extract 0 (s.size-4)=Cn s:=rfl;have D:s.extract (s.size-4) s.size=Eh s:=rfl;have q:=cA (W:=w) (fun w' _=>Ui (Cn s) w' (by omega));have x:∀w',τ η 33 #[β (Cn s)] w' fun e v=>e=ε (β (Cn s))/\Below w'.heap.size w' v:=fun w'=>GR (Cn s) w' (by omega);have B:=Ab x;clear x;by_cases m:Eh s=FS (Cn s)
  ·have g:=Ab (sJ j m)
   have E:((Eh s).toList==(st (H7 (sumS (Cn s)))).toList)=true:=by
    rw[Mz,decide_eq_true (show Eh s=st (H7 (sumS (Cn s))) from m)]
   clear j m;generalize Cn s=h at*;generalize Eh s=l at*;generalize st (H7 (sumS h))=t at*;go_enter func113,ntmps113;go_wp2_with fail;refine wp_region_quiet_below (by kernel_rfl) (by kernel_rfl) ?_
   repeat (with_reducible refine wpQuiet_step (fun K f=>?_);go_simp;first|(with_reducible refine f _ ?_;clear f K)|(apply Exists.intro;apply And.intro;(intro _;go_at_call 150;exact q _ _);with_reducible refine f _ ?_;clear f K))
   refine wpQuiet_nil ?_;intro _ i;obtain⟨⟨n,b⟩,a⟩:=i;subst a;have d:=Ab (below_regrown w n b);generalize grow (redrawn w n) b=w1 at*;clear q;go_wp2_with fail;refine(Aa B _).mono ?_;rintro e w2 ⟨rfl,p⟩;have r:=Ab (Ad (Aa d) p);clear p d;go_wp2;go_ret2;exact⟨Pl (Aa g).2.symm (by rw[(Aa g).1];rfl),Aa r⟩
  ·have g:=Ab (Zk j m)
   have E:((Eh s).toList==(st (H7 (sumS (Cn s)))).toList)=false:=by
    rw[Mz,decide_eq_false (show¬Eh s=st (H7 (sumS (Cn s))) from m)]
   clear j m;generalize Cn s=h at*;generalize Eh s=l at*;generalize st (H7 (sumS h))=t at*;go_enter func113,ntmps113;go_wp2_with fail;refine wp_region_quiet_below (by kernel_rfl) (by kernel_rfl) ?_
   repeat (with_reducible refine wpQuiet_step (fun K f=>?_);go_simp;first|(with_reducible refine f _ ?_;clear f K)|(apply Exists.intro;apply And.intro;(intro _;go_at_call 150;exact q _ _);with_reducible refine f _ ?_;clear f K))
   refine wpQuiet_nil ?_;intro _ i;obtain⟨⟨n,b⟩,a⟩:=i;subst a;have d:=Ab (below_regrown w n b);generalize grow (redrawn w n) b=w1 at*;clear q;go_wp2;go_ret2;exact⟨Pl (Aa g).2.symm (by rw[(Aa g).1];rfl),Aa d⟩
variable {s t T:ByteArray}{kd fr ic o l k z h:Int}{xs:List Nat}{en:Nat}
def hdK(t:ByteArray):Nat:=(tx t).getD 0 0
def hdF(t:ByteArray):Nat:=(tx t).getD 1 0
def hdI(t:ByteArray):Nat:=num (((tx t).drop 2).take 4)
def EA(t:ByteArray):ByteArray:=t.extract 6 t.size
def H6(t:ByteArray):Prop:=8<=hdF t\/(hdK t≠1/\hdK t≠2)\/(hdK t=1/\6<t.size)
def FZ(kd fr ic o l k z h:Int)(xs:List Nat)(t:ByteArray):Prop:=(kd=0/\fr=0/\ic=0)/\Ft o l k z h xs t
def Lk(T:ByteArray)(kd fr ic:Int):Prop:=kd=hdK T/\fr=hdF T/\ic=hdI T
def IG(T:ByteArray)(kd fr ic o l k z h:Int)(xs:List Nat)(t:ByteArray)(en:Nat):Prop:=
 (T.size<6->en=2/\FZ kd fr ic o l k z h xs t)/\(¬T.size<6->H6 T->en=3/\FZ kd fr ic o l k z h xs t)/\
 (¬T.size<6->¬H6 T->hdK T=1->en=0/\Lk T kd fr ic/\Ft o l k z h xs t)/\
 (¬T.size<6->¬H6 T->hdK T≠1->C4 (EA T) o l k z h xs t en/\(en≠0->kd=0/\fr=0/\ic=0)/\(en=0->Lk T kd fr ic))
def Fs(s:ByteArray)(kd fr ic o l k z h:Int)(xs:List Nat)(t:ByteArray)(en:Nat):Prop:=
 (openE s≠0->en=openE s/\FZ kd fr ic o l k z h xs t)/\(openE s=0->IG (openT s) kd fr ic o l k z h xs t en)
def YK(a:openE s≠0)(b:en=openE s)(d:FZ kd fr ic o l k z h xs t):Fs s kd fr ic o l k z h xs t en:=
 ⟨fun _=>⟨b,d⟩,fun h=>absurd h a⟩
def qZ(a:T.size<6)(b:en=2)(d:FZ kd fr ic o l k z h xs t):IG T kd fr ic o l k z h xs t en:=
 ⟨fun _=>⟨b,d⟩,fun h=>absurd a h,fun h=>absurd a h,fun h=>absurd a h⟩
def Qk(b:¬T.size<6)(a:H6 T)(d:en=3)(e:FZ kd fr ic o l k z h xs t):IG T kd fr ic o l k z h xs t en:=
 ⟨fun h=>absurd h b,fun _ _=>⟨d,e⟩,fun _ h=>absurd a h,fun _ h=>absurd a h⟩
def qY(b:¬T.size<6)(d:¬H6 T)(a:hdK T=1)(e:en=0)(f:Lk T kd fr ic)(g:Ft o l k z h xs t):IG T kd fr ic o l k z h xs t en:=
 ⟨fun h=>absurd h b,fun _ h=>absurd h d,fun _ _ _=>⟨e,f,g⟩,fun _ _ h=>absurd a h⟩
def WL(b:¬T.size<6)(d:¬H6 T)(a:hdK T≠1)(e:C4 (EA T) o l k z h xs t en)(f:en≠0->kd=0/\fr=0/\ic=0)(g:en=0->Lk T kd fr ic):IG T kd fr ic o l k z h xs t en:=
 ⟨fun h=>absurd h b,fun _ h=>absurd h d,fun _ _ h=>absurd h a,fun _ _ _=>⟨e,f,g⟩⟩
def No(o l k z h:Int)(xs:List Nat)(s:ByteArray):Prop:=Ng o l k z h xs s 0 0 0 0 0 [] ⟨#[]⟩
def IN(kd o l k z h:Int)(xs:List Nat)(s:ByteArray):Prop:=(kd=1/\No o l k z h xs s)\/(kd=2/\Cd o l k z h xs s.size)
def Nf(kd fr ic o l k z h:Int)(xs:List Nat)(s:ByteArray):Prop:=(0<=fr/\fr<=7)/\(0<=ic/\ic<=4294967295)/\IN kd o l k z h xs s
def Fu(kd o l k z h:Int)(xs:List Nat)(s:ByteArray):ByteArray:=if kd=2 then st (BJ o l k z h xs (tx s))else⟨#[]⟩
def DO(kd fr ic:Int)(b:List Nat):List Nat:=BB kd 1++BB fr 1++BB ic 4++b
def Fv(kd fr ic o l k z h:Int)(xs:List Nat)(s:ByteArray):ByteArray:=Ea (st (DO kd fr ic (tx (Fu kd o l k z h xs s))))
def Se(kd fr ic:Int)(b:List Nat)(a:bytes b):bytes (DO kd fr ic b):=
 Gh (Gh (Gh (GQ _ _) (GQ _ _)) (GQ _ _)) a
def TG(kd fr ic:Int)(b:List Nat):(DO kd fr ic b).length=6+b.length:=by
 unfold DO;simp only[List.length_append,Fy,D9,CX]
def Yh(a:IN kd o l k z h xs s):kd=1\/kd=2:=by
 rcases a with h|h
 ·exact .inl h.1
 ·exact .inr h.1
def Pi(o l k z h:Int)(xs:List Nat)(s:ByteArray):Fu 1 o l k z h xs s=⟨#[]⟩:=if_neg (by decide)
def Mt(o l k z h:Int)(xs:List Nat)(s:ByteArray):Fu 2 o l k z h xs s=st (BJ o l k z h xs (tx s)):=if_pos rfl
def aH{b:List Nat}{K F I:Nat}(f:bytes b)(n:kd=(K:Int))(j:fr=(F:Int))(m:ic=(I:Int))(g:K<256)(i:F<256)(p:I<4294967296):
  (st (DO kd fr ic b)).size=6+b.length/\hdK (st (DO kd fr ic b))=K/\hdF (st (DO kd fr ic b))=F/\hdI (st (DO kd fr ic b))=I/\EA (st (DO kd fr ic b))=st b:=by
 have d:(st (DO kd fr ic b)).size=6+b.length:=by rw[Dq,TG]
 have ht:=Dv (Se kd fr ic b f);have e:DO kd fr ic b=K::F::(be 4 I++b):=by
  unfold DO;rw[D9,D9,Fy,DX n (by omega),DX j (by omega),DX m (by omega),Jk,Jk,ξ g,ξ i];simp
 have a:=CX 4 I;refine⟨d,?_,?_,?_,?_⟩
 ·unfold hdK;rw[ht,e];rfl
 ·unfold hdF;rw[ht,e];rfl
 ·unfold hdI
  rw[ht,e,ι,ι,List.drop_zero,List.take_left' a,Li];exact ξ (by omega)
 ·apply Jj
  unfold EA;rw[Eu,ht,d,Dv f,e,ι,ι];rw[List.drop_left' a];exact σ (by omega)
def ot(xs:List Nat):cnt (xorL xs xs)=0:=Sd _ (du _)
def UF(a:Ft o l k z h xs t):No o l k z h xs t:=by
 obtain⟨b,d,e,f,g,i,j⟩:=a;rw[b,d,e,f,g,i,j];exact⟨⟨⟨rfl,rfl,rfl,rfl,rfl⟩,rfl⟩,ot []⟩
def bB(j:6<=T.size):BB (hdK T) 1++BB (hdF T) 1++BB (hdI T) 4=(tx T).take 6:=by
 have b:=Cg T;have n:=AR T;have a:∀i,(tx T).getD i 0<256:=fun i=>b.get i;have f:m64 (hdI T:Int)=hdI T:=DX rfl (χ (I3 (Gd (Ho b 2) 4) (k:=4) (by rw[π];omega)) (by decide));have mk:m64 (hdK T:Int)=hdK T:=DX rfl (χ (a 0) (by decide));have e:m64 (hdF T:Int)=hdF T:=DX rfl (χ (a 1) (by decide))
 have d:∀i,i<T.size->be 1 ((tx T).getD i 0)=((tx T).drop i).take 1:=fun i m=>by
  rw[Jk,ξ (a i)];have:i<(tx T).length:=by omega
  rw[List.drop_eq_getElem_cons this,List.take_succ_cons,List.take_zero,ο,κ this];rfl
 have g:be 4 (hdI T)=((tx T).drop 2).take 4:=Ml (Gd (Ho b 2) 4) (by rw[π,List.length_drop];omega);rw[Fy,D9,D9,f,mk,e,g,show be 1 (hdK T)=((tx T).drop 0).take 1 from d 0 (by omega),show be 1 (hdF T)=((tx T).drop 1).take 1 from d 1 (by omega)];rw[List.drop_zero,<-List.take_add,<-List.take_add]
def qc(m:Fs s kd fr ic o l k z h xs t 0):
  Nf kd fr ic o l k z h xs t/\Fv kd fr ic o l k z h xs t=s:=by
 have n:openE s=0:=by
  by_cases i:openE s=0
  ·exact i
  ·have:=(m.1 i).1
   omega
 have a:=ma s n;obtain⟨y,A,a3,a4⟩:=m.2 n;unfold Fv;generalize openT s=T at*;have c2:¬T.size<6:=fun h=>by have:=(y h).1;omega
 have c3:¬H6 T:=fun h=>by have:=(A c2 h).1;omega
 have J:¬8<=hdF T:=fun h=>c3 (.inl h);have P:hdI T<4294967296:=Nat.lt_of_lt_of_le (I3 (Gd (Ho (Cg T) 2) 4) (k:=4) (by rw[π];omega)) (by decide);have E:=bB (T:=T) (by omega);have Q:=AR T
 suffices e:Lk T kd fr ic/\IN kd o l k z h xs t/\tx (Fu kd o l k z h xs t)=(tx T).drop 6 by
  obtain⟨⟨B,C,D⟩,b,I⟩:=e;refine⟨⟨by omega,by omega,b⟩,?_⟩;unfold DO;rw[I,B,C,D,E,List.take_append_drop,IH];exact a
 by_cases c4:hdK T=1
 ·obtain⟨_,f,K⟩:=a3 c2 c3 c4
  have H:¬6<T.size:=fun h=>c3 (.inr (.inr ⟨c4,h⟩));have d:kd=1:=by rw[f.1,c4];rfl
  refine⟨f,.inl ⟨d,UF K⟩,?_⟩;rw[d,Pi,List.drop_eq_nil_of_le (by omega)];rfl
 ·have c5:hdK T=2:=by
   by_cases h:hdK T=2
   ·exact h
   ·exact absurd (.inr (.inl ⟨c4,h⟩)) c3
  obtain⟨f,_,L⟩:=a4 c2 c3 c4;have e:=L rfl;have d:kd=2:=by rw[e.1,c5];rfl
  obtain⟨_,ns,g,p,q,r,u,v,w,x⟩|⟨j,_⟩:=f.err
  ·obtain⟨N,O⟩:=YG ns g
   refine⟨e,.inr ⟨d,?_⟩,?_⟩
   ·unfold E2 at g
    rw[p,q,r,u,v,w,x,N];exact g
   ·rw[d,Mt,p,q,r,u,v,w,x,O]
    unfold EA;rw[Eu,σ (by rw[List.length_drop];omega)]
  ·omega
end Go.Proofs.YtfpmnekaockodaaGreatDoor
