/-
  Contract of packet.Decode: for every text of at most 2^47 - 4096 bytes.
-/
import Derived.Test.YtlhhinlghhjghaaGreatDoorU16
import Derived.Test.YtlhhinlghhjghaaGreatDoorU12
namespace Go.Proofs.YtlhhinlghhjghaaGreatDoor
open Go.RowKit Go.Sort
set_option linter.unusedVariables false
set_option linter.unusedSimpArgs false
set_option maxRecDepth 4000
set_option maxHeartbeats 8000000
def NewA(w:World)(a:Option Addr)(n:Nat):Prop:=∀ad,a=some ad→n≠0→w.heap.size≤ad.block
theorem Zhc(w:World)(n:Nat):NewA w none n:=fun ad h=>by cases h
theorem NewA.mono{w w':World}{a:Option Addr}{n:Nat}(h:NewA w' a n)(hs:w.heap.size≤w'.heap.size):NewA w a n:=fun ad h1 h2=>Nat.le_trans hs (h ad h1 h2)
def DecN(w:World)(s:ByteArray)(e:Ending)(w':World):Prop:=
 ∃(o l k z h:Int) (a:Option Addr) (n c:Nat) (xs:List Nat) (t:ByteArray) (en:Nat),e=.returned (.tuple #[.agg #[.int .i64 o,.int .i64 l,.int .i64 k,.int .i64 z,.int .i64 h,.slice a n c,.string t],.int .i64 ((en:Nat):Int)])∧
  RowAt w' a n xs∧NewA w a n∧DecP s o l k z h xs t en∧Below w.heap.size w w'
theorem Zb0{w w':World}{s:ByteArray}{en:Nat}(h:(Zca s∧en=2)∨(¬Zca s∧¬ZfA s∧en=3))(hb:Below w.heap.size w w'):
  DecN w s (.returned (.tuple #[.agg #[.int .i64 0,.int .i64 0,.int .i64 0,.int .i64 0,.int .i64 0,.slice none 0 0,.string ⟨#[]⟩],.int .i64 ((en:Nat):Int)])) w':=by
 refine⟨0,0,0,0,0,none,0,0,[],⟨#[]⟩,en,rfl,ZbT _,Zhc _ _,?_,hb⟩
 have hz:Zgm 0 0 0 0 0 [] ⟨#[]⟩:=⟨rfl,rfl,rfl,rfl,rfl,rfl,rfl⟩
 rcases h with⟨h1,h2⟩|⟨h1,h2,h3⟩
 ·exact .inl ⟨h1,h2,hz⟩
 ·exact .inr (.inl ⟨h1,h2,h3,hz⟩)
theorem ZaL{tmps:Array Value}{W:World}{g:Nat}{x:Int}{u0 u1 u2 u3 u4 u5 u6:Value}(h2:tmps.getD 2 undef=.pointer (some ⟨g,0,none⟩))(h3:tmps.getD 3 undef=.int .i64 x)(hq:PkB W g u0 u1 u2 u3 u4 u5 u6):
  (results Tryz.f126 tmps).run Tryz.prog W=.ok (.tuple #[.agg #[u0,u1,u2,u3,u4,u5,u6],.int .i64 x]) W:=by
 obtain⟨k0,k1,k2,k3,k4,k5,k6⟩:=hq.at
 have h2':tmps[2]?.getD undef=.pointer (some ⟨g,0,none⟩):=by simpa using h2
 have h3':tmps[3]?.getD undef=.int .i64 x:=by simpa using h3
 simp[results,Tryz.results126,go_sem,h2',h3',k0,k1,k2,k3,k4,k5,k6]
theorem Zxc(s:ByteArray)(w:World)(hs:s.size≤140737488351232):Calls Tryz.prog 126 #[.string s] w (DecN w s):=by
 by_cases h11:s.size<11
 ·have h11':((s.size:Int)<11):=by omega
  have HF:=hide (show Zca s from .inl h11)
  clear h11
  go_enter Tryz.func126,Tryz.ntmps126
  go_wp2
  exact bodyPost_ret (ZaL rfl rfl (ZaG w (.int .i64 0) (.int .i64 0) (.int .i64 0) (.int .i64 0) (.int .i64 0) (.slice none 0 0) (.string ⟨#[]⟩))) rfl (Zb0 (en:=2) (.inl ⟨unhide HF,rfl⟩) (Zaf w _))
 ·have h11':¬((s.size:Int)<11):=by omega
  have H11:=hide h11
  obtain⟨b1,hb1⟩:=ZfF (ZeD (dK s) (dZ s))
  have H1:=hide hb1
  have HH:=hide (fun wx=>Zu4 s (by omega) wx)
  clear hb1 h11
  have X2:=hide (ZaG w (.int .i64 0) (.int .i64 0) (.int .i64 0) (.int .i64 0) (.int .i64 0) (.slice none 0 0) (.string ⟨#[]⟩))
  go_enter Tryz.func126,Tryz.ntmps126
  go_wp2_with fail
  refine(unhide HH _).mono ?_
  rintro e w1 ⟨rfl,hb1⟩
  have y2:=(unhide X2).below hb1
  have B1:=hide (below0 (Zaf w _) hb1)
  have Y2:=hide (y2.below (Zaf w1 (.cells #[.int .i64 ((dO s:Nat):Int),.int .i64 ((dL s:Nat):Int),.int .i64 ((dK s:Nat):Int),.int .i64 ((dZ s:Nat):Int),.int .i64 ((dH s:Nat):Int),.slice none 0 0,.string ⟨#[]⟩] 59)))
  have Y4:=hide (ZaG w1 (.int .i64 ((dO s:Nat):Int)) (.int .i64 ((dL s:Nat):Int)) (.int .i64 ((dK s:Nat):Int)) (.int .i64 ((dZ s:Nat):Int)) (.int .i64 ((dH s:Nat):Int)) (.slice none 0 0) (.string ⟨#[]⟩))
  have hlt:=y2.lt
  clear hb1 y2 HH X2
  go_wp2_with fail
  refine(ZiN _ _ _ _ _ _ _ _ b1 (unhide H1)).mono ?_
  rintro e w2 ⟨rfl,hb2⟩
  have Z2:=hide ((unhide Y2).below hb2)
  have Z4:=hide ((unhide Y4).below hb2)
  have B2:=hide (Ztv (unhide B1) hb2)
  clear hb2 Y2 Y4 B1
  generalize w1.heap.size=g at*
  cases b1
  ·have HB:=hide (show¬Zca s∧¬ZfA s from⟨by rintro(h|h);exact unhide H11 h;simpa using(unhide H1).2 h.1,fun h=>by simpa using(unhide H1).2 h.1.1⟩)
   obtain⟨k0,k1,k2,k3,k4,k5,k6⟩:=(unhide Z2).at
   have f:=(unhide Z2).frz
   go_wp2
   have q:=hide ((unhide Z2).sets (.int .i64 0) (.int .i64 0) (.int .i64 0) (.int .i64 0) (.int .i64 0) (.slice none 0 0) (.string ⟨#[]⟩))
   have b:=hide (Zbd (unhide B2) (Nat.le_refl _) (.int .i64 0) (.int .i64 0) (.int .i64 0) (.int .i64 0) (.int .i64 0) (.slice none 0 0) (.string ⟨#[]⟩))
   exact bodyPost_ret (ZaL rfl rfl (unhide q)) rfl (Zb0 (en:=3) (.inr ⟨(unhide HB).1,(unhide HB).2,rfl⟩) (unhide b))
  ·have hsh:=(unhide H1).1 rfl
   obtain⟨k0,k1,k2,k3,k4,k5,k6⟩:=(unhide Z4).at
   have hz1:(1:Int)≤((dZ s:Nat):Int):=hsh.2.1
   have hz2:((dZ s:Nat):Int)≤64:=hsh.2.2
   have HZ:=hide (fun wx=>Zcd ((dK s:Nat):Int) wx)
   have hN:sizeOfK ((dK s:Nat):Int)=1∨sizeOfK ((dK s:Nat):Int)=2:=by
    have h1:=hsh.1
    unfold sizeOfK
    rw[if_neg (by omega)]
    omega
   clear hsh
   rcases hN with hN|hN
   ·rw[hN]at HZ
    have HN:=hide (show dN s=19 from by unfold dN;rw[hN])
    have HS:=hide hN
    clear hN
    by_cases hsz:(s.size:Int)<19+((dZ s:Nat):Int)
    ·have HF:=hide (show Zca s from .inr ⟨(unhide H1).1 rfl,by have:=unhide HN;omega⟩)
     go_wp2_with fail
     refine(unhide HZ _).mono ?_
     rintro e w' ⟨rfl,hw⟩
     obtain rfl:=hw.symm
     clear hw k0 k1 k2 k4 k5 k6
     obtain⟨k0,k1,k2,k3,k4,k5,k6⟩:=(unhide Z2).at
     have f:=(unhide Z2).frz
     go_wp2
     have q:=hide ((unhide Z2).sets (.int .i64 0) (.int .i64 0) (.int .i64 0) (.int .i64 0) (.int .i64 0) (.slice none 0 0) (.string ⟨#[]⟩))
     have b:=hide (Zbd (unhide B2) (Nat.le_refl _) (.int .i64 0) (.int .i64 0) (.int .i64 0) (.int .i64 0) (.int .i64 0) (.slice none 0 0) (.string ⟨#[]⟩))
     exact bodyPost_ret (ZaL rfl rfl (unhide q)) rfl (Zb0 (en:=2) (.inl ⟨unhide HF,rfl⟩) (unhide b))
    ·have hD:(19:Int)≤(s.size:Int):=by omega
     have HSZ:=hide (show 19+dZ s≤s.size by omega)
     have HG:=hide (fun wx=>ZiK (s.extract 11 19) ((dK s:Nat):Int) wx (by rw[ByteArray.size_extract];omega))
     go_wp2_with fail
     refine(unhide HZ _).mono ?_
     rintro e w' ⟨rfl,hw⟩
     obtain rfl:=hw.symm
     clear hw k0 k1 k4 k5 k6
     go_wp2_with fail
     refine wp_region_any (by kernel_rfl) ?_
     change wpAny _ _ _ _ _ _ _ (World.drew _)
     refine wpAny_take (i:=0) (v:=?_) rfl (by kernel_rfl) (by kernel_rfl) (by kernel_rfl) (fun _ _ _ h=>h) (Or.inl ⟨by rfl,?f0⟩) ?_
     case f0=>(intro w;go_simp;try with_reducible rfl)
     refine wpAny_take (i:=1) (v:=?_) rfl (by kernel_rfl) (by kernel_rfl) (by kernel_rfl) (fun _ _ _ h=>h) (Or.inl ⟨by rfl,?f1⟩) ?_
     case f1=>(intro w;go_simp;try with_reducible rfl)
     refine wpAny_take (i:=2) (v:=?_) rfl (by kernel_rfl) (by kernel_rfl) (by kernel_rfl) (fun _ _ _ h=>h) (Or.inl ⟨by rfl,?f2⟩) ?_
     case f2=>(intro w;go_simp;try with_reducible rfl)
     refine wpAny_take (i:=3) (v:=?_) rfl (by kernel_rfl) (by kernel_rfl) (by kernel_rfl) (fun _ _ _ h=>h) (Or.inl ⟨by rfl,?f3⟩) ?_
     case f3=>(intro w;go_simp;try with_reducible rfl)
     refine wpAny_ready (rs:=[4]) (by kernel_rfl) (by simp) ?_
     refine AllReady.cons rfl (fun K hK=>?_) AllReady.nil
     go_simp
     refine hK _ _ ?_
     clear hK K
     refine wpAny_ready (rs:=[5]) (by kernel_rfl) (by simp) ?_
     refine AllReady.cons rfl (fun K hK=>?_) AllReady.nil
     go_simp
     refine(unhide HG _).mono ?_
     rintro e w3 ⟨v,xs,en,rfl,ho,hgot,hb3⟩
     obtain⟨a1,c1,rfl,hr1⟩:=ho.row
     have HA:Hid (∀ad,a1=some ad→xs.length≠0→w2.heap.size≤ad.block):=hide (ho.apart)
     have HAN:=hide (show w.heap.size≤w2.heap.size from(unhide B2).size)
     have HR3:=hide hr1
     have HP:=hide hgot
     have b23:Below w2.heap.size w2 w3:=(Below.refl _ _).drew.trans hb3
     have V2:=hide ((unhide Z2).below b23)
     have V4:=hide ((unhide Z4).below b23)
     have B3:=hide (below0 (unhide B2) b23)
     have HLT:=hide (show g<w2.heap.size from(unhide Z4).lt)
     clear ho hr1 hgot hb3 b23 Z2 Z4 B2 HG HZ
     refine hK _ _ ?_
     clear hK K
     refine wpAny_take (i:=6) (v:=?_) rfl (by kernel_rfl) (by kernel_rfl) (by kernel_rfl) (fun _ _ _ h=>h) (Or.inl ⟨by rfl,?f6⟩) ?_
     case f6=>(intro w;go_simp;try with_reducible rfl)
     refine wpAny_take (i:=7) (v:=?_) rfl (by kernel_rfl) (by kernel_rfl) (by kernel_rfl) (fun _ _ _ h=>h) (Or.inl ⟨by rfl,?f7⟩) ?_
     case f7=>(intro w;go_simp;try with_reducible rfl)
     refine wpAny_take (i:=8) (v:=?_) rfl (by kernel_rfl) (by kernel_rfl) (by kernel_rfl) (fun _ _ _ h=>h) (Or.inl ⟨by rfl,?f8⟩) ?_
     case f8=>(intro w;go_simp;try with_reducible rfl)
     refine wpAny_take (i:=9) (v:=?_) rfl (by kernel_rfl) (by kernel_rfl) (by kernel_rfl) (fun _ _ _ h=>h) (Or.inl ⟨by rfl,?f9⟩) ?_
     case f9=>(intro w;go_simp;try with_reducible rfl)
     refine wpAny_take (i:=10) (v:=?_) rfl (by kernel_rfl) (by kernel_rfl) (by kernel_rfl) (fun _ _ _ h=>h) (Or.inl ⟨by rfl,?f10⟩) ?_
     case f10=>(intro w;go_simp;try with_reducible rfl)
     obtain⟨m0,m1,m2,m3,m4,m5,m6⟩:=(unhide V4).at
     have mf:=(unhide V4).frz
     refine wpAny_ready (rs:=[11]) (by kernel_rfl) (by simp) ?_
     refine AllReady.cons rfl (fun K hK=>?_) AllReady.nil
     go_simp
     refine hK _ _ ?_
     clear hK K
     refine wpAny_done (by kernel_rfl) ?_ _
     clear m0 m1 m2 m3 m4 m5 m6 mf
     have U4:=hide ((unhide V4).set5 (.slice a1 xs.length c1))
     have U2:=hide ((unhide V2).other (a:=⟨g,5,none⟩) (Nat.ne_of_lt hlt) (.slice a1 xs.length c1))
     have B4:=hide ((unhide B3).setCell (p:=⟨g,5,none⟩) (Nat.le_of_lt hlt) (.slice a1 xs.length c1))
     have HR4:=hide ((unhide HR3).other (B:=g) (fun ad h1 h2=>by have:=unhide HA ad h1 h2;have:=unhide HLT;omega) 5 (.slice a1 xs.length c1))
     clear V4 V2 B3 HR3
     generalize w3.setCell ⟨g,5,none⟩ (.slice a1 xs.length c1)=w4 at*
     go_wp2_with fail
     refine(Zbp (s.extract 19 (19+dZ s)) _ (by rw[ByteArray.size_extract];omega)).mono ?_
     rintro e w5 ⟨rfl,hb5⟩
     have T4:=hide ((unhide U4).below hb5)
     have T2:=hide ((unhide U2).below hb5)
     have B5:=hide (below0 (unhide B4) hb5)
     have HR5:=hide ((unhide HR4).below hb5)
     have HTS:=hide (show(s.extract 19 (19+dZ s)).size=dZ s by have:=unhide HSZ;rw[ByteArray.size_extract];omega)
     have HGG:=hide (fun hsz=>Znv (s:=s) (D:=19) (unhide HN) hsz (by have:=unhide HS;omega) (unhide HP))
     obtain⟨T,hT⟩:∃T,s.extract 19 (19+dZ s)=T:=⟨_,rfl⟩
     have HT:=hide hT
     rw[hT]at HTS
     rw[hT]
     clear hT
     clear hb5 U4 U2 B4 HR4 k2 k3
     have S4:=hide ((unhide T4).set6 (.string T))
     have S2:=hide ((unhide T2).other (a:=⟨g,6,none⟩) (Nat.ne_of_lt hlt) (.string T))
     have B6:=hide ((unhide B5).setCell (p:=⟨g,6,none⟩) (Nat.le_of_lt hlt) (.string T))
     have HR6:=hide ((unhide HR5).other (B:=g) (fun ad h1 h2=>by have:=unhide HA ad h1 h2;have:=unhide HLT;omega) 6 (.string T))
     obtain⟨m0,m1,m2,m3,m4,m5,m6⟩:=(unhide T4).at
     have mf:=(unhide T4).frz
     by_cases hgt:19+((dZ s:Nat):Int)<(s.size:Int)
     ·have HB:=hide (show¬Zca s∧¬ZfA s from⟨by rintro(h|h);exact unhide H11 h;have:=h.2;have:=unhide HN;omega,fun h=>by have:=h.2.2.2;have:=unhide HN;omega⟩)
      clear m0 m1 m2 m3 m4 m5
      have f0:=mf 6
      clear mf
      obtain⟨n0,n1,n2,n3,n4,n5,n6⟩:=(unhide S2).at
      have nf:=(unhide S2).frz
      obtain⟨k0,k1,k2,k3,k4,k5,k6⟩:=(unhide T2).at
      have kf:=(unhide T2).frz
      go_wp2
      have q:=hide ((unhide S2).sets (.int .i64 0) (.int .i64 0) (.int .i64 0) (.int .i64 0) (.int .i64 0) (.slice none 0 0) (.string ⟨#[]⟩))
      have b:=hide (Zbd (unhide B6) (Nat.le_refl _) (.int .i64 0) (.int .i64 0) (.int .i64 0) (.int .i64 0) (.int .i64 0) (.slice none 0 0) (.string ⟨#[]⟩))
      exact bodyPost_ret (ZaL rfl rfl (unhide q)) rfl (Zb0 (en:=3) (.inr ⟨(unhide HB).1,(unhide HB).2,rfl⟩) (unhide b))
     ·have HEQ:=hide (show s.size=19+dZ s by have:=unhide HSZ;omega)
      have HNS:=hide (show¬Zca s from by rintro(h|h);exact unhide H11 h;have:=h.2;have:=unhide HN;omega)
      obtain⟨n0,n1,n2,n3,n4,n5,n6⟩:=(unhide S4).at
      obtain⟨ck,hck⟩:=ZyW (ZaX (dO s) (dL s) (dK s) (dZ s) (dH s) xs T.size)
      have HC:=hide hck
      clear hck
      go_wp2_with fail
      refine(ZaR _ _ _ _ _ a1 xs.length c1 xs T _ (unhide HR6) ck (unhide HC)).mono ?_
      rintro e w7 ⟨rfl,hb7⟩
      have R4:=hide ((unhide S4).below hb7)
      have R2:=hide ((unhide S2).below hb7)
      have B7:=hide (below0 (unhide B6) hb7)
      have HR7:=hide ((unhide HR6).below hb7)
      clear hb7 n0 n1 n2 n3 n4 n5 n6 m0 m1 m2 m3 m4 m5 m6 mf
      rcases(unhide HC)with⟨hP,rfl⟩|⟨hP,rfl⟩
      ·rw[unhide HTS]at hP
       have HPP:=hide hP
       clear hP HC
       obtain⟨n0,n1,n2,n3,n4,n5,n6⟩:=(unhide R4).at
       obtain⟨k0,k1,k2,k3,k4,k5,k6⟩:=(unhide R2).at
       have kf:=(unhide R2).frz
       go_wp2
       have q:=hide ((unhide R2).sets (.int .i64 ((dO s:Nat):Int)) (.int .i64 ((dL s:Nat):Int)) (.int .i64 ((dK s:Nat):Int)) (.int .i64 ((dZ s:Nat):Int)) (.int .i64 ((dH s:Nat):Int)) (.slice a1 xs.length c1) (.string T))
       have b:=hide (Zbd (unhide B7) (Nat.le_refl _) (.int .i64 ((dO s:Nat):Int)) (.int .i64 ((dL s:Nat):Int)) (.int .i64 ((dK s:Nat):Int)) (.int .i64 ((dZ s:Nat):Int)) (.int .i64 ((dH s:Nat):Int)) (.slice a1 xs.length c1) (.string T))
       have r:=hide ((unhide HR7).other7 (B:=w.heap.size) (fun ad h1 h2=>by have:=unhide HA ad h1 h2;have:=unhide HLT;omega) (.int .i64 ((dO s:Nat):Int)) (.int .i64 ((dL s:Nat):Int)) (.int .i64 ((dK s:Nat):Int)) (.int .i64 ((dZ s:Nat):Int)) (.int .i64 ((dH s:Nat):Int)) (.slice a1 xs.length c1) (.string T))
       have hgg:=unhide HGG (unhide HEQ)
       have hX:=hgg.2 (unhide HPP)
       exact bodyPost_ret (ZaL rfl rfl (unhide q)) rfl ⟨_,_,_,_,_,a1,xs.length,c1,xs,T,0,rfl,unhide r,(fun ad h1 h2=>Nat.le_trans (unhide HAN) (unhide HA ad h1 h2)),.inr (.inr ⟨unhide HNS,hgg.1.1 (unhide HPP),rfl,rfl,rfl,rfl,rfl,rfl,hX,by rw[←unhide HT,unhide HN,unhide HEQ]⟩),unhide b⟩
      ·rw[unhide HTS]at hP
       have HPP:=hide hP
       clear hP HC
       obtain⟨k0,k1,k2,k3,k4,k5,k6⟩:=(unhide R2).at
       have kf:=(unhide R2).frz
       go_wp2
       have q:=hide ((unhide R2).sets (.int .i64 0) (.int .i64 0) (.int .i64 0) (.int .i64 0) (.int .i64 0) (.slice none 0 0) (.string ⟨#[]⟩))
       have b:=hide (Zbd (unhide B7) (Nat.le_refl _) (.int .i64 0) (.int .i64 0) (.int .i64 0) (.int .i64 0) (.int .i64 0) (.slice none 0 0) (.string ⟨#[]⟩))
       have hgg:=unhide HGG (unhide HEQ)
       exact bodyPost_ret (ZaL rfl rfl (unhide q)) rfl (Zb0 (en:=3) (.inr ⟨unhide HNS,fun h=>unhide HPP (hgg.1.2 h),rfl⟩) (unhide b))
   ·rw[hN]at HZ
    have HN:=hide (show dN s=27 from by unfold dN;rw[hN])
    have HS:=hide hN
    clear hN
    by_cases hsz:(s.size:Int)<27+((dZ s:Nat):Int)
    ·have HF:=hide (show Zca s from .inr ⟨(unhide H1).1 rfl,by have:=unhide HN;omega⟩)
     go_wp2_with fail
     refine(unhide HZ _).mono ?_
     rintro e w' ⟨rfl,hw⟩
     obtain rfl:=hw.symm
     clear hw k0 k1 k2 k4 k5 k6
     obtain⟨k0,k1,k2,k3,k4,k5,k6⟩:=(unhide Z2).at
     have f:=(unhide Z2).frz
     go_wp2
     have q:=hide ((unhide Z2).sets (.int .i64 0) (.int .i64 0) (.int .i64 0) (.int .i64 0) (.int .i64 0) (.slice none 0 0) (.string ⟨#[]⟩))
     have b:=hide (Zbd (unhide B2) (Nat.le_refl _) (.int .i64 0) (.int .i64 0) (.int .i64 0) (.int .i64 0) (.int .i64 0) (.slice none 0 0) (.string ⟨#[]⟩))
     exact bodyPost_ret (ZaL rfl rfl (unhide q)) rfl (Zb0 (en:=2) (.inl ⟨unhide HF,rfl⟩) (unhide b))
    ·have hD:(27:Int)≤(s.size:Int):=by omega
     have HSZ:=hide (show 27+dZ s≤s.size by omega)
     have HG:=hide (fun wx=>ZiK (s.extract 11 27) ((dK s:Nat):Int) wx (by rw[ByteArray.size_extract];omega))
     go_wp2_with fail
     refine(unhide HZ _).mono ?_
     rintro e w' ⟨rfl,hw⟩
     obtain rfl:=hw.symm
     clear hw k0 k1 k4 k5 k6
     go_wp2_with fail
     refine wp_region_any (by kernel_rfl) ?_
     change wpAny _ _ _ _ _ _ _ (World.drew _)
     refine wpAny_take (i:=0) (v:=?_) rfl (by kernel_rfl) (by kernel_rfl) (by kernel_rfl) (fun _ _ _ h=>h) (Or.inl ⟨by rfl,?f0⟩) ?_
     case f0=>(intro w;go_simp;try with_reducible rfl)
     refine wpAny_take (i:=1) (v:=?_) rfl (by kernel_rfl) (by kernel_rfl) (by kernel_rfl) (fun _ _ _ h=>h) (Or.inl ⟨by rfl,?f1⟩) ?_
     case f1=>(intro w;go_simp;try with_reducible rfl)
     refine wpAny_take (i:=2) (v:=?_) rfl (by kernel_rfl) (by kernel_rfl) (by kernel_rfl) (fun _ _ _ h=>h) (Or.inl ⟨by rfl,?f2⟩) ?_
     case f2=>(intro w;go_simp;try with_reducible rfl)
     refine wpAny_take (i:=3) (v:=?_) rfl (by kernel_rfl) (by kernel_rfl) (by kernel_rfl) (fun _ _ _ h=>h) (Or.inl ⟨by rfl,?f3⟩) ?_
     case f3=>(intro w;go_simp;try with_reducible rfl)
     refine wpAny_ready (rs:=[4]) (by kernel_rfl) (by simp) ?_
     refine AllReady.cons rfl (fun K hK=>?_) AllReady.nil
     go_simp
     refine hK _ _ ?_
     clear hK K
     refine wpAny_ready (rs:=[5]) (by kernel_rfl) (by simp) ?_
     refine AllReady.cons rfl (fun K hK=>?_) AllReady.nil
     go_simp
     refine(unhide HG _).mono ?_
     rintro e w3 ⟨v,xs,en,rfl,ho,hgot,hb3⟩
     obtain⟨a1,c1,rfl,hr1⟩:=ho.row
     have HA:Hid (∀ad,a1=some ad→xs.length≠0→w2.heap.size≤ad.block):=hide (ho.apart)
     have HAN:=hide (show w.heap.size≤w2.heap.size from(unhide B2).size)
     have HR3:=hide hr1
     have HP:=hide hgot
     have b23:Below w2.heap.size w2 w3:=(Below.refl _ _).drew.trans hb3
     have V2:=hide ((unhide Z2).below b23)
     have V4:=hide ((unhide Z4).below b23)
     have B3:=hide (below0 (unhide B2) b23)
     have HLT:=hide (show g<w2.heap.size from(unhide Z4).lt)
     clear ho hr1 hgot hb3 b23 Z2 Z4 B2 HG HZ
     refine hK _ _ ?_
     clear hK K
     refine wpAny_take (i:=6) (v:=?_) rfl (by kernel_rfl) (by kernel_rfl) (by kernel_rfl) (fun _ _ _ h=>h) (Or.inl ⟨by rfl,?f6⟩) ?_
     case f6=>(intro w;go_simp;try with_reducible rfl)
     refine wpAny_take (i:=7) (v:=?_) rfl (by kernel_rfl) (by kernel_rfl) (by kernel_rfl) (fun _ _ _ h=>h) (Or.inl ⟨by rfl,?f7⟩) ?_
     case f7=>(intro w;go_simp;try with_reducible rfl)
     refine wpAny_take (i:=8) (v:=?_) rfl (by kernel_rfl) (by kernel_rfl) (by kernel_rfl) (fun _ _ _ h=>h) (Or.inl ⟨by rfl,?f8⟩) ?_
     case f8=>(intro w;go_simp;try with_reducible rfl)
     refine wpAny_take (i:=9) (v:=?_) rfl (by kernel_rfl) (by kernel_rfl) (by kernel_rfl) (fun _ _ _ h=>h) (Or.inl ⟨by rfl,?f9⟩) ?_
     case f9=>(intro w;go_simp;try with_reducible rfl)
     refine wpAny_take (i:=10) (v:=?_) rfl (by kernel_rfl) (by kernel_rfl) (by kernel_rfl) (fun _ _ _ h=>h) (Or.inl ⟨by rfl,?f10⟩) ?_
     case f10=>(intro w;go_simp;try with_reducible rfl)
     obtain⟨m0,m1,m2,m3,m4,m5,m6⟩:=(unhide V4).at
     have mf:=(unhide V4).frz
     refine wpAny_ready (rs:=[11]) (by kernel_rfl) (by simp) ?_
     refine AllReady.cons rfl (fun K hK=>?_) AllReady.nil
     go_simp
     refine hK _ _ ?_
     clear hK K
     refine wpAny_done (by kernel_rfl) ?_ _
     clear m0 m1 m2 m3 m4 m5 m6 mf
     have U4:=hide ((unhide V4).set5 (.slice a1 xs.length c1))
     have U2:=hide ((unhide V2).other (a:=⟨g,5,none⟩) (Nat.ne_of_lt hlt) (.slice a1 xs.length c1))
     have B4:=hide ((unhide B3).setCell (p:=⟨g,5,none⟩) (Nat.le_of_lt hlt) (.slice a1 xs.length c1))
     have HR4:=hide ((unhide HR3).other (B:=g) (fun ad h1 h2=>by have:=unhide HA ad h1 h2;have:=unhide HLT;omega) 5 (.slice a1 xs.length c1))
     clear V4 V2 B3 HR3
     generalize w3.setCell ⟨g,5,none⟩ (.slice a1 xs.length c1)=w4 at*
     go_wp2_with fail
     refine(Zbp (s.extract 27 (27+dZ s)) _ (by rw[ByteArray.size_extract];omega)).mono ?_
     rintro e w5 ⟨rfl,hb5⟩
     have T4:=hide ((unhide U4).below hb5)
     have T2:=hide ((unhide U2).below hb5)
     have B5:=hide (below0 (unhide B4) hb5)
     have HR5:=hide ((unhide HR4).below hb5)
     have HTS:=hide (show(s.extract 27 (27+dZ s)).size=dZ s by have:=unhide HSZ;rw[ByteArray.size_extract];omega)
     have HGG:=hide (fun hsz=>Znv (s:=s) (D:=27) (unhide HN) hsz (by have:=unhide HS;omega) (unhide HP))
     obtain⟨T,hT⟩:∃T,s.extract 27 (27+dZ s)=T:=⟨_,rfl⟩
     have HT:=hide hT
     rw[hT]at HTS
     rw[hT]
     clear hT
     clear hb5 U4 U2 B4 HR4 k2 k3
     have S4:=hide ((unhide T4).set6 (.string T))
     have S2:=hide ((unhide T2).other (a:=⟨g,6,none⟩) (Nat.ne_of_lt hlt) (.string T))
     have B6:=hide ((unhide B5).setCell (p:=⟨g,6,none⟩) (Nat.le_of_lt hlt) (.string T))
     have HR6:=hide ((unhide HR5).other (B:=g) (fun ad h1 h2=>by have:=unhide HA ad h1 h2;have:=unhide HLT;omega) 6 (.string T))
     obtain⟨m0,m1,m2,m3,m4,m5,m6⟩:=(unhide T4).at
     have mf:=(unhide T4).frz
     by_cases hgt:27+((dZ s:Nat):Int)<(s.size:Int)
     ·have HB:=hide (show¬Zca s∧¬ZfA s from⟨by rintro(h|h);exact unhide H11 h;have:=h.2;have:=unhide HN;omega,fun h=>by have:=h.2.2.2;have:=unhide HN;omega⟩)
      clear m0 m1 m2 m3 m4 m5
      have f0:=mf 6
      clear mf
      obtain⟨n0,n1,n2,n3,n4,n5,n6⟩:=(unhide S2).at
      have nf:=(unhide S2).frz
      obtain⟨k0,k1,k2,k3,k4,k5,k6⟩:=(unhide T2).at
      have kf:=(unhide T2).frz
      go_wp2
      have q:=hide ((unhide S2).sets (.int .i64 0) (.int .i64 0) (.int .i64 0) (.int .i64 0) (.int .i64 0) (.slice none 0 0) (.string ⟨#[]⟩))
      have b:=hide (Zbd (unhide B6) (Nat.le_refl _) (.int .i64 0) (.int .i64 0) (.int .i64 0) (.int .i64 0) (.int .i64 0) (.slice none 0 0) (.string ⟨#[]⟩))
      exact bodyPost_ret (ZaL rfl rfl (unhide q)) rfl (Zb0 (en:=3) (.inr ⟨(unhide HB).1,(unhide HB).2,rfl⟩) (unhide b))
     ·have HEQ:=hide (show s.size=27+dZ s by have:=unhide HSZ;omega)
      have HNS:=hide (show¬Zca s from by rintro(h|h);exact unhide H11 h;have:=h.2;have:=unhide HN;omega)
      obtain⟨n0,n1,n2,n3,n4,n5,n6⟩:=(unhide S4).at
      obtain⟨ck,hck⟩:=ZyW (ZaX (dO s) (dL s) (dK s) (dZ s) (dH s) xs T.size)
      have HC:=hide hck
      clear hck
      go_wp2_with fail
      refine(ZaR _ _ _ _ _ a1 xs.length c1 xs T _ (unhide HR6) ck (unhide HC)).mono ?_
      rintro e w7 ⟨rfl,hb7⟩
      have R4:=hide ((unhide S4).below hb7)
      have R2:=hide ((unhide S2).below hb7)
      have B7:=hide (below0 (unhide B6) hb7)
      have HR7:=hide ((unhide HR6).below hb7)
      clear hb7 n0 n1 n2 n3 n4 n5 n6 m0 m1 m2 m3 m4 m5 m6 mf
      rcases(unhide HC)with⟨hP,rfl⟩|⟨hP,rfl⟩
      ·rw[unhide HTS]at hP
       have HPP:=hide hP
       clear hP HC
       obtain⟨n0,n1,n2,n3,n4,n5,n6⟩:=(unhide R4).at
       obtain⟨k0,k1,k2,k3,k4,k5,k6⟩:=(unhide R2).at
       have kf:=(unhide R2).frz
       go_wp2
       have q:=hide ((unhide R2).sets (.int .i64 ((dO s:Nat):Int)) (.int .i64 ((dL s:Nat):Int)) (.int .i64 ((dK s:Nat):Int)) (.int .i64 ((dZ s:Nat):Int)) (.int .i64 ((dH s:Nat):Int)) (.slice a1 xs.length c1) (.string T))
       have b:=hide (Zbd (unhide B7) (Nat.le_refl _) (.int .i64 ((dO s:Nat):Int)) (.int .i64 ((dL s:Nat):Int)) (.int .i64 ((dK s:Nat):Int)) (.int .i64 ((dZ s:Nat):Int)) (.int .i64 ((dH s:Nat):Int)) (.slice a1 xs.length c1) (.string T))
       have r:=hide ((unhide HR7).other7 (B:=w.heap.size) (fun ad h1 h2=>by have:=unhide HA ad h1 h2;have:=unhide HLT;omega) (.int .i64 ((dO s:Nat):Int)) (.int .i64 ((dL s:Nat):Int)) (.int .i64 ((dK s:Nat):Int)) (.int .i64 ((dZ s:Nat):Int)) (.int .i64 ((dH s:Nat):Int)) (.slice a1 xs.length c1) (.string T))
       have hgg:=unhide HGG (unhide HEQ)
       have hX:=hgg.2 (unhide HPP)
       exact bodyPost_ret (ZaL rfl rfl (unhide q)) rfl ⟨_,_,_,_,_,a1,xs.length,c1,xs,T,0,rfl,unhide r,(fun ad h1 h2=>Nat.le_trans (unhide HAN) (unhide HA ad h1 h2)),.inr (.inr ⟨unhide HNS,hgg.1.1 (unhide HPP),rfl,rfl,rfl,rfl,rfl,rfl,hX,by rw[←unhide HT,unhide HN,unhide HEQ]⟩),unhide b⟩
      ·rw[unhide HTS]at hP
       have HPP:=hide hP
       clear hP HC
       obtain⟨k0,k1,k2,k3,k4,k5,k6⟩:=(unhide R2).at
       have kf:=(unhide R2).frz
       go_wp2
       have q:=hide ((unhide R2).sets (.int .i64 0) (.int .i64 0) (.int .i64 0) (.int .i64 0) (.int .i64 0) (.slice none 0 0) (.string ⟨#[]⟩))
       have b:=hide (Zbd (unhide B7) (Nat.le_refl _) (.int .i64 0) (.int .i64 0) (.int .i64 0) (.int .i64 0) (.int .i64 0) (.slice none 0 0) (.string ⟨#[]⟩))
       have hgg:=unhide HGG (unhide HEQ)
       exact bodyPost_ret (ZaL rfl rfl (unhide q)) rfl (Zb0 (en:=3) (.inr ⟨unhide HNS,fun h=>unhide HPP (hgg.1.2 h),rfl⟩) (unhide b))
end Go.Proofs.YtlhhinlghhjghaaGreatDoor
