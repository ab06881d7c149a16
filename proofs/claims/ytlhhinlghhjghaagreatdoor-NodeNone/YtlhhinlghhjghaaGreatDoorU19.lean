/-
  Contracts of frame.within, bodyOf, fits, Check: for every frame whose row has at most 2^20 words.
  Contracts of packet.Encode and bucketlineref07.Encode: for every packet.
  Contracts of frame.written and frame.Encode: for every frame whose row has at most 2^20 words.
-/
import Derived.Test.YtlhhinlghhjghaaGreatDoorU18
import Derived.Test.YtlhhinlghhjghaaGreatDoorU16
import Derived.Test.YtlhhinlghhjghaaGreatDoorU15
import Derived.Test.YtlhhinlghhjghaaGreatDoorU12
namespace Go.Proofs.YtlhhinlghhjghaaGreatDoor
open Go.RowKit Go.Sort
set_option linter.unusedVariables false
set_option linter.unusedSimpArgs false
set_option maxRecDepth 4000
set_option maxHeartbeats 8000000
def FrAt(w:World)(g:Nat)(u0 u1 u2 v0 v1 v2 v3 v4 v5 v6:Value):Prop:=
 (w.cell? ⟨g,0,none⟩=some u0∧w.cell? ⟨g,1,none⟩=some u1∧w.cell? ⟨g,2,none⟩=some u2)∧w.cell? ⟨g,3,none⟩=some v0∧w.cell? ⟨g,4,none⟩=some v1∧w.cell? ⟨g,5,none⟩=some v2∧w.cell? ⟨g,6,none⟩=some v3∧w.cell? ⟨g,7,none⟩=some v4∧w.cell? ⟨g,8,none⟩=some v5∧w.cell? ⟨g,9,none⟩=some v6
theorem ZAy(w:World)(u0 u1 u2 v0 v1 v2 v3 v4 v5 v6:Value):FrAt (w.alloc (.cells #[u0,u1,u2,v0,v1,v2,v3,v4,v5,v6] 78)) w.heap.size u0 u1 u2 v0 v1 v2 v3 v4 v5 v6:=by
 refine⟨⟨?_,?_,?_⟩,?_,?_,?_,?_,?_,?_,?_⟩<;>simp
theorem FrAt.below{w w':World}{g:Nat}{u0 u1 u2 v0 v1 v2 v3 v4 v5 v6:Value}(h:FrAt w g u0 u1 u2 v0 v1 v2 v3 v4 v5 v6)(hb:Below w.heap.size w w'):FrAt w' g u0 u1 u2 v0 v1 v2 v3 v4 v5 v6:=by
 obtain⟨⟨g0,g1,g2⟩,h0,h1,h2,h3,h4,h5,h6⟩:=h
 have e:∀o,w'.cell? ⟨g,o,none⟩=w.cell? ⟨g,o,none⟩:=fun o=>hb.cell (show g<w.heap.size from World.block_lt_of_cell? w ⟨g,0,none⟩ g0)
 exact⟨⟨(e _).trans g0,(e _).trans g1,(e _).trans g2⟩,(e _).trans h0,(e _).trans h1,(e _).trans h2,(e _).trans h3,(e _).trans h4,(e _).trans h5,(e _).trans h6⟩
theorem ZvQ(x:Value)(w:World):(Instr.makeInterface 232 x).run Tryz.prog w=.ok (.iface 232 x) w:=run_makeInterface w 232 x (by kernel_rfl)
theorem Zyp(x:Value)(w:World):(Instr.makeInterface 233 x).run Tryz.prog w=.ok (.iface 233 x) w:=run_makeInterface w 233 x (by kernel_rfl)
theorem ZBh(v:Value)(w:World):(Instr.typeAssert (.iface 232 v) 20 232 true).run Tryz.prog w=.ok (.tuple #[v,.bool true]) w:=by kernel_rfl
theorem ZyC(v:Value)(w:World):(Instr.typeAssert (.iface 233 v) 20 233 true).run Tryz.prog w=.ok (.tuple #[v,.bool true]) w:=by kernel_rfl
theorem ZBo(v:Value)(w:World):(Instr.typeAssert (.iface 233 v) 20 232 true).run Tryz.prog w=.ok (.tuple #[.agg #[.int .i64 0,.int .i64 0,.int .i64 0,.int .i64 0,.int .i64 0,.slice none 0 0,.string ⟨#[]⟩],.bool false]) w:=by kernel_rfl
theorem ZBI(v:Value)(w:World):(Instr.typeAssert (.iface 232 v) 20 233 true).run Tryz.prog w=.ok (.tuple #[.agg #[.int .i64 0,.int .i64 0,.int .i64 0,.int .i64 0,.int .i64 0,.slice none 0 0,.string ⟨#[]⟩],.bool false]) w:=by kernel_rfl
theorem ZAS(w:World):(Instr.typeAssert .nilIface 20 232 true).run Tryz.prog w=.ok (.tuple #[.agg #[.int .i64 0,.int .i64 0,.int .i64 0,.int .i64 0,.int .i64 0,.slice none 0 0,.string ⟨#[]⟩],.bool false]) w:=by kernel_rfl
theorem ZAj(w:World):(Instr.typeAssert .nilIface 20 233 true).run Tryz.prog w=.ok (.tuple #[.agg #[.int .i64 0,.int .i64 0,.int .i64 0,.int .i64 0,.int .i64 0,.slice none 0 0,.string ⟨#[]⟩],.bool false]) w:=by kernel_rfl
theorem ZhC(n hi:Int)(w:World)(b:Bool)(hb:TB b (0≤n∧n≤hi)):
  Calls Tryz.prog 191 #[.int .i64 n,.int .i64 hi] w fun e w'=>e=.returned (.bool b)∧w'=w:=by
 have HB:=hide hb
 clear hb
 by_cases h1:0≤n
 ·by_cases h2:n≤hi
  ·go_enter Tryz.func191,Tryz.ntmps191
   go_wp2
   go_ret
   exact⟨Zak ((unhide HB).yes ⟨h1,h2⟩).symm,rfl⟩
  ·go_enter Tryz.func191,Tryz.ntmps191
   go_wp2
   go_ret
   exact⟨Zak ((unhide HB).no (fun h=>by omega)).symm,rfl⟩
 ·go_enter Tryz.func191,Tryz.ntmps191
  go_wp2
  go_ret
  exact⟨Zak ((unhide HB).no (fun h=>by omega)).symm,rfl⟩
def ZgI(kd:Int)(v0 v1 v2 v3 v4 v5 v6:Value):Value:=if kd=1 then .iface 232 (.agg #[v0,v1,v2,v3,v4,v5,v6])else if kd=2 then .iface 233 (.agg #[v0,v1,v2,v3,v4,v5,v6])else .nilIface
theorem ZnA(v0 v1 v2 v3 v4 v5 v6:Value):ZgI 1 v0 v1 v2 v3 v4 v5 v6=.iface 232 (.agg #[v0,v1,v2,v3,v4,v5,v6]):=rfl
theorem ZnD(v0 v1 v2 v3 v4 v5 v6:Value):ZgI 2 v0 v1 v2 v3 v4 v5 v6=.iface 233 (.agg #[v0,v1,v2,v3,v4,v5,v6]):=rfl
theorem ZrF{kd:Int}(h1:kd≠1)(h2:kd≠2)(v0 v1 v2 v3 v4 v5 v6:Value):ZgI kd v0 v1 v2 v3 v4 v5 v6=.nilIface:=by
 unfold ZgI
 rw[if_neg h1,if_neg h2]
theorem ZjO(kd:Int)(u1 u2 v0 v1 v2 v3 v4 v5 v6:Value)(w:World):
  Calls Tryz.prog 67 #[.agg #[.int .i64 kd,u1,u2,v0,v1,v2,v3,v4,v5,v6]] w fun e w'=>e=.returned (ZgI kd v0 v1 v2 v3 v4 v5 v6)∧Below w.heap.size w w':=by
 have B0:=hide (Zaf w (.cells #[.int .i64 kd,u1,u2,v0,v1,v2,v3,v4,v5,v6] 78))
 have m1:=ZvQ
 have m2:=Zyp
 by_cases h1:kd=1
 ·subst h1
  rw[ZnA]
  go_enter Tryz.func67,Tryz.ntmps67
  go_wp2
  go_ret
  exact⟨rfl,unhide B0⟩
 ·by_cases h2:kd=2
  ·subst h2
   rw[ZnD]
   go_enter Tryz.func67,Tryz.ntmps67
   go_wp2
   go_ret
   exact⟨rfl,unhide B0⟩
  ·rw[ZrF h1 h2]
   go_enter Tryz.func67,Tryz.ntmps67
   go_wp2
   go_ret
   exact⟨rfl,unhide B0⟩
theorem Zqu(o l k z h:Int)(a:Option Addr)(n c:Nat)(xs:List Nat)(s:ByteArray)(w:World)(ht:Tab w)(hr:RowAt w a n xs)(hn:n≤1048576)(b:Bool)(hb:TB b (Zyy o l k z h xs s)):
  Calls Tryz.prog 192 #[.iface 232 (.agg #[.int .i64 o,.int .i64 l,.int .i64 k,.int .i64 z,.int .i64 h,.slice a n c,.string s])] w fun e w'=>e=.returned (.bool b)∧Below w.heap.size w w':=by
 have HT:=hide (ht.below (Zaf w (.cells #[.int .i64 o,.int .i64 l,.int .i64 k,.int .i64 z,.int .i64 h,.slice a n c,.string s] 232)))
 have HR:=hide (Zbu hr (.cells #[.int .i64 o,.int .i64 l,.int .i64 k,.int .i64 z,.int .i64 h,.slice a n c,.string s] 232))
 have HS:=hide (fun wx (htx:Tab wx) (hrx:RowAt wx a n xs)=>Zld o l k z h a n c xs s 0 0 0 0 0 none 0 0 [] ⟨#[]⟩ wx htx hrx (ZbT _) hn (by decide) b hb)
 have B0:=hide (Zaf w (.cells #[.int .i64 o,.int .i64 l,.int .i64 k,.int .i64 z,.int .i64 h,.slice a n c,.string s] 232))
 have m1:=ZBh
 clear hb ht hr hn
 go_enter Tryz.func192,Tryz.ntmps192
 go_wp2_with fail
 refine(unhide HS _ (unhide HT) (unhide HR)).mono ?_
 rintro e w1 ⟨rfl,hb1⟩
 have B1:=hide (below0 (unhide B0) hb1)
 clear hb1
 go_wp2
 go_ret
 exact⟨rfl,unhide B1⟩
theorem Zrd(o l k z h:Int)(a:Option Addr)(n c:Nat)(xs:List Nat)(s:ByteArray)(w:World)(hr:RowAt w a n xs)(b:Bool)(hb:TB b (ZaX o l k z h xs s.size)):
  Calls Tryz.prog 192 #[.iface 233 (.agg #[.int .i64 o,.int .i64 l,.int .i64 k,.int .i64 z,.int .i64 h,.slice a n c,.string s])] w fun e w'=>e=.returned (.bool b)∧Below w.heap.size w w':=by
 obtain⟨ck,hck⟩:=ZyW (ZaX o l k z h xs s.size)
 have HB:=hide hb
 have HC:=hide hck
 have HS:=hide (ZaR o l k z h a n c xs s _ (Zbu hr (.cells #[.int .i64 o,.int .i64 l,.int .i64 k,.int .i64 z,.int .i64 h,.slice a n c,.string s] 233)) ck hck)
 have B0:=hide (Zaf w (.cells #[.int .i64 o,.int .i64 l,.int .i64 k,.int .i64 z,.int .i64 h,.slice a n c,.string s] 233))
 have m1:=ZBo
 have m2:=ZyC
 clear hb hr hck
 go_enter Tryz.func192,Tryz.ntmps192
 go_wp2_with fail
 refine(unhide HS).mono ?_
 rintro e w1 ⟨rfl,hb1⟩
 have B1:=hide (below0 (unhide B0) hb1)
 clear hb1 HS
 rcases(unhide HC)with⟨hP,rfl⟩|⟨hP,rfl⟩
 ·have HP:=hide hP
  clear hP HC
  go_wp2
  go_ret
  exact⟨Zak ((unhide HB).yes (unhide HP)).symm,unhide B1⟩
 ·have HP:=hide hP
  clear hP HC
  go_wp2
  go_ret
  exact⟨Zak ((unhide HB).no (unhide HP)).symm,unhide B1⟩
theorem Zrr(w:World):Calls Tryz.prog 192 #[.nilIface] w fun e w'=>e=.returned (.bool false)∧w'=w:=by
 have m1:=ZAS
 have m2:=ZAj
 go_enter Tryz.func192,Tryz.ntmps192
 go_wp2
 go_ret
 exact⟨rfl,rfl⟩
theorem Ztm(kd o l k z h:Int)(a:Option Addr)(n c:Nat)(xs:List Nat)(s:ByteArray)(w:World)(ht:Tab w)(hr:RowAt w a n xs)(hn:n≤1048576)(b:Bool)(hb:TB b (FitP kd o l k z h xs s)):
  Calls Tryz.prog 192 #[ZgI kd (.int .i64 o) (.int .i64 l) (.int .i64 k) (.int .i64 z) (.int .i64 h) (.slice a n c) (.string s)] w fun e w'=>e=.returned (.bool b)∧Below w.heap.size w w':=by
 by_cases h1:kd=1
 ·subst h1
  rw[ZnA]
  refine Zqu o l k z h a n c xs s w ht hr hn b ⟨fun h=>?_,fun h=>hb.2 (.inl ⟨rfl,h⟩)⟩
  rcases hb.1 h with h|h
  ·exact h.2
  ·exact absurd h.1 (by decide)
 ·by_cases h2:kd=2
  ·subst h2
   rw[ZnD]
   refine Zrd o l k z h a n c xs s w hr b ⟨fun h=>?_,fun h=>hb.2 (.inr ⟨rfl,h⟩)⟩
   rcases hb.1 h with h|h
   ·exact absurd h.1 (by decide)
   ·exact h.2
  ·rw[ZrF h1 h2]
   refine(Zrr w).mono fun e w' ⟨he,hw⟩=>⟨?_,by rw[hw];exact Below.refl _ _⟩
   rw[he,hb.no (fun h=>by rcases Zzx h with h|h;exact h1 h;exact h2 h)]
theorem ZoQ(kd fr ic o l k z h:Int)(a:Option Addr)(n c:Nat)(xs:List Nat)(s:ByteArray)(w:World)(ht:Tab w)(hr:RowAt w a n xs)(hn:n≤1048576)(en:Nat)(hen:CkP en (ZvB kd fr ic o l k z h xs s)):
  Calls Tryz.prog 140 #[.agg #[.int .i64 kd,.int .i64 fr,.int .i64 ic,.int .i64 o,.int .i64 l,.int .i64 k,.int .i64 z,.int .i64 h,.slice a n c,.string s]] w fun e w'=>e=.returned (.int .i64 ((en:Nat):Int))∧Below w.heap.size w w':=by
 obtain⟨b1,h1⟩:=ZfF (0≤fr∧fr≤7)
 obtain⟨b2,h2⟩:=ZfF (0≤ic∧ic≤4294967295)
 obtain⟨b3,h3⟩:=ZfF (FitP kd o l k z h xs s)
 have H1:=hide h1
 have H2:=hide h2
 have H3:=hide h3
 have HE:=hide hen
 have HF:=hide (fun wx (htx:Tab wx) (hrx:RowAt wx a n xs)=>Ztm kd o l k z h a n c xs s wx htx hrx hn b3 h3)
 have HB:=hide (fun wx=>ZjO kd (.int .i64 fr) (.int .i64 ic) (.int .i64 o) (.int .i64 l) (.int .i64 k) (.int .i64 z) (.int .i64 h) (.slice a n c) (.string s) wx)
 have HT:=hide ht
 have HR:=hide hr
 have B0:=hide (Zaf w (.cells #[.int .i64 kd,.int .i64 fr,.int .i64 ic,.int .i64 o,.int .i64 l,.int .i64 k,.int .i64 z,.int .i64 h,.slice a n c,.string s] 78))
 generalize ZgI kd (.int .i64 o) (.int .i64 l) (.int .i64 k) (.int .i64 z) (.int .i64 h) (.slice a n c) (.string s)=V at*
 clear h1 h2 h3 hen ht hr hn
 go_enter Tryz.func140,Tryz.ntmps140
 go_wp2_with fail
 refine(ZhC fr 7 _ b1 (unhide H1)).mono ?_
 rintro e w' ⟨rfl,hw⟩
 obtain rfl:=hw.symm
 clear hw
 cases b1
 ·rcases(unhide HE)with⟨hP,rfl⟩|⟨hP,rfl⟩
  ·exact absurd ((unhide H1).2 hP.1) (by decide)
  ·clear hP
   go_wp2
   go_ret
   exact⟨rfl,unhide B0⟩
 ·go_wp2_with fail
  refine(ZhC ic 4294967295 _ b2 (unhide H2)).mono ?_
  rintro e w' ⟨rfl,hw⟩
  obtain rfl:=hw.symm
  clear hw
  cases b2
  ·rcases(unhide HE)with⟨hP,rfl⟩|⟨hP,rfl⟩
   ·exact absurd ((unhide H2).2 hP.2.1) (by decide)
   ·clear hP
    go_wp2
    go_ret
    exact⟨rfl,unhide B0⟩
  ·go_wp2_with fail
   refine(unhide HB _).mono ?_
   rintro e w1 ⟨rfl,hb1⟩
   have B1:=hide (below0 (unhide B0) hb1)
   clear hb1
   go_wp2_with fail
   refine(unhide HF _ ((unhide HT).below (unhide B1)) ((unhide HR).below (unhide B1))).mono ?_
   rintro e w2 ⟨rfl,hb2⟩
   have B2:=hide (below0 (unhide B1) hb2)
   clear hb2
   cases b3
   ·rcases(unhide HE)with⟨hP,rfl⟩|⟨hP,rfl⟩
    ·exact absurd ((unhide H3).2 hP.2.2) (by decide)
    ·clear hP
     go_wp2
     go_ret
     exact⟨rfl,unhide B2⟩
   ·rcases(unhide HE)with⟨hP,rfl⟩|⟨hP,rfl⟩
    ·clear hP
     go_wp2
     go_ret
     exact⟨rfl,unhide B2⟩
    ·exact absurd ⟨(unhide H1).1 rfl,(unhide H2).1 rfl,(unhide H3).1 rfl⟩ hP
theorem ZAO(o l k z h:Int)(xs:List Nat)(s:ByteArray):
  st (Zbc o 4)++st (Zbc l 4)++st (Zbc k 1)++st (Zbc z 1)++st (Zbc h 1)++st (beV xs)++s=st (encL o l k z h xs (tx s)):=by
 apply ZhO
 rw[Zdl (ZcU _ _ _ _ _ _ _ (Zal s))]
 simp only[Zj9,Zdl (Za9 _ _),Zdl (Zk3 _),encL]
theorem Zg5(n:Int):(st (Zbc n 4)).size=4:=by rw[Zb1,Zgh,Zan]
theorem ZdL(n:Int):(st (Zbc n 1)).size=1:=by rw[Zb1,Zeg,Zan]
theorem ZBl{a b:ByteArray}{x:Int}(h:a=b):Ending.returned (.tuple #[.string a,.int .i64 x])=.returned (.tuple #[.string b,.int .i64 x]):=by rw[h]
theorem Zum(o l k z h:Int)(a:Option Addr)(n c:Nat)(xs:List Nat)(s:ByteArray)(w:World)(hr:RowAt w a n xs)(hP:ZaX o l k z h xs s.size):
  Calls Tryz.prog 130 #[.agg #[.int .i64 o,.int .i64 l,.int .i64 k,.int .i64 z,.int .i64 h,.slice a n c,.string s]] w fun e w'=>e=.returned (.tuple #[.string (st (encL o l k z h xs (tx s))),.int .i64 0])∧Below w.heap.size w w':=by
 have hn:n≤2:=by have:=ZeJ hP.2.1;have:=hr.1;omega
 have hs:s.size≤64:=by have:=hP.2.2.2;have:=hP.1.1.2.2;omega
 have hv:(st (beV xs)).size≤16:=by rw[Zb1,Zcj,hr.1];omega
 have B0:=hide (Zaf w (.cells #[.int .i64 o,.int .i64 l,.int .i64 k,.int .i64 z,.int .i64 h,.slice a n c,.string s] 59))
 have HC:=hide (ZaR o l k z h a n c xs s _ (Zbu hr (.cells #[.int .i64 o,.int .i64 l,.int .i64 k,.int .i64 z,.int .i64 h,.slice a n c,.string s] 59)) 0 (.inl ⟨hP,rfl⟩))
 have HX:=hide (Zdj w (.int .i64 o) (.int .i64 l) (.int .i64 k) (.int .i64 z) (.int .i64 h) (.slice a n c) (.string s))
 have HR:=hide (Zbu hr (.cells #[.int .i64 o,.int .i64 l,.int .i64 k,.int .i64 z,.int .i64 h,.slice a n c,.string s] 59))
 have HT:=hide (ZAO o l k z h xs s)
 have p1:=Zg5 o
 have p2:=Zg5 l
 have p3:=ZdL k
 have p4:=ZdL z
 have p5:=ZdL h
 have P1:=hide (fun w'=>ZcK o 4 w')
 have P2:=hide (fun w'=>ZcK l 4 w')
 have P3:=hide (fun w'=>ZcK k 1 w')
 have P4:=hide (fun w'=>ZcK z 1 w')
 have P5:=hide (fun w'=>ZcK h 1 w')
 have P6:=hide (fun w' hr'=>Zpo a n c xs w' hr' (by omega))
 generalize st (encL o l k z h xs (tx s))=T at*
 generalize st (Zbc o 4)=t1 at*
 generalize st (Zbc l 4)=t2 at*
 generalize st (Zbc k 1)=t3 at*
 generalize st (Zbc z 1)=t4 at*
 generalize st (Zbc h 1)=t5 at*
 generalize st (beV xs)=t6 at*
 have q2:(9223372036854775807<t1.size+t2.size)=False:=eq_false (by omega)
 have q3:(9223372036854775807<t1.size+t2.size+t3.size)=False:=eq_false (by omega)
 have q4:(9223372036854775807<t1.size+t2.size+t3.size+t4.size)=False:=eq_false (by omega)
 have q5:(9223372036854775807<t1.size+t2.size+t3.size+t4.size+t5.size)=False:=eq_false (by omega)
 have q6:(9223372036854775807<t1.size+t2.size+t3.size+t4.size+t5.size+t6.size)=False:=eq_false (by omega)
 have q7:(9223372036854775807<t1.size+t2.size+t3.size+t4.size+t5.size+t6.size+s.size)=False:=eq_false (by omega)
 clear hr hP p1 p2 p3 p4 p5 hn hs hv
 go_enter Tryz.func130,Tryz.ntmps130
 go_wp2_with fail
 refine(unhide HC).mono ?_
 rintro e w1 ⟨rfl,hb1⟩
 have HX1:=hide ((unhide HX).below hb1)
 have HR1:=hide ((unhide HR).below hb1)
 have B1:=hide (below0 (unhide B0) hb1)
 clear hb1 HC B0 HX HR
 have k0:=cell_regrown (unhide HX1).1
 have k1:=cell_regrown (unhide HX1).2.1
 have k2:=cell_regrown (unhide HX1).2.2.1
 have k3:=cell_regrown (unhide HX1).2.2.2.1
 have k4:=cell_regrown (unhide HX1).2.2.2.2.1
 have c1:=Za6 (W:=w1) (fun w' hb=>unhide P1 w')
 have c2:=Za6 (W:=w1) (fun w' hb=>unhide P2 w')
 have c3:=Za6 (W:=w1) (fun w' hb=>unhide P3 w')
 have c4:=Za6 (W:=w1) (fun w' hb=>unhide P4 w')
 have c5:=Za6 (W:=w1) (fun w' hb=>unhide P5 w')
 go_wp2_with fail
 refine wp_region_quiet_below (by kernel_rfl) (by kernel_rfl) ?_
 repeat (with_reducible refine wpQuiet_step (fun K hK=>?_);go_simp;first|(with_reducible refine hK _ ?_;clear hK K)|(apply Exists.intro;apply And.intro;(intro _;go_at_call 141;first|with_reducible exact c1 _ _|with_reducible exact c2 _ _|with_reducible exact c3 _ _|with_reducible exact c4 _ _|with_reducible exact c5 _ _);with_reducible refine hK _ ?_;clear hK K))
 refine wpQuiet_nil ?_
 intro w2 hw2
 obtain⟨⟨dq,osq⟩,hw2⟩:=hw2
 have hb2:Below w1.heap.size w1 w2:=by rw[hw2];exact below_regrown _ dq osq
 clear hw2 k0 k1 k2 k3 k4 c1 c2 c3 c4 c5 dq osq
 have HX2:=hide ((unhide HX1).below hb2)
 have HR2:=hide ((unhide HR1).below hb2)
 have B2:=hide (below0 (unhide B1) hb2)
 clear hb2 HX1 HR1 B1
 have k5:=cell_regrown (unhide HX2).2.2.2.2.2.1
 have k6:=cell_regrown (unhide HX2).2.2.2.2.2.2
 have c6:=Za6 (W:=w2) (fun w' hb=>unhide P6 w' ((unhide HR2).below hb))
 go_wp2_with fail
 refine wp_region_quiet_below (by kernel_rfl) (by kernel_rfl) ?_
 repeat (with_reducible refine wpQuiet_step (fun K hK=>?_);go_simp;first|(with_reducible refine hK _ ?_;clear hK K)|(apply Exists.intro;apply And.intro;(intro _;go_at_call 182;exact c6 _ _);with_reducible refine hK _ ?_;clear hK K))
 refine wpQuiet_nil ?_
 intro w3 hw3
 obtain⟨⟨dq,osq⟩,hw3⟩:=hw3
 have hb3:Below w2.heap.size w2 w3:=by rw[hw3];exact below_regrown _ dq osq
 clear hw3 k5 k6 c6 dq osq
 have B3:=hide (below0 (unhide B2) hb3)
 clear hb3
 go_wp2
 go_ret2
 exact⟨ZBl (unhide HT),unhide B3⟩
theorem Zz8(kd fr ic:Int)(B:ByteArray):st (Zbc kd 1)++st (Zbc fr 1)++st (Zbc ic 4)++B=st (ZdE kd fr ic (tx B)):=by
 apply ZhO
 rw[Zdl (Zhf _ _ _ _ (Zal B))]
 simp only[Zj9,Zdl (Za9 _ _),ZdE]
theorem Zuu{kd o l k z h:Int}{xs:List Nat}{s:ByteArray}(hP:FitP kd o l k z h xs s):(Zgl kd o l k z h xs s).size≤91:=by
 rcases hP with⟨rfl,_⟩|⟨rfl,hP⟩
 ·rw[Zgw]
  decide
 ·rw[Zgx,enc_size]
  have h1:=ZeJ hP.2.1
  have h2:=hP.2.2.2
  have h3:=hP.1.1.2.2
  omega
theorem ZmN(kd o l k z h:Int)(a:Option Addr)(n c:Nat)(xs:List Nat)(s:ByteArray)(w:World)(hr:RowAt w a n xs)(hP:FitP kd o l k z h xs s):
  Calls Tryz.prog 143 #[ZgI kd (.int .i64 o) (.int .i64 l) (.int .i64 k) (.int .i64 z) (.int .i64 h) (.slice a n c) (.string s)] w fun e w'=>e=.returned (.string (Zgl kd o l k z h xs s))∧Below w.heap.size w w':=by
 rcases hP with⟨rfl,_⟩|⟨rfl,hP⟩
 ·rw[ZnA,Zgw]
  have m1:=ZBI
  go_enter Tryz.func143,Tryz.ntmps143
  go_wp2
  go_ret
  exact⟨rfl,Below.refl _ _⟩
 ·rw[ZnD,Zgx]
  have HE:=hide (Zum o l k z h a n c xs s _ (Zbu hr (.cells #[.int .i64 o,.int .i64 l,.int .i64 k,.int .i64 z,.int .i64 h,.slice a n c,.string s] 233)) hP)
  have B0:=hide (Zaf w (.cells #[.int .i64 o,.int .i64 l,.int .i64 k,.int .i64 z,.int .i64 h,.slice a n c,.string s] 233))
  generalize st (encL o l k z h xs (tx s))=T at*
  have m1:=ZyC
  clear hr hP
  go_enter Tryz.func143,Tryz.ntmps143
  go_wp2_with fail
  refine(unhide HE).mono ?_
  rintro e w1 ⟨rfl,hb1⟩
  have B1:=hide (below0 (unhide B0) hb1)
  clear hb1
  go_wp2
  go_ret
  exact⟨rfl,unhide B1⟩
theorem ZwL(kd fr ic o l k z h:Int)(a:Option Addr)(n c:Nat)(xs:List Nat)(s:ByteArray)(w:World)(ht:Tab w)(hr:RowAt w a n xs)(hn:n≤1048576)(hP:ZvB kd fr ic o l k z h xs s):
  Calls Tryz.prog 82 #[.agg #[.int .i64 kd,.int .i64 fr,.int .i64 ic,.int .i64 o,.int .i64 l,.int .i64 k,.int .i64 z,.int .i64 h,.slice a n c,.string s]] w fun e w'=>e=.returned (.tuple #[.string (ZhE kd fr ic o l k z h xs s),.int .i64 0])∧Below w.heap.size w w':=by
 have B0:=hide (Zaf w (.cells #[.int .i64 kd,.int .i64 fr,.int .i64 ic,.int .i64 o,.int .i64 l,.int .i64 k,.int .i64 z,.int .i64 h,.slice a n c,.string s] 78))
 have HC:=hide (ZoQ kd fr ic o l k z h a n c xs s _ (ht.below (unhide B0)) (hr.below (unhide B0)) hn 0 (.inl ⟨hP,rfl⟩))
 have HX:=hide (ZAy w (.int .i64 kd) (.int .i64 fr) (.int .i64 ic) (.int .i64 o) (.int .i64 l) (.int .i64 k) (.int .i64 z) (.int .i64 h) (.slice a n c) (.string s))
 have HR:=hide (hr.below (unhide B0))
 have hT:=Zz8 kd fr ic (Zgl kd o l k z h xs s)
 have p1:=ZdL kd
 have p2:=ZdL fr
 have p3:=Zg5 ic
 have p4:=Zuu hP.2.2
 have P1:=hide (fun w'=>ZcK kd 1 w')
 have P2:=hide (fun w'=>ZcK fr 1 w')
 have P3:=hide (fun w'=>ZcK ic 4 w')
 have P4:=hide (fun w' hr'=>ZmN kd o l k z h a n c xs s w' hr' hP.2.2)
 have P5:=hide (fun wx=>ZjO kd (.int .i64 fr) (.int .i64 ic) (.int .i64 o) (.int .i64 l) (.int .i64 k) (.int .i64 z) (.int .i64 h) (.slice a n c) (.string s) wx)
 generalize ZgI kd (.int .i64 o) (.int .i64 l) (.int .i64 k) (.int .i64 z) (.int .i64 h) (.slice a n c) (.string s)=V at*
 unfold ZhE
 rw[←hT]
 clear hT
 generalize Zgl kd o l k z h xs s=t4 at*
 generalize st (Zbc kd 1)=t1 at*
 generalize st (Zbc fr 1)=t2 at*
 generalize st (Zbc ic 4)=t3 at*
 have P6:=hide (fun wx=>Zq8 (t1++t2++t3++t4) wx (by simp only[ByteArray.size_append];omega))
 generalize Zee (t1++t2++t3++t4)=T at*
 have q2:(9223372036854775807<t1.size+t2.size)=False:=eq_false (by omega)
 have q3:(9223372036854775807<t1.size+t2.size+t3.size)=False:=eq_false (by omega)
 have q4:(9223372036854775807<t1.size+t2.size+t3.size+t4.size)=False:=eq_false (by omega)
 clear hr hP p1 p2 p3 p4 hn ht
 go_enter Tryz.func82,Tryz.ntmps82
 go_wp2_with fail
 refine(unhide HC).mono ?_
 rintro e w1 ⟨rfl,hb1⟩
 have HX1:=hide ((unhide HX).below hb1)
 have HR1:=hide ((unhide HR).below hb1)
 have B1:=hide (below0 (unhide B0) hb1)
 clear hb1 HC B0 HX HR
 have k0:=cell_regrown (unhide HX1).1.1
 have k1:=cell_regrown (unhide HX1).1.2.1
 have k2:=cell_regrown (unhide HX1).1.2.2
 have c1:=Za6 (W:=w1) (fun w' hb=>unhide P1 w')
 have c2:=Za6 (W:=w1) (fun w' hb=>unhide P2 w')
 have c3:=Za6 (W:=w1) (fun w' hb=>unhide P3 w')
 go_wp2_with fail
 refine wp_region_quiet_below (by kernel_rfl) (by kernel_rfl) ?_
 repeat (with_reducible refine wpQuiet_step (fun K hK=>?_);go_simp;first|(with_reducible refine hK _ ?_;clear hK K)|(apply Exists.intro;apply And.intro;(intro _;go_at_call 141;first|with_reducible exact c1 _ _|with_reducible exact c2 _ _|with_reducible exact c3 _ _);with_reducible refine hK _ ?_;clear hK K))
 refine wpQuiet_nil ?_
 intro w2 hw2
 obtain⟨⟨dq,osq⟩,hw2⟩:=hw2
 have hb2:Below w1.heap.size w1 w2:=by rw[hw2];exact below_regrown _ dq osq
 clear hw2 k0 k1 k2 c1 c2 c3 dq osq
 have HX2:=hide ((unhide HX1).below hb2)
 have HR2:=hide ((unhide HR1).below hb2)
 have B2:=hide (below0 (unhide B1) hb2)
 clear hb2 HX1 HR1 B1
 obtain⟨⟨g0,g1,g2⟩,g3,g4,g5,g6,g7,g8,g9⟩:=unhide HX2
 go_wp2_with fail
 refine(unhide P5 _).mono ?_
 rintro e w3 ⟨rfl,hb3⟩
 have HR3:=hide ((unhide HR2).below hb3)
 have B3:=hide (below0 (unhide B2) hb3)
 clear hb3 g0 g1 g2 g3 g4 g5 g6 g7 g8 g9
 go_wp2_with fail
 refine(unhide P4 _ (unhide HR3)).mono ?_
 rintro e w4 ⟨rfl,hb4⟩
 have B4:=hide (below0 (unhide B3) hb4)
 clear hb4
 go_wp2_with fail
 refine(unhide P6 _).mono ?_
 rintro e w5 ⟨rfl,hb5⟩
 have B5:=hide (below0 (unhide B4) hb5)
 clear hb5
 go_wp2
 go_ret2
 exact⟨rfl,unhide B5⟩
end Go.Proofs.YtlhhinlghhjghaaGreatDoor
