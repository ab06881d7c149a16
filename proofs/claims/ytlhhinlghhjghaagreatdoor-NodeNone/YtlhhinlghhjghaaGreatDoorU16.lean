/-
  Contracts of packet.within, shaped, bounded, rowed, Check, of bucketlineref07.sizes, Check, and of bucketlinelaw07.few: for every packet.
  Contracts of packet.plainOf, Same and of bucketlineref07.Alike, Same: for every two packets of rows of at most 2^20 words.
  Blocks that hold packets, none of them frozen (PkB); all of one written (set7). No condition.
  Contracts of packet.number and packet.head; blocks that hold packets.
-/
import Derived.Test.YtlhhinlghhjghaaGreatDoorU15
import Derived.Laws.StructEq
import Derived.Laws.Rows
namespace Go.Proofs.YtlhhinlghhjghaaGreatDoor
open Go.RowKit
set_option linter.unusedVariables false
set_option linter.unusedSimpArgs false
set_option maxRecDepth 4000
set_option maxHeartbeats 8000000
def PkAt(w:World)(g:Nat)(v0 v1 v2 v3 v4 v5 v6:Value):Prop:=
 w.cell? ⟨g,0,none⟩=some v0∧w.cell? ⟨g,1,none⟩=some v1∧w.cell? ⟨g,2,none⟩=some v2∧w.cell? ⟨g,3,none⟩=some v3∧w.cell? ⟨g,4,none⟩=some v4∧w.cell? ⟨g,5,none⟩=some v5∧w.cell? ⟨g,6,none⟩=some v6
theorem Zdj(w:World)(v0 v1 v2 v3 v4 v5 v6:Value):PkAt (w.alloc (.cells #[v0,v1,v2,v3,v4,v5,v6] 59)) w.heap.size v0 v1 v2 v3 v4 v5 v6:=by
 refine⟨?_,?_,?_,?_,?_,?_,?_⟩<;>simp
theorem PkAt.below{w w':World}{g:Nat}{v0 v1 v2 v3 v4 v5 v6:Value}(h:PkAt w g v0 v1 v2 v3 v4 v5 v6)(hb:Below w.heap.size w w'):PkAt w' g v0 v1 v2 v3 v4 v5 v6:=by
 obtain⟨h0,h1,h2,h3,h4,h5,h6⟩:=h
 have e:∀o,w'.cell? ⟨g,o,none⟩=w.cell? ⟨g,o,none⟩:=fun o=>hb.cell (show g<w.heap.size from World.block_lt_of_cell? w ⟨g,0,none⟩ h0)
 exact⟨(e _).trans h0,(e _).trans h1,(e _).trans h2,(e _).trans h3,(e _).trans h4,(e _).trans h5,(e _).trans h6⟩
theorem PkAt.alloc{w:World}{g:Nat}{v0 v1 v2 v3 v4 v5 v6:Value}(h:PkAt w g v0 v1 v2 v3 v4 v5 v6)(o:Obj):PkAt (w.alloc o) g v0 v1 v2 v3 v4 v5 v6:=h.below ((Below.refl _ _).alloc (Nat.le_refl _) _)
theorem Zaf(w:World)(o:Obj):Below w.heap.size w (w.alloc o):=(Below.refl _ _).alloc (Nat.le_refl _) _
theorem Zcz(n lo hi:Int)(w:World)(b:Bool)(hb:TB b (lo≤n∧n≤hi)):
  Calls Tryz.prog 179 #[.int .i64 n,.int .i64 lo,.int .i64 hi] w fun e w'=>e=.returned (.bool b)∧w'=w:=by
 have HB:=hide hb
 clear hb
 by_cases h1:lo≤n
 ·by_cases h2:n≤hi
  ·go_enter Tryz.func179,Tryz.ntmps179
   go_wp2
   go_ret
   exact⟨Zak ((unhide HB).yes ⟨h1,h2⟩).symm,rfl⟩
  ·go_enter Tryz.func179,Tryz.ntmps179
   go_wp2
   go_ret
   exact⟨Zak ((unhide HB).no (fun h=>by omega)).symm,rfl⟩
 ·go_enter Tryz.func179,Tryz.ntmps179
  go_wp2
  go_ret
  exact⟨Zak ((unhide HB).no (fun h=>by omega)).symm,rfl⟩
theorem ZiN(o l k z h:Int)(x y:Value)(w:World)(b:Bool)(hb:TB b (ZeD k z)):
  Calls Tryz.prog 176 #[.agg #[.int .i64 o,.int .i64 l,.int .i64 k,.int .i64 z,.int .i64 h,x,y]] w fun e w'=>e=.returned (.bool b)∧Below w.heap.size w w':=by
 have HB:=hide hb
 obtain⟨b1,h1⟩:=ZfF (1≤k∧k≤128)
 obtain⟨b2,h2⟩:=ZfF (1≤z∧z≤64)
 have H1:=hide h1
 have H2:=hide h2
 clear hb h1 h2
 have B0:=hide (Zaf w (.cells #[.int .i64 o,.int .i64 l,.int .i64 k,.int .i64 z,.int .i64 h,x,y] 59))
 go_enter Tryz.func176,Tryz.ntmps176
 go_wp2_with fail
 refine(Zcz k 1 128 _ b1 (unhide H1)).mono ?_
 rintro e w' ⟨rfl,hw⟩
 obtain rfl:=hw.symm
 clear hw
 cases b1
 ·go_wp2
  go_ret
  exact⟨Zak ((unhide HB).no (fun h=>by simpa using(unhide H1).2 h.1)).symm,unhide B0⟩
 ·go_wp2_with fail
  refine(Zcz z 1 64 _ b2 (unhide H2)).mono ?_
  rintro e w' ⟨rfl,hw⟩
  obtain rfl:=hw.symm
  clear hw
  cases b2
  ·go_wp2
   go_ret
   exact⟨Zak ((unhide HB).no (fun h=>by simpa using(unhide H2).2 h.2)).symm,unhide B0⟩
  ·go_wp2
   go_ret
   exact⟨Zak ((unhide HB).yes ⟨(unhide H1).1 rfl,(unhide H2).1 rfl⟩).symm,unhide B0⟩
theorem ZlN(o l k z h:Int)(x y:Value)(w:World)(b:Bool)(hb:TB b (ZkM o l k z h)):
  Calls Tryz.prog 127 #[.agg #[.int .i64 o,.int .i64 l,.int .i64 k,.int .i64 z,.int .i64 h,x,y]] w fun e w'=>e=.returned (.bool b)∧Below w.heap.size w w':=by
 have HB:=hide hb
 obtain⟨b1,h1⟩:=ZfF (ZeD k z)
 obtain⟨b2,h2⟩:=ZfF (0≤o∧o≤4294967295)
 obtain⟨b3,h3⟩:=ZfF (0≤l∧l≤k*z)
 obtain⟨b4,h4⟩:=ZfF (0≤h∧h≤15)
 have H1:=hide h1
 have H2:=hide h2
 have H3:=hide h3
 have H4:=hide h4
 clear hb h1 h2 h3 h4
 have B0:=hide (Zaf w (.cells #[.int .i64 o,.int .i64 l,.int .i64 k,.int .i64 z,.int .i64 h,x,y] 59))
 have HX:=hide (Zdj w (.int .i64 o) (.int .i64 l) (.int .i64 k) (.int .i64 z) (.int .i64 h) x y)
 go_enter Tryz.func127,Tryz.ntmps127
 go_wp2_with fail
 refine(ZiN o l k z h x y _ b1 (unhide H1)).mono ?_
 rintro e w1 ⟨rfl,hb1⟩
 obtain⟨k0,k1,k2,k3,k4,k5,k6⟩:=(unhide HX).below hb1
 have B1:=hide (below0 (unhide B0) hb1)
 clear hb1
 cases b1
 ·go_wp2
  go_ret
  exact⟨Zak ((unhide HB).no (fun h=>by simpa using(unhide H1).2 h.1)).symm,unhide B1⟩
 ·have hm:=ZtJ ((unhide H1).1 rfl)
  have HW:=hide (show wrap64 (k*z)=k*z by unfold wrap64;omega)
  clear hm
  go_wp2_with fail
  refine(Zcz o 0 4294967295 _ b2 (unhide H2)).mono ?_
  rintro e w' ⟨rfl,hw⟩
  obtain rfl:=hw.symm
  clear hw
  cases b2
  ·go_wp2
   go_ret
   exact⟨Zak ((unhide HB).no (fun h=>by simpa using(unhide H2).2 h.2.1)).symm,unhide B1⟩
  ·go_wp2_with fail
   refine(Zcz l 0 (wrap64 (k*z)) _ b3 (by rw[unhide HW];exact unhide H3)).mono ?_
   rintro e w' ⟨rfl,hw⟩
   obtain rfl:=hw.symm
   clear hw
   cases b3
   ·go_wp2
    go_ret
    exact⟨Zak ((unhide HB).no (fun h=>by simpa using(unhide H3).2 h.2.2.1)).symm,unhide B1⟩
   ·go_wp2_with fail
    refine(Zcz h 0 15 _ b4 (unhide H4)).mono ?_
    rintro e w' ⟨rfl,hw⟩
    obtain rfl:=hw.symm
    clear hw
    cases b4
    ·go_wp2
     go_ret
     exact⟨Zak ((unhide HB).no (fun h=>by simpa using(unhide H4).2 h.2.2.2)).symm,unhide B1⟩
    ·go_wp2
     go_ret
     exact⟨Zak ((unhide HB).yes ⟨(unhide H1).1 rfl,(unhide H2).1 rfl,(unhide H3).1 rfl,(unhide H4).1 rfl⟩).symm,unhide B1⟩
theorem ZeJ{k:Int}{xs:List Nat}(h:Za5 k xs):xs.length≤2:=by
 have:=Zas k
 have:=h.2.1
 omega
theorem Zsj(o l k z h:Int)(a:Option Addr)(n c:Nat)(xs:List Nat)(s:ByteArray)(w:World)(hr:RowAt w a n xs)(b:Bool)(hb:TB b (Zh3 k z xs s.size)):
  Calls Tryz.prog 128 #[.agg #[.int .i64 o,.int .i64 l,.int .i64 k,.int .i64 z,.int .i64 h,.slice a n c,.string s]] w fun e w'=>e=.returned (.bool b)∧Below w.heap.size w w':=by
 have HB:=hide hb
 have hlen:=hr.1
 have HR:=hide (Zbu hr (.cells #[.int .i64 o,.int .i64 l,.int .i64 k,.int .i64 z,.int .i64 h,.slice a n c,.string s] 59))
 have B0:=hide (Zaf w (.cells #[.int .i64 o,.int .i64 l,.int .i64 k,.int .i64 z,.int .i64 h,.slice a n c,.string s] 59))
 have HX:=hide (Zdj w (.int .i64 o) (.int .i64 l) (.int .i64 k) (.int .i64 z) (.int .i64 h) (.slice a n c) (.string s))
 have HL:=hide hlen
 clear hb hr hlen
 go_enter Tryz.func128,Tryz.ntmps128
 go_wp2_with fail
 refine(Zff a n c xs k _ (unhide HR)).mono ?_
 rintro e w1 ⟨⟨b1,rfl,hb1⟩,hbl⟩
 obtain⟨k0,k1,k2,k3,k4,k5,k6⟩:=(unhide HX).below hbl
 have B1:=hide (below0 (unhide B0) hbl)
 have HR1:=hide ((unhide HR).below hbl)
 have H1:=hide hb1
 clear hbl hb1
 cases b1
 ·go_wp2
  go_ret
  exact⟨Zak ((unhide HB).no (fun h=>by simpa using(unhide H1).2 h.1)).symm,unhide B1⟩
 ·have hv:=(unhide H1).1 rfl
  have hn:n≤1048576:=by have:=ZeJ hv;have:=unhide HL;omega
  have HC:=hide (Zbt a n c xs w1 (unhide HR1) hn)
  have HV:=hide hv
  clear hv hn
  rcases Nat.eq_zero_or_pos (cnt xs)with hc|hc
  ·rw[hc]at HC
   have HZ:=hide hc
   clear hc
   go_wp2_with fail
   refine(unhide HC).mono ?_
   rintro e w' ⟨rfl,hw⟩
   obtain rfl:=hw.symm
   clear hw
   go_wp2
   go_ret
   exact⟨Zak ((unhide HB).no (fun h=>by have:=h.2.1;have:=unhide HZ;omega)).symm,unhide B1⟩
  ·have HZ:=hide hc
   have hc':(0:Int)<((cnt xs:Nat):Int):=by omega
   generalize ((cnt xs:Nat):Int)=m at*
   clear hc
   by_cases hz:(s.size:Int)=z
   ·have hz':((s.size:Int)==z)=true:=by rw[beq_iff_eq];exact hz
    have HQ:=hide hz
    clear hz
    go_wp2_with fail
    refine(unhide HC).mono ?_
    rintro e w' ⟨rfl,hw⟩
    obtain rfl:=hw.symm
    clear hw
    go_wp2
    go_ret
    exact⟨Zak ((unhide HB).yes ⟨unhide HV,unhide HZ,unhide HQ⟩).symm,unhide B1⟩
   ·have hz':((s.size:Int)==z)=false:=by rw[beq_eq_false_iff_ne];exact hz
    have HQ:=hide hz
    clear hz
    go_wp2_with fail
    refine(unhide HC).mono ?_
    rintro e w' ⟨rfl,hw⟩
    obtain rfl:=hw.symm
    clear hw
    go_wp2
    go_ret
    exact⟨Zak ((unhide HB).no (fun h=>unhide HQ h.2.2)).symm,unhide B1⟩
theorem ZaR(o l k z h:Int)(a:Option Addr)(n c:Nat)(xs:List Nat)(s:ByteArray)(w:World)(hr:RowAt w a n xs)(en:Nat)(hen:CkP en (ZaX o l k z h xs s.size)):
  Calls Tryz.prog 72 #[.agg #[.int .i64 o,.int .i64 l,.int .i64 k,.int .i64 z,.int .i64 h,.slice a n c,.string s]] w fun e w'=>e=.returned (.int .i64 ((en:Nat):Int))∧Below w.heap.size w w':=by
 have HE:=hide hen
 obtain⟨b1,h1⟩:=ZfF (ZkM o l k z h)
 obtain⟨b2,h2⟩:=ZfF (Zh3 k z xs s.size)
 have H1:=hide h1
 have H2:=hide h2
 have HR:=hide (Zbu hr (.cells #[.int .i64 o,.int .i64 l,.int .i64 k,.int .i64 z,.int .i64 h,.slice a n c,.string s] 59))
 have B0:=hide (Zaf w (.cells #[.int .i64 o,.int .i64 l,.int .i64 k,.int .i64 z,.int .i64 h,.slice a n c,.string s] 59))
 have HX:=hide (Zdj w (.int .i64 o) (.int .i64 l) (.int .i64 k) (.int .i64 z) (.int .i64 h) (.slice a n c) (.string s))
 clear hen hr h1 h2
 go_enter Tryz.func72,Tryz.ntmps72
 go_wp2_with fail
 refine(ZlN o l k z h _ _ _ b1 (unhide H1)).mono ?_
 rintro e w1 ⟨rfl,hb1⟩
 obtain⟨k0,k1,k2,k3,k4,k5,k6⟩:=(unhide HX).below hb1
 have HR1:=hide ((unhide HR).below hb1)
 have B1:=hide (below0 (unhide B0) hb1)
 clear hb1
 cases b1
 ·go_wp2
  go_ret
  exact⟨ZaE (by rw[(unhide HE).no (fun h=>by simpa using(unhide H1).2 h.1)];rfl),unhide B1⟩
 ·go_wp2_with fail
  refine(Zsj o l k z h a n c xs s _ (unhide HR1) b2 (unhide H2)).mono ?_
  rintro e w2 ⟨rfl,hb2⟩
  have B2:=hide (below0 (unhide B1) hb2)
  clear hb2
  cases b2
  ·go_wp2
   go_ret
   exact⟨ZaE (by rw[(unhide HE).no (fun h=>by simpa using(unhide H2).2 h.2)];rfl),unhide B2⟩
  ·go_wp2
   go_ret
   exact⟨ZaE (by rw[(unhide HE).yes ⟨(unhide H1).1 rfl,(unhide H2).1 rfl⟩];rfl),unhide B2⟩
end Go.Proofs.YtlhhinlghhjghaaGreatDoor
namespace Go.Proofs.YtlhhinlghhjghaaGreatDoor
open Go.RowKit Go.Sort
set_option linter.unusedVariables false
set_option linter.unusedSimpArgs false
set_option maxRecDepth 4000
set_option maxHeartbeats 8000000
variable {xs:List Nat}{g n:Nat}{a:Option Addr}{v0 v1 v2 v3 v4 v5 v6:Value}{w:World}
theorem Zvt(o l k z h o' l' k' z' h':Int)(s s':ByteArray)(b:Bool)(hb:TB b ((o=o'∧l=l'∧k=k'∧z=z'∧h=h')∧s=s'))(W:World):
  (binOp .eql 354 (.agg #[.int .i64 o,.int .i64 l,.int .i64 k,.int .i64 z,.int .i64 h,.string s]) (.agg #[.int .i64 o',.int .i64 l',.int .i64 k',.int .i64 z',.int .i64 h',.string s'])).run Tryz.prog W=.ok (.bool b) W:=by
 obtain rfl:b=decide ((o=o'∧l=l'∧k=k'∧z=z'∧h=h')∧s=s'):=by
  rw[eq_comm,Bool.eq_iff_iff,decide_eq_true_iff]
  exact hb.symm
 clear hb
 rw[run_eql_struct,run_equalIn_struct (d:=9999) (ht:=by kernel_rfl) (hp:=by kernel_rfl)]
 simp only[Program.fieldsOf,Tryz.underlying354]
 by_cases h1:o=o'
 ·by_cases h2:l=l'
  ·by_cases h3:k=k'
   ·by_cases h4:z=z'
    ·by_cases h5:h=h'
     ·have e6:=Zgs s s'
      by_cases h6:s=s'<;>simp[Op.eqFields,part,go_sem,Tryz.underlying3,Tryz.underlying9,h1,h2,h3,h4,h5,h6,e6]
     ·simp[Op.eqFields,part,go_sem,Tryz.underlying3,h1,h2,h3,h4,h5]
    ·simp[Op.eqFields,part,go_sem,Tryz.underlying3,h1,h2,h3,h4]
   ·simp[Op.eqFields,part,go_sem,Tryz.underlying3,h1,h2,h3]
  ·simp[Op.eqFields,part,go_sem,Tryz.underlying3,h1,h2]
 ·simp[Op.eqFields,part,go_sem,Tryz.underlying3,h1]
theorem ZzG(w:World)(o o':Obj):Below w.heap.size w ((w.alloc o).alloc o'):=((Below.refl _ _).alloc (Nat.le_refl _) _).alloc (by simp) _
theorem ZkP(o l k z h:Int)(x:Value)(s:ByteArray)(w:World):
  Calls Tryz.prog 264 #[.agg #[.int .i64 o,.int .i64 l,.int .i64 k,.int .i64 z,.int .i64 h,x,.string s]] w fun e w'=>e=.returned (.agg #[.int .i64 o,.int .i64 l,.int .i64 k,.int .i64 z,.int .i64 h,.string s])∧Below w.heap.size w w':=by
 go_enter Tryz.func264,Tryz.ntmps264
 go_wp2
 exact bodyPost_ret (v:=.agg #[.int .i64 o,.int .i64 l,.int .i64 k,.int .i64 z,.int .i64 h,.string s]) (by simp[results,Tryz.results264,go_sem]) rfl ⟨rfl,ZzG w _ _⟩
def Zwo(o l k z h:Int)(xs:List Nat)(s:ByteArray)(o' l' k' z' h':Int)(ys:List Nat)(t:ByteArray):Prop:=((o=o'∧l=l'∧k=k'∧z=z'∧h=h')∧s=t)∧cnt (xorL xs ys)=0
theorem ZtF{ys:List Nat}(hx:smalls xs)(hy:smalls ys):decide (firstI (xorL xs ys)<0)=decide (cnt (xorL xs ys)=0):=by
 have h1:=ZcO (xorL xs ys)
 by_cases h:cnt (xorL xs ys)=0
 ·rw[decide_eq_true h,decide_eq_true (h1.2 (ZgV _ (Zd8 hx hy) h))]
 ·rw[decide_eq_false h,decide_eq_false (fun h2=>h (Zhu _ (h1.1 h2)))]
theorem Zld(o l k z h:Int)(a:Option Addr)(n c:Nat)(xs:List Nat)(s:ByteArray)(o' l' k' z' h':Int)(a':Option Addr)(m c':Nat)(ys:List Nat)(t:ByteArray)(w:World)(ht:Tab w)(hr:RowAt w a n xs)(hr':RowAt w a' m ys)(hn:n≤1048576)(hm:m≤1048576)(b:Bool)(hb:TB b (Zwo o l k z h xs s o' l' k' z' h' ys t)):
  Calls Tryz.prog 229 #[.agg #[.int .i64 o,.int .i64 l,.int .i64 k,.int .i64 z,.int .i64 h,.slice a n c,.string s],.agg #[.int .i64 o',.int .i64 l',.int .i64 k',.int .i64 z',.int .i64 h',.slice a' m c',.string t]] w fun e w'=>e=.returned (.bool b)∧Below w.heap.size w w':=by
 have HB:=hide hb
 obtain⟨b1,h1⟩:=ZfF ((o=o'∧l=l'∧k=k'∧z=z'∧h=h')∧s=t)
 have H1:=hide h1
 have hq:=Zvt o l k z h o' l' k' z' h' s t b1 h1
 have hg:Tryz.prog.eqGuardType Tryz.prog.depth 354=false:=by kernel_rfl
 have x1:=(Zdj w (.int .i64 o) (.int .i64 l) (.int .i64 k) (.int .i64 z) (.int .i64 h) (.slice a n c) (.string s)).alloc (.cells #[.int .i64 o',.int .i64 l',.int .i64 k',.int .i64 z',.int .i64 h',.slice a' m c',.string t] 59)
 have x2:=Zdj (w.alloc (.cells #[.int .i64 o,.int .i64 l,.int .i64 k,.int .i64 z,.int .i64 h,.slice a n c,.string s] 59)) (.int .i64 o') (.int .i64 l') (.int .i64 k') (.int .i64 z') (.int .i64 h') (.slice a' m c') (.string t)
 rw[Zab]at x2
 obtain⟨x10,x11,x12,x13,x14,x15,x16⟩:=x1
 obtain⟨x20,x21,x22,x23,x24,x25,x26⟩:=x2
 have k10:=cell_regrown x10
 have k11:=cell_regrown x11
 have k12:=cell_regrown x12
 have k13:=cell_regrown x13
 have k14:=cell_regrown x14
 have k15:=cell_regrown x15
 have k16:=cell_regrown x16
 have k20:=cell_regrown x20
 have k21:=cell_regrown x21
 have k22:=cell_regrown x22
 have k23:=cell_regrown x23
 have k24:=cell_regrown x24
 have k25:=cell_regrown x25
 have k26:=cell_regrown x26
 have c1:=Za6 (W:=(w.alloc (.cells #[.int .i64 o,.int .i64 l,.int .i64 k,.int .i64 z,.int .i64 h,.slice a n c,.string s] 59)).alloc (.cells #[.int .i64 o',.int .i64 l',.int .i64 k',.int .i64 z',.int .i64 h',.slice a' m c',.string t] 59)) (fun w' hb=>ZkP o l k z h (.slice a n c) s w')
 have c2:=Za6 (W:=(w.alloc (.cells #[.int .i64 o,.int .i64 l,.int .i64 k,.int .i64 z,.int .i64 h,.slice a n c,.string s] 59)).alloc (.cells #[.int .i64 o',.int .i64 l',.int .i64 k',.int .i64 z',.int .i64 h',.slice a' m c',.string t] 59)) (fun w' hb=>ZkP o' l' k' z' h' (.slice a' m c') t w')
 have c3:=Za6 (W:=(w.alloc (.cells #[.int .i64 o,.int .i64 l,.int .i64 k,.int .i64 z,.int .i64 h,.slice a n c,.string s] 59)).alloc (.cells #[.int .i64 o',.int .i64 l',.int .i64 k',.int .i64 z',.int .i64 h',.slice a' m c',.string t] 59)) (fun w' hb=>Zwt a n c xs a' m c' ys w' (ht.below (Zel (Below.refl _ w) hb)) (hr.below (Zel (Below.refl _ w) hb)) (hr'.below (Zel (Below.refl _ w) hb)) hn hm)
 rw[ZtF hr.2.1 hr'.2.1]at c3
 clear hb h1 ht hr hr' hn hm x10 x11 x12 x13 x14 x15 x16 x20 x21 x22 x23 x24 x25 x26
 cases b1
 ·go_enter Tryz.func229,Tryz.ntmps229
  go_wp2_with fail
  refine wp_region_quiet_below (by kernel_rfl) (by kernel_rfl) ?_
  repeat (with_reducible refine wpQuiet_step (fun K hK=>?_);go_simp;first|(with_reducible refine hK _ ?_;clear hK K)|(apply Exists.intro;apply And.intro;(intro _;first|(go_at_call 264;first|with_reducible exact c1 _ _|with_reducible exact c2 _ _)|(go_at_call 265;exact c3 _ _));with_reducible refine hK _ ?_;clear hK K))
  refine wpQuiet_nil ?_
  intro w3 hw3
  obtain⟨⟨dq,osq⟩,hw3⟩:=hw3
  have hb3:Below ((w.alloc (.cells #[.int .i64 o,.int .i64 l,.int .i64 k,.int .i64 z,.int .i64 h,.slice a n c,.string s] 59)).alloc (.cells #[.int .i64 o',.int .i64 l',.int .i64 k',.int .i64 z',.int .i64 h',.slice a' m c',.string t] 59)).heap.size ((w.alloc (.cells #[.int .i64 o,.int .i64 l,.int .i64 k,.int .i64 z,.int .i64 h,.slice a n c,.string s] 59)).alloc (.cells #[.int .i64 o',.int .i64 l',.int .i64 k',.int .i64 z',.int .i64 h',.slice a' m c',.string t] 59)) w3:=by rw[hw3];exact below_regrown _ dq osq
  have B3:=hide (Zel (Below.refl _ w) hb3)
  clear hw3 hb3 dq osq
  go_wp2
  go_ret
  exact⟨Zak ((unhide HB).no (fun h=>by simpa using(unhide H1).2 h.1)).symm,unhide B3⟩
 ·by_cases hz:cnt (xorL xs ys)=0
  ·rw[decide_eq_true hz]at c3
   have HZ:=hide hz
   clear hz
   go_enter Tryz.func229,Tryz.ntmps229
   go_wp2_with fail
   refine wp_region_quiet_below (by kernel_rfl) (by kernel_rfl) ?_
   repeat (with_reducible refine wpQuiet_step (fun K hK=>?_);go_simp;first|(with_reducible refine hK _ ?_;clear hK K)|(apply Exists.intro;apply And.intro;(intro _;first|(go_at_call 264;first|with_reducible exact c1 _ _|with_reducible exact c2 _ _)|(go_at_call 265;exact c3 _ _));with_reducible refine hK _ ?_;clear hK K))
   refine wpQuiet_nil ?_
   intro w3 hw3
   obtain⟨⟨dq,osq⟩,hw3⟩:=hw3
   have hb3:Below ((w.alloc (.cells #[.int .i64 o,.int .i64 l,.int .i64 k,.int .i64 z,.int .i64 h,.slice a n c,.string s] 59)).alloc (.cells #[.int .i64 o',.int .i64 l',.int .i64 k',.int .i64 z',.int .i64 h',.slice a' m c',.string t] 59)).heap.size ((w.alloc (.cells #[.int .i64 o,.int .i64 l,.int .i64 k,.int .i64 z,.int .i64 h,.slice a n c,.string s] 59)).alloc (.cells #[.int .i64 o',.int .i64 l',.int .i64 k',.int .i64 z',.int .i64 h',.slice a' m c',.string t] 59)) w3:=by rw[hw3];exact below_regrown _ dq osq
   have B3:=hide (Zel (Below.refl _ w) hb3)
   clear hw3 hb3 dq osq
   go_wp2
   go_ret
   exact⟨Zak ((unhide HB).yes ⟨(unhide H1).1 rfl,unhide HZ⟩).symm,unhide B3⟩
  ·rw[decide_eq_false hz]at c3
   have HZ:=hide hz
   clear hz
   go_enter Tryz.func229,Tryz.ntmps229
   go_wp2_with fail
   refine wp_region_quiet_below (by kernel_rfl) (by kernel_rfl) ?_
   repeat (with_reducible refine wpQuiet_step (fun K hK=>?_);go_simp;first|(with_reducible refine hK _ ?_;clear hK K)|(apply Exists.intro;apply And.intro;(intro _;first|(go_at_call 264;first|with_reducible exact c1 _ _|with_reducible exact c2 _ _)|(go_at_call 265;exact c3 _ _));with_reducible refine hK _ ?_;clear hK K))
   refine wpQuiet_nil ?_
   intro w3 hw3
   obtain⟨⟨dq,osq⟩,hw3⟩:=hw3
   have hb3:Below ((w.alloc (.cells #[.int .i64 o,.int .i64 l,.int .i64 k,.int .i64 z,.int .i64 h,.slice a n c,.string s] 59)).alloc (.cells #[.int .i64 o',.int .i64 l',.int .i64 k',.int .i64 z',.int .i64 h',.slice a' m c',.string t] 59)).heap.size ((w.alloc (.cells #[.int .i64 o,.int .i64 l,.int .i64 k,.int .i64 z,.int .i64 h,.slice a n c,.string s] 59)).alloc (.cells #[.int .i64 o',.int .i64 l',.int .i64 k',.int .i64 z',.int .i64 h',.slice a' m c',.string t] 59)) w3:=by rw[hw3];exact below_regrown _ dq osq
   have B3:=hide (Zel (Below.refl _ w) hb3)
   clear hw3 hb3 dq osq
   go_wp2
   go_ret
   exact⟨Zak ((unhide HB).no (fun h=>unhide HZ h.2)).symm,unhide B3⟩
def PkB(w:World)(g:Nat)(v0 v1 v2 v3 v4 v5 v6:Value):Prop:=w.heap[g]? =some (.cells #[v0,v1,v2,v3,v4,v5,v6] 59 (0,0))
theorem ZaG(w:World)(v0 v1 v2 v3 v4 v5 v6:Value):PkB (w.alloc (.cells #[v0,v1,v2,v3,v4,v5,v6] 59)) w.heap.size v0 v1 v2 v3 v4 v5 v6:=by
 show(w.heap.push _)[w.heap.size]? =_
 simp
theorem PkB.lt(h:PkB w g v0 v1 v2 v3 v4 v5 v6):g<w.heap.size:=(Array.getElem?_eq_some_iff.1 h).1
theorem PkB.below{w':World}(h:PkB w g v0 v1 v2 v3 v4 v5 v6)(hb:Below w.heap.size w w'):PkB w' g v0 v1 v2 v3 v4 v5 v6:=(hb.block g h.lt).trans h
theorem PkB.at(h:PkB w g v0 v1 v2 v3 v4 v5 v6):PkAt w g v0 v1 v2 v3 v4 v5 v6:=by
 unfold PkB at h
 refine⟨?_,?_,?_,?_,?_,?_,?_⟩<;>rw[cell_of_row w g _ _ _ _ h]<;>rfl
theorem PkB.frz(h:PkB w g v0 v1 v2 v3 v4 v5 v6)(i:Nat):w.frozen? ⟨g,i,none⟩=false:=by
 unfold PkB at h
 simp[World.frozen?,h]
theorem PkB.other(h:PkB w g v0 v1 v2 v3 v4 v5 v6){a:Addr}(ha:g≠a.block)(u:Value):PkB (w.setCell a u) g v0 v1 v2 v3 v4 v5 v6:=
 (Below.heap_setCell w a u g ha).trans h
theorem PkB.set0(h:PkB w g v0 v1 v2 v3 v4 v5 v6)(u:Value):PkB (w.setCell ⟨g,0,none⟩ u) g u v1 v2 v3 v4 v5 v6:=heap_setCell_same w g 0 _ _ u h
theorem PkB.set1(h:PkB w g v0 v1 v2 v3 v4 v5 v6)(u:Value):PkB (w.setCell ⟨g,1,none⟩ u) g v0 u v2 v3 v4 v5 v6:=heap_setCell_same w g 1 _ _ u h
theorem PkB.set2(h:PkB w g v0 v1 v2 v3 v4 v5 v6)(u:Value):PkB (w.setCell ⟨g,2,none⟩ u) g v0 v1 u v3 v4 v5 v6:=heap_setCell_same w g 2 _ _ u h
theorem PkB.set3(h:PkB w g v0 v1 v2 v3 v4 v5 v6)(u:Value):PkB (w.setCell ⟨g,3,none⟩ u) g v0 v1 v2 u v4 v5 v6:=heap_setCell_same w g 3 _ _ u h
theorem PkB.set4(h:PkB w g v0 v1 v2 v3 v4 v5 v6)(u:Value):PkB (w.setCell ⟨g,4,none⟩ u) g v0 v1 v2 v3 u v5 v6:=heap_setCell_same w g 4 _ _ u h
theorem PkB.set5(h:PkB w g v0 v1 v2 v3 v4 v5 v6)(u:Value):PkB (w.setCell ⟨g,5,none⟩ u) g v0 v1 v2 v3 v4 u v6:=heap_setCell_same w g 5 _ _ u h
theorem PkB.set6(h:PkB w g v0 v1 v2 v3 v4 v5 v6)(u:Value):PkB (w.setCell ⟨g,6,none⟩ u) g v0 v1 v2 v3 v4 v5 u:=heap_setCell_same w g 6 _ _ u h
def set7(w:World)(g:Nat)(u0 u1 u2 u3 u4 u5 u6:Value):World:=((((((w.setCell ⟨g,0,none⟩ u0).setCell ⟨g,1,none⟩ u1).setCell ⟨g,2,none⟩ u2).setCell ⟨g,3,none⟩ u3).setCell ⟨g,4,none⟩ u4).setCell ⟨g,5,none⟩ u5).setCell ⟨g,6,none⟩ u6
theorem PkB.sets(h:PkB w g v0 v1 v2 v3 v4 v5 v6)(u0 u1 u2 u3 u4 u5 u6:Value):PkB (set7 w g u0 u1 u2 u3 u4 u5 u6) g u0 u1 u2 u3 u4 u5 u6:=
 ((((((h.set0 u0).set1 u1).set2 u2).set3 u3).set4 u4).set5 u5).set6 u6
theorem Zbd{B:Nat}{a:World}(h:Below B a w){g:Nat}(hg:B≤g)(u0 u1 u2 u3 u4 u5 u6:Value):Below B a (set7 w g u0 u1 u2 u3 u4 u5 u6):=
 ((((((h.setCell hg u0).setCell hg u1).setCell hg u2).setCell hg u3).setCell hg u4).setCell hg u5).setCell hg u6
theorem Own.apart{B:Nat}{c:Nat}(h:Own w B (.slice a n c) xs):∀ad,a=some ad→n≠0→B≤ad.block:=by
 intro ad ha hn
 obtain⟨a',c',he,hr⟩:=h.row
 simp only[Value.slice.injEq]at he
 obtain⟨rfl,rfl,rfl⟩:=he
 obtain⟨g,cap,hv,hB,_⟩:=h.at (by omega)
 simp only[Value.slice.injEq]at hv
 rw[ha]at hv
 obtain rfl:=Option.some.inj hv.1
 exact hB
theorem RowAt.other(h:RowAt w a n xs){B:Nat}(hB:∀ad,a=some ad→n≠0→ad.block≠B)(i:Nat)(u:Value):RowAt (w.setCell ⟨B,i,none⟩ u) a n xs:=by
 refine⟨h.1,h.2.1,?_⟩
 rcases h.2.2 with h0|⟨b,off,rfl,hc⟩
 ·exact .inl h0
 ·by_cases hn:n=0
  ·exact .inl hn
  ·exact .inr ⟨b,off,rfl,fun j hj=>(World.cell?_setCell_other (h:=fun e=>hB _ rfl hn (congrArg Addr.block e).symm) ..).trans (hc j hj)⟩
theorem RowAt.other7(h:RowAt w a n xs){B:Nat}(hB:∀ad,a=some ad→n≠0→ad.block≠B)(u0 u1 u2 u3 u4 u5 u6:Value):RowAt (set7 w B u0 u1 u2 u3 u4 u5 u6) a n xs:=
 ((((((h.other hB 0 u0).other hB 1 u1).other hB 2 u2).other hB 3 u3).other hB 4 u4).other hB 5 u5).other hB 6 u6
theorem Zj1(s:ByteArray)(i:Nat)(hi:i<s.size):num (tx (s.extract i (i+1)))=(tx s).getD i 0:=by
 have:i<(tx s).length:=by rw[Zaa];exact hi
 rw[ZcJ,show i+1-i=1 by omega,List.drop_eq_getElem_cons this,List.take_succ_cons,List.take_zero,List.getD_eq_getElem?_getD,List.getElem?_eq_getElem this]
 simp[num]
theorem Zcu(s:ByteArray)(hs:s.size=1∨s.size=4)(w:World):
  Calls Tryz.prog 203 #[.string s] w fun e w'=>e=.returned (.int .i64 ((num (tx s):Nat):Int))∧w'=w:=by
 have hG:=fun wx=>Zg8 s (s.size:Int) wx
 have hg:=Zzu (s:=s) (k:=(s.size:Int)) (by rcases hs with h|h<;>rw[h]<;>simp[isW]) (Int.le_refl _)
 rw[Int.toNat_natCast,←Zaa,List.take_length]at hg
 rw[Zaa]at hg
 rw[hg.1,hg.2]at hG
 have HG:=hide hG
 generalize num (tx s)=x at*
 clear hG hg hs
 go_enter Tryz.func203,Tryz.ntmps203
 go_wp2_with fail
 refine(unhide HG _).mono ?_
 rintro e w' ⟨rfl,hw⟩
 obtain rfl:=hw.symm
 go_wp2
 go_ret
 exact⟨rfl,rfl⟩
theorem Zu4(s:ByteArray)(hs:11≤s.size)(w:World):
  Calls Tryz.prog 175 #[.string s] w fun e w'=>e=.returned (.agg #[.int .i64 ((dO s:Nat):Int),.int .i64 ((dL s:Nat):Int),.int .i64 ((dK s:Nat):Int),.int .i64 ((dZ s:Nat):Int),.int .i64 ((dH s:Nat):Int),.slice none 0 0,.string ⟨#[]⟩])∧Below w.heap.size w w':=by
 have n0:=fun wx=>Zcu (s.extract 0 4) (by rw[ByteArray.size_extract];omega) wx
 have n1:=fun wx=>Zcu (s.extract 4 8) (by rw[ByteArray.size_extract];omega) wx
 have n2:=fun wx=>Zcu (s.extract 8 9) (by rw[ByteArray.size_extract];omega) wx
 have n3:=fun wx=>Zcu (s.extract 9 10) (by rw[ByteArray.size_extract];omega) wx
 have n4:=fun wx=>Zcu (s.extract 10 11) (by rw[ByteArray.size_extract];omega) wx
 rw[show num (tx (s.extract 0 4))=dO s from by rw[ZcJ];rfl]at n0
 rw[show num (tx (s.extract 4 8))=dL s from by rw[ZcJ];rfl]at n1
 rw[show num (tx (s.extract 8 9))=dK s from Zj1 s 8 (by omega)]at n2
 rw[show num (tx (s.extract 9 10))=dZ s from Zj1 s 9 (by omega)]at n3
 rw[show num (tx (s.extract 10 11))=dH s from Zj1 s 10 (by omega)]at n4
 have N0:=hide n0
 have N1:=hide n1
 have N2:=hide n2
 have N3:=hide n3
 have N4:=hide n4
 generalize dO s=x0 at*
 generalize dL s=x1 at*
 generalize dK s=x2 at*
 generalize dZ s=x3 at*
 generalize dH s=x4 at*
 have hs4:(4:Int)≤(s.size:Int):=by omega
 have hs8:(8:Int)≤(s.size:Int):=by omega
 have hs9:(9:Int)≤(s.size:Int):=by omega
 have hs10:(10:Int)≤(s.size:Int):=by omega
 have hs11:(11:Int)≤(s.size:Int):=by omega
 clear n0 n1 n2 n3 n4
 go_enter Tryz.func175,Tryz.ntmps175
 go_wp2_with fail
 refine wp_region_any (by kernel_rfl) ?_
 change wpAny _ _ _ _ _ _ _ (World.drew _)
 refine wpAny_take (i:=0) (v:=?_) rfl (by kernel_rfl) (by kernel_rfl) (by kernel_rfl) (fun _ _ _ h=>h) (Or.inl ⟨by rfl,?f0⟩) ?_
 case f0=>(intro w;go_simp;try with_reducible rfl)
 refine wpAny_take (i:=1) (v:=?_) rfl (by kernel_rfl) (by kernel_rfl) (by kernel_rfl) (fun _ _ _ h=>h) (Or.inl ⟨by rfl,?f1⟩) ?_
 case f1=>(intro w;go_simp;try with_reducible rfl)
 refine wpAny_take (i:=3) (v:=?_) rfl (by kernel_rfl) (by kernel_rfl) (by kernel_rfl) (fun _ _ _ h=>h) (Or.inl ⟨by rfl,?f3⟩) ?_
 case f3=>(intro w;go_simp;try with_reducible rfl)
 refine wpAny_take (i:=4) (v:=?_) rfl (by kernel_rfl) (by kernel_rfl) (by kernel_rfl) (fun _ _ _ h=>h) (Or.inl ⟨by rfl,?f4⟩) ?_
 case f4=>(intro w;go_simp;try with_reducible rfl)
 refine wpAny_take (i:=6) (v:=?_) rfl (by kernel_rfl) (by kernel_rfl) (by kernel_rfl) (fun _ _ _ h=>h) (Or.inl ⟨by rfl,?f6⟩) ?_
 case f6=>(intro w;go_simp;try with_reducible rfl)
 refine wpAny_take (i:=7) (v:=?_) rfl (by kernel_rfl) (by kernel_rfl) (by kernel_rfl) (fun _ _ _ h=>h) (Or.inl ⟨by rfl,?f7⟩) ?_
 case f7=>(intro w;go_simp;try with_reducible rfl)
 refine wpAny_take (i:=9) (v:=?_) rfl (by kernel_rfl) (by kernel_rfl) (by kernel_rfl) (fun _ _ _ h=>h) (Or.inl ⟨by rfl,?f9⟩) ?_
 case f9=>(intro w;go_simp;try with_reducible rfl)
 refine wpAny_take (i:=10) (v:=?_) rfl (by kernel_rfl) (by kernel_rfl) (by kernel_rfl) (fun _ _ _ h=>h) (Or.inl ⟨by rfl,?f10⟩) ?_
 case f10=>(intro w;go_simp;try with_reducible rfl)
 refine wpAny_take (i:=12) (v:=?_) rfl (by kernel_rfl) (by kernel_rfl) (by kernel_rfl) (fun _ _ _ h=>h) (Or.inl ⟨by rfl,?f12⟩) ?_
 case f12=>(intro w;go_simp;try with_reducible rfl)
 refine wpAny_take (i:=13) (v:=?_) rfl (by kernel_rfl) (by kernel_rfl) (by kernel_rfl) (fun _ _ _ h=>h) (Or.inl ⟨by rfl,?f13⟩) ?_
 case f13=>(intro w;go_simp;try with_reducible rfl)
 refine wpAny_ready (rs:=[2]) (by kernel_rfl) (by simp) ?_
 refine AllReady.cons rfl (fun K hK=>?_) AllReady.nil
 go_simp
 refine(unhide N0 _).mono ?_
 rintro e w' ⟨rfl,hw⟩
 obtain rfl:=hw.symm
 clear hw
 refine hK _ _ ?_
 clear hK K
 refine wpAny_ready (rs:=[5]) (by kernel_rfl) (by simp) ?_
 refine AllReady.cons rfl (fun K hK=>?_) AllReady.nil
 go_simp
 refine(unhide N1 _).mono ?_
 rintro e w' ⟨rfl,hw⟩
 obtain rfl:=hw.symm
 clear hw
 refine hK _ _ ?_
 clear hK K
 refine wpAny_ready (rs:=[8]) (by kernel_rfl) (by simp) ?_
 refine AllReady.cons rfl (fun K hK=>?_) AllReady.nil
 go_simp
 refine(unhide N2 _).mono ?_
 rintro e w' ⟨rfl,hw⟩
 obtain rfl:=hw.symm
 clear hw
 refine hK _ _ ?_
 clear hK K
 refine wpAny_ready (rs:=[11]) (by kernel_rfl) (by simp) ?_
 refine AllReady.cons rfl (fun K hK=>?_) AllReady.nil
 go_simp
 refine(unhide N3 _).mono ?_
 rintro e w' ⟨rfl,hw⟩
 obtain rfl:=hw.symm
 clear hw
 refine hK _ _ ?_
 clear hK K
 refine wpAny_ready (rs:=[14]) (by kernel_rfl) (by simp) ?_
 refine AllReady.cons rfl (fun K hK=>?_) AllReady.nil
 go_simp
 refine(unhide N4 _).mono ?_
 rintro e w' ⟨rfl,hw⟩
 obtain rfl:=hw.symm
 clear hw
 refine hK _ _ ?_
 clear hK K
 refine wpAny_take (i:=15) (v:=?_) rfl (by kernel_rfl) (by kernel_rfl) (by kernel_rfl) (fun _ _ _ h=>h) (Or.inl ⟨by rfl,?f15⟩) ?_
 case f15=>(intro w;go_simp;try with_reducible rfl)
 refine wpAny_ready (rs:=[16]) (by kernel_rfl) (by simp) ?_
 refine AllReady.cons rfl (fun K hK=>?_) AllReady.nil
 go_simp
 refine hK _ _ ?_
 clear hK K
 refine wpAny_done (by kernel_rfl) ?_ _
 go_wp2
 exact bodyPost_ret (v:=.agg #[.int .i64 (x0:Int),.int .i64 (x1:Int),.int .i64 (x2:Int),.int .i64 (x3:Int),.int .i64 (x4:Int),.slice none 0 0,.string ⟨#[]⟩]) (by simp[results,Tryz.results175,go_sem]) rfl ⟨rfl,(Zaf w _).drew⟩
end Go.Proofs.YtlhhinlghhjghaaGreatDoor
