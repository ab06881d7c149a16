/-
  Contracts of relay.New, Put, Crash, Inc, Kept, Rank.
  Contracts of seen.Print and bucketlineref23.Print: for every packet.
  Contracts of seen.New, Len, Has, oldest, keep, Clear, Fresh, of a cache that is there and of none; bucketlinelaw's worlds carry it by 'Tu (caF g b)'. Conditions: fewer than 2^40 came.
  Contracts of node.planOf, plan.begin and node.New. Conditions: a config that may be, of at most 2^20 to each node.
  Contract of plan.begin: a state as at first. Condition: at most 2^20 to send to; a rate that is a word.
-/
import Derived.Test.YtlhhinlghhjghaaGreatDoorU28
import Derived.Test.YtlhhinlghhjghaaGreatDoorU21
import Derived.Test.YtlhhinlghhjghaaGreatDoorU19
import Derived.Test.YtlhhinlghhjghaaGreatDoorU18
import Derived.Deep.RegionHeld
import Derived.Deep.RegionHeld3
import Derived.Deep.CutRange
import Derived.BigQuiet
import Derived.Test.YtlhhinlghhjghaaGreatDoorU35
import Derived.Test.YtlhhinlghhjghaaGreatDoorU9
namespace Go.Proofs.YtlhhinlghhjghaaGreatDoor
open Go.RowKit Go.Sort
set_option linter.unusedVariables false
set_option linter.unusedSimpArgs false
set_option maxRecDepth 4000
set_option maxHeartbeats 8000000
theorem ZAd(a:Addr)(w:World):(binOp .eql 171 (.iface 229 (.pointer (some a))) .nilIface).run Tryz.prog w=.ok (.bool false) w:=by kernel_rfl
theorem ZzF(x:Value)(w:World):(Instr.makeInterface 229 x).run Tryz.prog w=.ok (.iface 229 x) w:=run_makeInterface w 229 x (by kernel_rfl)
theorem Zv9 (a : Addr) (w : World) : (method 534 229 (.pointer (some a)) "Len").run Tryz.prog w = .ok (361, .pointer (some a)) w := by kernel_rfl
theorem Zv2 (a : Addr) (w : World) : (method 534 229 (.pointer (some a)) "Put").run Tryz.prog w = .ok (362, .pointer (some a)) w := by kernel_rfl
theorem Zw5 (a : Addr) (w : World) : (method 534 229 (.pointer (some a)) "All").run Tryz.prog w = .ok (359, .pointer (some a)) w := by kernel_rfl
theorem ZiU(g gb B m:Nat)(t i:Int)(v:Value)(ps:List PKV)(w:World)(h:RlAt w g gb B m t i v ps):
  Calls Tryz.prog 76 #[.pointer (some ⟨g,0,none⟩)] w fun e w'=>e=.returned (.bool false)∧w'=w:=by
 obtain⟨h0,h1,h2⟩:=h.cells
 have he:=ZAd ⟨gb,0,none⟩
 clear h
 go_enter Tryz.func76,Tryz.ntmps76
 go_wp2
 go_ret
 exact⟨rfl,rfl⟩
theorem ZiE(w:World):Calls Tryz.prog 76 #[.pointer none] w fun e w'=>e=.returned (.bool true)∧w'=w:=by
 go_enter Tryz.func76,Tryz.ntmps76
 go_wp2
 go_ret
 exact⟨rfl,rfl⟩
theorem ZuI(n t:Int)(w:World):
  Calls Tryz.prog 62 #[.int .i64 n,.int .i64 t] w fun e w'=> ∃g gb,e=.returned (.pointer (some ⟨g,0,none⟩))∧RlAt w' g gb w.heap.size (capN n) (Zfk t) 0 (.slice none 0 0) []∧Below w.heap.size w w':=by
 have hmx:=Zfl t (-1099511627776)
 have hmn:=ZgB (max t (-1099511627776)) 1099511627776
 have hmk:=ZzF
 have hcl:min (max t (-1099511627776)) 1099511627776=Zfk t:=rfl
 rw[hcl]at hmn
 clear hcl
 generalize max t (-1099511627776)=t1 at*
 go_enter Tryz.func62,Tryz.ntmps62
 go_wp2_with (go_at_call 123;refine(ZrU n _).mono ?_;rintro e w1 ⟨rfl,hd1,hb1⟩;have HD1:=hide hd1;have HB1:=hide hb1;clear hd1 hb1)
 go_ret
 exact⟨_,_,rfl,ZAJ _ (unhide HD1),(unhide HB1).alloc (unhide HB1).size _⟩
theorem Zd6(g gb B m:Nat)(t i:Int)(v:Value)(ps:List PKV)(w:World)(h:RlAt w g gb B m t i v ps):
  Calls Tryz.prog 38 #[.pointer (some ⟨g,0,none⟩)] w fun e w'=>e=.returned (.int .i64 (ps.length:Int))∧w'=w:=by
 obtain⟨h0,h1,h2⟩:=h.cells
 have hme:=Zv9 ⟨gb,0,none⟩
 have HN:=hide (ZiU g gb B m t i v ps w h)
 have HL:=hide (ZrQ gb B m v ps w h.buf)
 clear h
 go_enter Tryz.func38,Tryz.ntmps38
 go_wp2_with (first
  |(go_at_call 76;refine(unhide HN).mono ?_;rintro e w1 ⟨rfl,hw1⟩;obtain rfl:=hw1.symm;clear hw1)
  |(go_at_call 361;refine(unhide HL).mono ?_;rintro e w1 ⟨rfl,hw1⟩;obtain rfl:=hw1.symm;clear hw1))
 go_ret
 exact⟨rfl,rfl⟩
theorem Zic(w:World):Calls Tryz.prog 38 #[.pointer none] w fun e w'=>e=.returned (.int .i64 0)∧w'=w:=by
 go_enter Tryz.func38,Tryz.ntmps38
 go_wp2_with (go_at_call 76;refine(ZiE _).mono ?_;rintro e w1 ⟨rfl,hw1⟩;obtain rfl:=hw1.symm;clear hw1)
 go_ret
 exact⟨rfl,rfl⟩
theorem Zpk(g gb B m:Nat)(t i:Int)(v:Value)(ps:List PKV)(w:World)(h:RlAt w g gb B m t i v ps):
  Calls Tryz.prog 40 #[.pointer (some ⟨g,0,none⟩)] w fun e w'=>e=.returned (.int .i64 (ps.length:Int))∧w'=w:=by
 have HK:=hide (Zd6 g gb B m t i v ps w h)
 clear h
 go_enter Tryz.func40,Tryz.ntmps40
 go_wp2_with (go_at_call 38;refine(unhide HK).mono ?_;rintro e w1 ⟨rfl,hw1⟩;obtain rfl:=hw1.symm;clear hw1)
 go_ret
 exact⟨rfl,rfl⟩
theorem Zqv(w:World):Calls Tryz.prog 40 #[.pointer none] w fun e w'=>e=.returned (.int .i64 0)∧w'=w:=by
 go_enter Tryz.func40,Tryz.ntmps40
 go_wp2_with (go_at_call 38;refine(Zic _).mono ?_;rintro e w1 ⟨rfl,hw1⟩;obtain rfl:=hw1.symm;clear hw1)
 go_ret
 exact⟨rfl,rfl⟩
def PutL(w w':World)(g gb B m:Nat)(t i:Int)(v:Value)(ps:List PKV)(p:PKV)(e:Ending):Prop:=
 e=.returned (.bool (Zdm m (ps.map PKV.pd) p.pd))∧∃v' ps',RlAt w' g gb B m t i v' ps'∧ps'.map PKV.pd=bput m (ps.map PKV.pd) p.pd∧Tu (rlF g gb v) w w'∧MvB w v v'
theorem Zs2(g gb B m:Nat)(t i:Int)(v:Value)(ps:List PKV)(p:PKV)(w:World)(ht:Tab w)(h:RlAt w g gb B m t i v ps)(hr:∀w',Tu (rlF g gb v) w w'→RowAt w' p.r.a p.r.n p.r.xs)(hn:p.r.n≤10)(hs:p.r.s.size≤1000):
  Calls Tryz.prog 33 #[.pointer (some ⟨g,0,none⟩),p.val] w fun e w'=>PutL w w' g gb B m t i v ps p e:=by
 have hb0:=ZgM w p
 have hx:BkA 59 (w.alloc (.cells #[.int .i64 p.o,.int .i64 p.l,.int .i64 p.k,.int .i64 p.z,.int .i64 p.h,.slice p.r.a p.r.n p.r.c,.string p.r.s] 59)) w.heap.size p.cells:=Zag 59 w p.cells
 have hgw:=h.buf.lt
 have HNB:Hid (¬bfF gb v w.heap.size):=hide fun hf=>by
  rcases hf with e|e
  ·omega
  ·have:=(World.ownsRow.lt h.buf.own _ e).2;omega
 unfold PKV.val
 generalize hW:w.alloc (.cells #[.int .i64 p.o,.int .i64 p.l,.int .i64 p.k,.int .i64 p.z,.int .i64 p.h,.slice p.r.a p.r.n p.r.c,.string p.r.s] 59)=W at*
 have HNO:=hide (fun wx (hb:Below W.heap.size W wx)=>ZiU g gb B m t i v ps wx ((h.below hb0).below hb))
 have HPU:=fun wx (hb:Below W.heap.size W wx)=>Zsr gb B m v ps p wx ((ht.below hb0).below hb) ((h.below hb0).below hb).buf (fun w' htu=>hr w' ((tuR htu).after (below0 hb0 hb))) hn hs
 unfold PKV.val at HPU
 have HPB:=hide HPU
 have HRL:=hide (fun wx (hb:Below W.heap.size W wx)=>(h.below hb0).below hb)
 have HX:=hide hx
 have HB0:=hide hb0
 have hme:=Zv2 ⟨gb,0,none⟩
 obtain⟨c0, -, -⟩:=(h.below hb0).cells
 obtain⟨q0,q1,q2,q3,q4,q5,q6⟩:PkAt W w.heap.size (.int .i64 p.o) (.int .i64 p.l) (.int .i64 p.k) (.int .i64 p.z) (.int .i64 p.h) (.slice p.r.a p.r.n p.r.c) (.string p.r.s):=⟨hx.at 0 rfl,hx.at 1 rfl,hx.at 2 rfl,hx.at 3 rfl,hx.at 4 rfl,hx.at 5 rfl,hx.at 6 rfl⟩
 clear h hx hb0 hr ht HPU
 go_enter Tryz.func33,Tryz.ntmps33
 go_wp2_with fail
 go_region_held3 (fun w'=>w'.cell? ⟨g,0,none⟩=some (.iface 229 (.pointer (some ⟨gb,0,none⟩)))∧w'.cell? ⟨w.heap.size,0,none⟩=some (.int .i64 p.o)∧w'.cell? ⟨w.heap.size,1,none⟩=some (.int .i64 p.l)∧w'.cell? ⟨w.heap.size,2,none⟩=some (.int .i64 p.k)∧w'.cell? ⟨w.heap.size,3,none⟩=some (.int .i64 p.z)∧w'.cell? ⟨w.heap.size,4,none⟩=some (.int .i64 p.h)∧w'.cell? ⟨w.heap.size,5,none⟩=some (.slice p.r.a p.r.n p.r.c)∧w'.cell? ⟨w.heap.size,6,none⟩=some (.string p.r.s)) (go_keep) (first
  |(go_at_call 76;refine(unhide HNO _ (Below.refl _ _).drew).mono ?_;rintro e w1 ⟨rfl,hw1⟩;obtain rfl:=hw1.symm;clear hw1)
  |(go_at_call 362;refine(unhide HPB _ (Below.refl _ _).drew).mono ?_;rintro e w2 ⟨rfl,v2,ps2,hd2,hp2,ht2,hm2⟩;have hl2:=(unhide HRL _ (Below.refl _ _).drew).bufs hd2 ht2;have HL2:=hide hl2;have HP2:=hide hp2;have HT2:=hide ht2;have HM2:=hide hm2;obtain⟨e0, -, -⟩:=hl2.cells;have hk:=((unhide HX).below (Below.refl _ _).drew).tu ht2 (unhide HNB);obtain⟨y0,y1,y2,y3,y4,y5,y6⟩:PkAt w2 w.heap.size (.int .i64 p.o) (.int .i64 p.l) (.int .i64 p.k) (.int .i64 p.z) (.int .i64 p.h) (.slice p.r.a p.r.n p.r.c) (.string p.r.s):=⟨hk.at 0 rfl,hk.at 1 rfl,hk.at 2 rfl,hk.at 3 rfl,hk.at 4 rfl,hk.at 5 rfl,hk.at 6 rfl⟩;clear hl2 hp2 ht2 hm2 hk hd2))
 go_wp2
 go_ret
 exact⟨rfl,v2,ps2,unhide HL2,unhide HP2,(tuR (unhide HT2)).after (below0 (unhide HB0) (Below.refl _ _).drew),(unhide HM2).new (unhide HB0).size⟩
theorem ZBe{o l k z h:Int}{xs:List Nat}{n:Nat}(h1:ZaX o l k z h xs n):ZaX o l k z 0 xs n:=
 ⟨⟨h1.1.1,h1.1.2.1,h1.1.2.2.1,by decide,by decide⟩,h1.2⟩
theorem Zrv{o l k z h:Int}{xs:List Nat}{s:ByteArray}(h1:ZaX o l k z h xs s.size):(st (encL o l k z h xs (tx s))).size≤1048576:=by
 have h2:=ZeJ h1.2.1
 have h3:s.size≤64:=by have:=h1.2.2.2;have:=h1.1.1.2.2;omega
 rw[Zb1]
 unfold encL
 simp only[List.length_append,Zgh,Zeg,Zan,Zcj,Zaa]
 omega
theorem ZzZ(o l k z h:Int)(xs:List Nat)(s:ByteArray):sumS (st (encL o l k z h xs (tx s)))=sumN (encL o l k z h xs (tx s)):=by
 unfold sumS
 rw[Zdl (ZcU _ _ _ _ _ _ _ (Zal s))]
theorem ZxT(p:PKV)(w:World)(hr:RowAt w p.r.a p.r.n p.r.xs):
  Calls Tryz.prog 75 #[p.val] w fun e w'=>e=.returned (.int .u32 ((prD p.pd:Nat):Int))∧Below w.heap.size w w':=by
 obtain⟨o,l,k,z,h,⟨a,n,c,xs,s⟩⟩:=p
 have B0:=hide (Zaf w (.cells #[.int .i64 o,.int .i64 l,.int .i64 k,.int .i64 z,.int .i64 h,.slice a n c,.string s] 59))
 have K0:=hide (Zag 59 w [.int .i64 o,.int .i64 l,.int .i64 k,.int .i64 z,.int .i64 h,.slice a n c,.string s])
 have HR:=hide hr
 unfold PKV.val
 cases hk:okD (PKV.pd ⟨o,l,k,z,h,⟨a,n,c,xs,s⟩⟩)
 ·have HC:=hide (ZaR o l k z h a n c xs s _ (Zbu hr (.cells #[.int .i64 o,.int .i64 l,.int .i64 k,.int .i64 z,.int .i64 h,.slice a n c,.string s] 59)) 1 (Zsp hk))
  rw[ZAP hk]
  clear hr hk HR K0
  go_enter Tryz.func75,Tryz.ntmps75
  go_wp2_with fail
  refine(unhide HC).mono ?_
  rintro e w1 ⟨rfl,hb1⟩
  have B1:=hide (below0 (unhide B0) hb1)
  clear hb1 HC B0
  go_wp2
  go_ret
  exact⟨rfl,unhide B1⟩
 ·have hc:ZaX o l k z h xs s.size:=Zcr.1 hk
  have hc0:=ZBe hc
  have HC:=hide (ZaR o l k z h a n c xs s _ (Zbu hr (.cells #[.int .i64 o,.int .i64 l,.int .i64 k,.int .i64 z,.int .i64 h,.slice a n c,.string s] 59)) 0 (Zjh hk))
  have HE:=hide (fun w' (hr':RowAt w' a n xs)=>Zum o l k z 0 a n c xs s w' hr' hc0)
  have HS:=hide (fun w'=>Zm8 (st (encL o l k z 0 xs (tx s))) w' (Zrv hc0))
  have HN:=hide (show sumS (st (encL o l k z 0 xs (tx s)))=prD (PKV.pd ⟨o,l,k,z,h,⟨a,n,c,xs,s⟩⟩) from by rw[Zzk hk,ZzZ];rfl)
  generalize prD (PKV.pd ⟨o,l,k,z,h,⟨a,n,c,xs,s⟩⟩)=X at*
  generalize sumS (st (encL o l k z 0 xs (tx s)))=Y at*
  generalize st (encL o l k z 0 xs (tx s))=T at*
  clear hr hk hc hc0
  go_enter Tryz.func75,Tryz.ntmps75
  go_wp2_with fail
  refine(unhide HC).mono ?_
  rintro e w1 ⟨rfl,hb1⟩
  have B1:=hide (below0 (unhide B0) hb1)
  have K1:=(unhide K0).below hb1
  have q0:=K1.at 0 rfl
  have q1:=K1.at 1 rfl
  have q2:=K1.at 2 rfl
  have q3:=K1.at 3 rfl
  have q4:=K1.at 4 rfl
  have q5:=K1.at 5 rfl
  have q6:=K1.at 6 rfl
  have q7:=K1.frz 4
  have BS:=hide (Ze2 (unhide B1) (Zav w1 w.heap.size 4 (.int .i64 0)) (Nat.le_refl _))
  have RS:=hide ((unhide HR).below (unhide BS))
  clear hb1 HC B0 K0 HR B1 K1
  go_wp2_with (first
   |(go_at_call 130;refine(unhide HE _ (unhide RS)).mono ?_;rintro e w3 ⟨rfl,hb3⟩;have B3:=hide (below0 (unhide BS) hb3);clear hb3)
   |(go_at_call 131;refine(unhide HS _).mono ?_;rintro e w4 ⟨rfl,hw4⟩;obtain rfl:=hw4.symm;clear hw4)
   |fail)
  go_ret
  exact⟨ZaE (by rw[unhide HN]),unhide B3⟩
end Go.Proofs.YtlhhinlghhjghaaGreatDoor
namespace Go.Proofs.YtlhhinlghhjghaaGreatDoor
open Go.RowKit Go.Sort Go.Maps
set_option linter.unusedVariables false
set_option linter.unusedSimpArgs false
set_option maxRecDepth 4000
set_option maxHeartbeats 8000000
theorem ZA6{w:World}{b n nx:Nat}{D:DataW Unit}{es:List (Nat×Nat)}(h:OwnM w b n D)(hM:MpL D nx es){x:Nat}(hx:x<4294967296):
  ∃c:Int,(Instr.lookup 224 (.map (some b)) (.int .u32 (x:Int)) true).run Tryz.prog w=.ok (.tuple #[.int .i64 c,.bool (hasD (es.map Prod.fst) x)]) w:=by
 obtain⟨v,ps,hrun,hv⟩:=World.ownsMap.look_ok h ZpO Tryz.underlying224 (ZAR w) (zd:=.lit (.int .i64 0)) (zp:=[]) (plainElem_int Tryz.underlying3 (by decide)) (Zz6 hx)
 obtain⟨c,rfl,_⟩:=plainElem_int_inv Tryz.underlying3 hv
 exact⟨c,by rw[hrun,hM.has]⟩
theorem Zdz(F:Nat→Prop)(w:World):Tu F w w.drew:=⟨rfl,rfl,rfl,Nat.le_refl _,fun _ _ _=>rfl⟩
theorem ZsY(n:Int)(w:World):
  Calls Tryz.prog 60 #[.int .i64 n] w fun e w'=> ∃g b,e=.returned (.pointer (some ⟨g,0,none⟩))∧w.heap.size≤g∧w.heap.size≤b∧CaAt w' g b (capN n) 0 []∧Below w.heap.size w w':=by
 have h1:=Zje n
 have h2:=ZiY n
 have h3:= @run_makeMap Tryz.prog
 have hm:=ZfQ n
 generalize capN n=m at*
 go_enter Tryz.func60,Tryz.ntmps60
 go_wp2
 go_ret
 have hb:Below w.heap.size w ((w.alloc (.map #[] 0)).alloc (.cells #[.int .i64 (m:Int),.map (some w.heap.size),.int .i64 0] 226)):=
  ((Below.refl _ _).alloc (Nat.le_refl _) _).trans (((Below.refl _ _).alloc (Nat.le_refl _) _).mono (by simp))
 refine⟨_,w.heap.size,rfl,by simp,Nat.le_refl _,⟨⟨0,[],.map [],Nat.le_refl _,?_,?_,MpL.empty,rfl⟩,Nat.zero_le _,hm⟩,hb⟩
 ·have:=Zag 226 (w.alloc (.map #[] 0)) [.int .i64 (m:Int),.map (some w.heap.size),.int .i64 0]
  simpa using this
 ·exact World.ownsMap.alloc (World.ownsMap_made w Tryz.prog 95 (plainElem Tryz.prog 3)) _
theorem Ztz(g b m N:Nat)(L:List Nat)(p:PKV)(w:World)(h:CaAt w g b m N L)(hr:RowAt w p.r.a p.r.n p.r.xs):
  Calls Tryz.prog 73 #[.pointer (some ⟨g,0,none⟩),p.val] w fun e w'=>e=.returned (.bool (hasD L (prD p.pd)))∧Below w.heap.size w w':=by
 have hb0:Below w.heap.size w (w.alloc (.cells #[.int .i64 p.o,.int .i64 p.l,.int .i64 p.k,.int .i64 p.z,.int .i64 p.h,.slice p.r.a p.r.n p.r.c,.string p.r.s] 59)):=Zaf w _
 have K0:=Zag 59 w [.int .i64 p.o,.int .i64 p.l,.int .i64 p.k,.int .i64 p.z,.int .i64 p.h,.slice p.r.a p.r.n p.r.c,.string p.r.s]
 have hr0:=hr.below hb0
 obtain⟨nx,es,D,hn,hk,ho,hM,hL⟩:=(h.below hb0).it
 unfold PKV.val
 generalize hW:w.alloc (.cells #[.int .i64 p.o,.int .i64 p.l,.int .i64 p.k,.int .i64 p.z,.int .i64 p.h,.slice p.r.a p.r.n p.r.c,.string p.r.s] 59)=W at*
 have hK1:=hk.at 1 rfl
 have q0:=K0.at 0 rfl
 have q1:=K0.at 1 rfl
 have q2:=K0.at 2 rfl
 have q3:=K0.at 3 rfl
 have q4:=K0.at 4 rfl
 have q5:=K0.at 5 rfl
 have q6:=K0.at 6 rfl
 have HP:=hide (ZxT p W.drew hr0)
 have HL:=hide (fun w1 (hb:Below W.drew.heap.size W.drew w1)=>ZA6 (OwnM.tu (F:=fun _=>False) ho (Tu.of_below (show Below W.heap.size W w1 from(Below.refl _ _).drew.trans hb)) id) hM (Zyk p.pd))
 have HC:=hide (fun w1 (hb:Below W.drew.heap.size W.drew w1)=>show _∧_ from⟨hk.below (show Below W.heap.size W w1 from(Below.refl _ _).drew.trans hb),K0.below (show Below W.heap.size W w1 from(Below.refl _ _).drew.trans hb)⟩)
 have HB:=hide hb0
 rw[←hL]at HL
 generalize prD p.pd=X at*
 generalize hasD L X=bb at*
 unfold PKV.val at HP
 clear hr hr0 hk ho hM hL hb0 K0 h
 go_enter Tryz.func73,Tryz.ntmps73
 go_wp2_with fail
 go_region_held (fun w'=>w'.cell? ⟨g,1,none⟩=some (.map (some b))∧w'.cell? ⟨w.heap.size,0,none⟩=some (.int .i64 p.o)∧w'.cell? ⟨w.heap.size,1,none⟩=some (.int .i64 p.l)∧w'.cell? ⟨w.heap.size,2,none⟩=some (.int .i64 p.k)∧w'.cell? ⟨w.heap.size,3,none⟩=some (.int .i64 p.z)∧w'.cell? ⟨w.heap.size,4,none⟩=some (.int .i64 p.h)∧w'.cell? ⟨w.heap.size,5,none⟩=some (.slice p.r.a p.r.n p.r.c)∧w'.cell? ⟨w.heap.size,6,none⟩=some (.string p.r.s)) (go_keep) (first
  |(go_at_call 75;refine(unhide HP).mono ?_;rintro e w1 ⟨rfl,hb1⟩;obtain⟨cc,hlk⟩:=unhide HL w1 hb1;obtain⟨hk1,hx1⟩:=unhide HC w1 hb1;have y1:=hk1.at 1 rfl;have z0:=hx1.at 0 rfl;have z1:=hx1.at 1 rfl;have z2:=hx1.at 2 rfl;have z3:=hx1.at 3 rfl;have z4:=hx1.at 4 rfl;have z5:=hx1.at 5 rfl;have z6:=hx1.at 6 rfl;have HB1:=hide (show Below w.heap.size w w1 from below0 (unhide HB) ((Below.refl _ _).drew.trans hb1));clear hb1 hk1 hx1))
 go_wp2
 go_ret
 exact⟨rfl,unhide HB1⟩
end Go.Proofs.YtlhhinlghhjghaaGreatDoor
namespace Go.Proofs.YtlhhinlghhjghaaGreatDoor
open Go.RowKit Go.Sort
set_option linter.unusedVariables false
set_option linter.unusedSimpArgs false
set_option maxRecDepth 4000
set_option maxHeartbeats 8000000
variable {B:Nat}{p:PLD}{s:STD}{w w':World}
theorem ZlC:(Tryz.prog.info? 93).map (·.size)=some 8:=by kernel_rfl
theorem Zlf{tmps:Array Value}{W:World}{g:Nat}{cs:List Value}(h2:tmps.getD 4 undef=.pointer (some ⟨g,0,none⟩))(hq:BkA 93 W g cs)(hl:cs.length=8):
  (results Tryz.f27 tmps).run Tryz.prog W=.ok (.agg cs.toArray) W:=by
 have hld:=hq.load Tryz.underlying93 rfl ZlC hl
 have h2':tmps[4]?.getD undef=.pointer (some ⟨g,0,none⟩):=by simpa using h2
 simp[results,Tryz.results27,asAddr,h2',hld]
theorem ZxC(a:Option Addr)(n c:Nat)(xs:List Int)(w:World)(h:IntzAt w a n xs)(hn:n≤1048576)(h0:a=none→n=0∧c=0):
  Calls Tryz.prog 57 #[.slice a n c] w fun e w'=> ∃v,e=.returned v∧OwnZ w' w.heap.size v xs∧Below w.heap.size w w':=by
 cases a with
 |none=>
  obtain⟨rfl,rfl⟩:=h0 rfl
  obtain rfl:xs=[]:=List.eq_nil_of_length_eq_zero h.1
  exact(Zph w).mono fun e w' ⟨he,hw⟩=>⟨_,he,by rw[hw];exact World.ownsRow_nil _ _ _ _,by rw[hw];exact Below.refl _ _⟩
 |some ad=>exact ZiB ad n c xs w h hn
theorem Zp9(f:CFV)(i:Nat)(d:NDV)(w:World)(h:NdsAt w f.a f.n f.ds)(hi:i<f.n)(hd:f.ds.getD i .dflt=d)(hl:d.n≤1048576)(h0:d.a=none→d.n=0∧d.c=0):
  Calls Tryz.prog 27 #[f.val,.int .i64 (i:Int)] w fun e w'=> ∃tv,e=.returned (.agg #[.int .i64 d.kd,.int .i64 f.buffer,.int .i64 f.queue,.int .i64 f.cache,.int .i64 f.timeout,.int .i64 f.target,.float .f64 f.rate,tv])∧OwnZ w' w.heap.size tv d.tos∧Below w.heap.size w w':=by
 obtain⟨b,off,ha,hcl⟩:=h.at hi
 have c0:=(hcl i hi).1
 have c1:=(hcl i hi).2
 have hz:=h.2.1 i hi
 rw[hd]at c0 c1 hz
 have HC:=hide (fun wx (hb:Below w.heap.size w wx)=>ZxC d.a d.n d.c d.tos wx (hz.below hb) hl h0)
 have hbl:b<w.heap.size:=World.block_lt_of_cell? w _ c0
 clear hcl hz h0 hl h
 obtain⟨a,n,c,ds,obj,size,spread,buffer,queue,cache,rate,timeout,target⟩:=f
 obtain⟨kd,a',n',c',tos⟩:=d
 simp only at ha hi c0 c1 HC hd⊢
 subst ha
 clear hd
 have hlt':(i:Int)<(n:Int):=by omega
 unfold CFV.val
 obtain⟨W,hW,X,Y,B1⟩:∃W,W=(w.alloc (.cells #[.slice (some ⟨b,off,none⟩) n c,.string obj,.int .i64 size,.int .i64 spread,.int .i64 buffer,.int .i64 queue,.int .i64 cache,.float .f64 rate,.int .i64 timeout,.int .i64 target] 25)).alloc (.cells #[.int .i64 0,.int .i64 0,.int .i64 0,.int .i64 0,.int .i64 0,.int .i64 0,.float .f64 0,.slice none 0 0] 93)∧
   BkA 93 W (w.heap.size+1) [.int .i64 0,.int .i64 0,.int .i64 0,.int .i64 0,.int .i64 0,.int .i64 0,.float .f64 0,.slice none 0 0]∧BkA 25 W w.heap.size [.slice (some ⟨b,off,none⟩) n c,.string obj,.int .i64 size,.int .i64 spread,.int .i64 buffer,.int .i64 queue,.int .i64 cache,.float .f64 rate,.int .i64 timeout,.int .i64 target]∧Below w.heap.size w W:=by
  refine⟨_,rfl,?_,(Zag 25 w [_,_,_,_,_,_,_,_,_,_]).below (alloc_low _ _),below0 (alloc_low _ _) (alloc_low _ _)⟩
  have:=Zag 93 (w.alloc (.cells #[.slice (some ⟨b,off,none⟩) n c,.string obj,.int .i64 size,.int .i64 spread,.int .i64 buffer,.int .i64 queue,.int .i64 cache,.float .f64 rate,.int .i64 timeout,.int .i64 target] 25)) [.int .i64 0,.int .i64 0,.int .i64 0,.int .i64 0,.int .i64 0,.int .i64 0,.float .f64 0,.slice none 0 0]
  rwa[Zab]at this
 have HY:=hide Y
 have HX:=hide X
 have HB:=hide B1
 replace c0:=(B1.cell hbl).trans c0
 replace c1:=(B1.cell hbl).trans c1
 have y0:=Y.at 0 rfl
 have y4:=Y.at 4 rfl
 have y5:=Y.at 5 rfl
 have y6:=Y.at 6 rfl
 have y7:=Y.at 7 rfl
 have y8:=Y.at 8 rfl
 have y9:=Y.at 9 rfl
 have hl1:=Y.lt
 have hl2:b<W.heap.size:=Nat.lt_of_lt_of_le hbl B1.size
 have hne1:w.heap.size+1≠w.heap.size:=by omega
 have hqw:w.heap.size<w.heap.size+1:=by omega
 have hne2:w.heap.size+1≠b:=by omega
 clear X Y B1
 go_enter Tryz.func27,Tryz.ntmps27
 go_wp2_with fail
 rw[←hW]
 clear hW
 generalize w.heap.size+1=q at*
 refine wp_region_held_drew (S:=fun w'=>w'.cell? ⟨w.heap.size,0,none⟩=some (.slice (some ⟨b,off,none⟩) n c)∧w'.cell? ⟨w.heap.size,4,none⟩=some (.int .i64 buffer)∧w'.cell? ⟨w.heap.size,5,none⟩=some (.int .i64 queue)∧w'.cell? ⟨w.heap.size,6,none⟩=some (.int .i64 cache)∧w'.cell? ⟨w.heap.size,7,none⟩=some (.float .f64 rate)∧w'.cell? ⟨w.heap.size,8,none⟩=some (.int .i64 timeout)∧w'.cell? ⟨w.heap.size,9,none⟩=some (.int .i64 target)∧w'.cell? ⟨b,off+i*2,none⟩=some (.int .i64 kd)∧w'.cell? ⟨b,off+i*2+1,none⟩=some (.slice a' n' c')) (by kernel_rfl) ?_ (fun hHeld=>?_)
 ·go_keep
 refine wpAnyH_take (i:=0) (v:=?_) rfl (by kernel_rfl) (by kernel_rfl) (by kernel_rfl) (fun _ _ _ h=>h) (Or.inl ⟨by rfl,?f0⟩) (by assumption) ?_
 case f0=>(intro w hSw;(try dsimp only at hSw);go_simp;try with_reducible rfl)
 refine wpAnyH_take (i:=1) (v:=?_) rfl (by kernel_rfl) (by kernel_rfl) (by kernel_rfl) (fun _ _ _ h=>h) (Or.inl ⟨by rfl,?f1⟩) (by assumption) ?_
 case f1=>(intro w hSw;(try dsimp only at hSw);go_simp;try with_reducible rfl)
 refine wpAnyH_take (i:=2) (v:=?_) rfl (by kernel_rfl) (by kernel_rfl) (by kernel_rfl) (fun _ _ _ h=>h) (Or.inl ⟨by rfl,?f2⟩) (by assumption) ?_
 case f2=>(intro w hSw;(try dsimp only at hSw);go_simp;try with_reducible rfl)
 refine wpAnyH_take (i:=3) (v:=?_) rfl (by kernel_rfl) (by kernel_rfl) (by kernel_rfl) (fun _ _ _ h=>h) (Or.inl ⟨by rfl,?f3⟩) (by assumption) ?_
 case f3=>(intro w hSw;(try dsimp only at hSw);go_simp;try with_reducible rfl)
 refine wpAnyH_take (i:=4) (v:=?_) rfl (by kernel_rfl) (by kernel_rfl) (by kernel_rfl) (fun _ _ _ h=>h) (Or.inl ⟨by rfl,?f4⟩) (by assumption) ?_
 case f4=>(intro w hSw;(try dsimp only at hSw);go_simp;try with_reducible rfl)
 refine wpAnyH_take (i:=5) (v:=?_) rfl (by kernel_rfl) (by kernel_rfl) (by kernel_rfl) (fun _ _ _ h=>h) (Or.inl ⟨by rfl,?f5⟩) (by assumption) ?_
 case f5=>(intro w hSw;(try dsimp only at hSw);go_simp;try with_reducible rfl)
 refine wpAnyH_take (i:=6) (v:=?_) rfl (by kernel_rfl) (by kernel_rfl) (by kernel_rfl) (fun _ _ _ h=>h) (Or.inl ⟨by rfl,?f6⟩) (by assumption) ?_
 case f6=>(intro w hSw;(try dsimp only at hSw);go_simp;try with_reducible rfl)
 refine wpAnyH_take (i:=7) (v:=?_) rfl (by kernel_rfl) (by kernel_rfl) (by kernel_rfl) (fun _ _ _ h=>h) (Or.inl ⟨by rfl,?f7⟩) (by assumption) ?_
 case f7=>(intro w hSw;(try dsimp only at hSw);go_simp;try with_reducible rfl)
 refine wpAnyH_take (i:=8) (v:=?_) rfl (by kernel_rfl) (by kernel_rfl) (by kernel_rfl) (fun _ _ _ h=>h) (Or.inl ⟨by rfl,?f8⟩) (by assumption) ?_
 case f8=>(intro w hSw;(try dsimp only at hSw);go_simp;try with_reducible rfl)
 refine wpAnyH_take (i:=9) (v:=?_) rfl (by kernel_rfl) (by kernel_rfl) (by kernel_rfl) (fun _ _ _ h=>h) (Or.inl ⟨by rfl,?f9⟩) (by assumption) ?_
 case f9=>(intro w hSw;(try dsimp only at hSw);go_simp;try with_reducible rfl)
 refine wpAnyH_take (i:=10) (v:=?_) rfl (by kernel_rfl) (by kernel_rfl) (by kernel_rfl) (fun _ _ _ h=>h) (Or.inl ⟨by rfl,?f10⟩) (by assumption) ?_
 case f10=>(intro w hSw;(try dsimp only at hSw);go_simp;try with_reducible rfl)
 refine wpAnyH_take (i:=11) (v:=?_) rfl (by kernel_rfl) (by kernel_rfl) (by kernel_rfl) (fun _ _ _ h=>h) (Or.inl ⟨by rfl,?f11⟩) (by assumption) ?_
 case f11=>(intro w hSw;(try dsimp only at hSw);go_simp;try with_reducible rfl)
 refine wpAnyH_take (i:=12) (v:=?_) rfl (by kernel_rfl) (by kernel_rfl) (by kernel_rfl) (fun _ _ _ h=>h) (Or.inl ⟨by rfl,?f12⟩) (by assumption) ?_
 case f12=>(intro w hSw;(try dsimp only at hSw);go_simp;try with_reducible rfl)
 refine wpAnyH_take (i:=13) (v:=?_) rfl (by kernel_rfl) (by kernel_rfl) (by kernel_rfl) (fun _ _ _ h=>h) (Or.inl ⟨by rfl,?f13⟩) (by assumption) ?_
 case f13=>(intro w hSw;(try dsimp only at hSw);go_simp;try with_reducible rfl)
 refine wpAnyH_take (i:=14) (v:=?_) rfl (by kernel_rfl) (by kernel_rfl) (by kernel_rfl) (fun _ _ _ h=>h) (Or.inl ⟨by rfl,?f14⟩) (by assumption) ?_
 case f14=>(intro w hSw;(try dsimp only at hSw);go_simp;try with_reducible rfl)
 refine wpAnyH_take (i:=15) (v:=?_) rfl (by kernel_rfl) (by kernel_rfl) (by kernel_rfl) (fun _ _ _ h=>h) (Or.inl ⟨by rfl,?f15⟩) (by assumption) ?_
 case f15=>(intro w hSw;(try dsimp only at hSw);go_simp;try with_reducible rfl)
 refine wpAnyH_take (i:=16) (v:=?_) rfl (by kernel_rfl) (by kernel_rfl) (by kernel_rfl) (fun _ _ _ h=>h) (Or.inl ⟨by rfl,?f16⟩) (by assumption) ?_
 case f16=>(intro w hSw;(try dsimp only at hSw);go_simp;try with_reducible rfl)
 refine wpAnyH_take (i:=17) (v:=?_) rfl (by kernel_rfl) (by kernel_rfl) (by kernel_rfl) (fun _ _ _ h=>h) (Or.inl ⟨by rfl,?f17⟩) (by assumption) ?_
 case f17=>(intro w hSw;(try dsimp only at hSw);go_simp;try with_reducible rfl)
 refine wpAnyH_take (i:=18) (v:=?_) rfl (by kernel_rfl) (by kernel_rfl) (by kernel_rfl) (fun _ _ _ h=>h) (Or.inl ⟨by rfl,?f18⟩) (by assumption) ?_
 case f18=>(intro w hSw;(try dsimp only at hSw);go_simp;try with_reducible rfl)
 refine wpAnyH_take (i:=19) (v:=?_) rfl (by kernel_rfl) (by kernel_rfl) (by kernel_rfl) (fun _ _ _ h=>h) (Or.inl ⟨by rfl,?f19⟩) (by assumption) ?_
 case f19=>(intro w hSw;(try dsimp only at hSw);go_simp;try with_reducible rfl)
 refine wpAnyH_take (i:=20) (v:=?_) rfl (by kernel_rfl) (by kernel_rfl) (by kernel_rfl) (fun _ _ _ h=>h) (Or.inl ⟨by rfl,?f20⟩) (by assumption) ?_
 case f20=>(intro w hSw;(try dsimp only at hSw);go_simp;try with_reducible rfl)
 refine wpAnyH_take (i:=21) (v:=?_) rfl (by kernel_rfl) (by kernel_rfl) (by kernel_rfl) (fun _ _ _ h=>h) (Or.inl ⟨by rfl,?f21⟩) (by assumption) ?_
 case f21=>(intro w hSw;(try dsimp only at hSw);go_simp;try with_reducible rfl)
 refine wpAnyH_take (i:=22) (v:=?_) rfl (by kernel_rfl) (by kernel_rfl) (by kernel_rfl) (fun _ _ _ h=>h) (Or.inl ⟨by rfl,?f22⟩) (by assumption) ?_
 case f22=>(intro w hSw;(try dsimp only at hSw);go_simp;try with_reducible rfl)
 refine wpAnyH_take (i:=23) (v:=?_) rfl (by kernel_rfl) (by kernel_rfl) (by kernel_rfl) (fun _ _ _ h=>h) (Or.inl ⟨by rfl,?f23⟩) (by assumption) ?_
 case f23=>(intro w hSw;(try dsimp only at hSw);go_simp;try with_reducible rfl)
 refine wpAnyH_ready (rs:=[24]) (by kernel_rfl) (by simp) ?_
 refine AllReadyH.cons rfl (fun K hK=>?_) AllReadyH.nil
 go_simp
 refine(unhide HC _ ((unhide HB).trans (Below.refl _ _).drew)).mono ?_
 rintro e w5 ⟨v,rfl,ho5,hb5⟩
 obtain⟨av,cv,rfl, -⟩:=ho5.ints
 have hb45:Below W.heap.size W w5:=(Below.refl _ _).drew.trans hb5
 have Y5:=(unhide HY).below hb45
 have X5:=(unhide HX).below hb45
 refine hK.out _ _ ?_ (fun hHeld=>?_)
 ·exact⟨Y5.at 0 rfl,Y5.at 4 rfl,Y5.at 5 rfl,Y5.at 6 rfl,Y5.at 7 rfl,Y5.at 8 rfl,Y5.at 9 rfl,(hb45.cell (p:=⟨b,off+i*2,none⟩) hl2).trans c0,(hb45.cell (p:=⟨b,off+i*2+1,none⟩) hl2).trans c1⟩
 clear hK K
 refine wpAnyH_take (i:=25) (v:=?_) rfl (by kernel_rfl) (by kernel_rfl) (by kernel_rfl) (fun _ _ _ h=>h) (Or.inl ⟨by rfl,?f25⟩) (by assumption) ?_
 case f25=>(intro w hSw;(try dsimp only at hSw);go_simp;try with_reducible rfl)
 refine wpAnyH_ready (rs:=[26]) (by kernel_rfl) (by simp) ?_
 refine AllReadyH.cons rfl (fun K hK=>?_) AllReadyH.nil
 refine Zih rfl 93 93 ZlC (.tmp 4) (.tmp 30) rfl q 0 _ [.int .i64 kd,.int .i64 buffer,.int .i64 queue,.int .i64 cache,.int .i64 timeout,.int .i64 target,.float .f64 rate,.slice av tos.length cv] rfl rfl X5 rfl (show 0+8≤8 by decide) (by simp[Value.oneCell']) fun w6 hx6 ht6=>?_
 refine hK.out _ _ ?_ (fun hHeld=>?_)
 ·exact⟨ht6.cell (Y5.at 0 rfl) (Ne.symm hne1),ht6.cell (Y5.at 4 rfl) (Ne.symm hne1),ht6.cell (Y5.at 5 rfl) (Ne.symm hne1),ht6.cell (Y5.at 6 rfl) (Ne.symm hne1),ht6.cell (Y5.at 7 rfl) (Ne.symm hne1),ht6.cell (Y5.at 8 rfl) (Ne.symm hne1),ht6.cell (Y5.at 9 rfl) (Ne.symm hne1),ht6.cell ((hb45.cell (p:=⟨b,off+i*2,none⟩) hl2).trans c0) (Ne.symm hne2),ht6.cell ((hb45.cell (p:=⟨b,off+i*2+1,none⟩) hl2).trans c1) (Ne.symm hne2)⟩
 clear hK K
 refine wpAnyH_done (by kernel_rfl) ?_ _
 go_wp2
 have hs5:q<W.heap.size:=(unhide HX).lt
 refine bodyPost_ret (Zlf rfl hx6 rfl) rfl ⟨_,rfl,?_,?_⟩
 ·have:=Zam ho5 ht6 fun j hj e=>by
   have:=(ZbL ho5 hj).1
   have:W.heap.size≤j:=this
   omega
  exact OwnZ.mono (show OwnZ w6 W.heap.size _ _ from this) (unhide HB).size
 ·exact(below0 (unhide HB) hb45).trans (ht6.below (below0 (unhide HB) hb45).size fun j hj e=>by omega)
theorem SttAt.push{w1 w2:World}(h:SttAt w B p s)(hb1:Below w.heap.size w w1){l:LkV}(hl:l.At w1 p.M p.queue)(hn:∀j,l.F j→w.heap.size≤j)(hB:B≤w.heap.size){v:Value}
  (ho:OwnL w2 B v (s.ls++[l])) (hg:w1.grownBy w2 s.lv.ownBlock):SttAt w2 B p {s with lv:=v,ls:=s.ls++[l]}:=by
 have h1:=h.below hb1
 have ht:Tu (fun j=>s.lv.ownBlock=some j) w1 w2:=Tu.of_gb hg fun j _ e=>e
 have k0:∀j,s.lv.ownBlock=some j→kdB w1 j=114+2:=fun j e=>Zah h1.lks e
 have hlt:∀i,i<s.ls.length→∀j,(s.ls.getD i .dflt).F j→j<w.heap.size:=fun i hi j hj=>by
  have:=LkAt.lt (h.each i hi).1
  rcases hj with rfl|rfl|rfl|rfl<;>omega
 have hget:∀i,i<s.ls.length→(s.ls++[l]).getD i .dflt=s.ls.getD i .dflt:=fun i hi=>by simp[List.getD_eq_getElem?_getD,List.getElem?_append_left hi]
 have hlast:(s.ls++[l]).getD s.ls.length .dflt=l:=by simp[List.getD_eq_getElem?_getD]
 refine⟨ho,?_,?_,h1.mem.tu ht (fun e=>by have:=h1.mem.blk.kd;have:=k0 _ e;omega),h.memlo,h1.ca.tu ht (fun e=>by have:=h1.ca.kd _ (.inl rfl);have:=k0 _ e;omega) (fun e=>by have:=h1.ca.kd _ (.inr rfl);have:=k0 _ e;omega),h.calo,
  fun r hr=>(h1.rl r hr).tu ht (fun j hj e=>by have:=(h1.rl r hr).kd j hj;have:=k0 _ e;omega) fun j cur hc e=>(by have:=Za2 hc;have:=k0 _ e;omega),
  fun d hd=>(h1.dc d hd).tu ht (fun j hj e=>by have:=(h1.dc d hd).kd j hj;have:=k0 _ e;omega) fun j cur hc e=>(by have:=Za2 hc;have:=k0 _ e;omega)⟩
 ·intro i hi
  rw[List.length_append,List.length_singleton]at hi
  by_cases e:i<s.ls.length
  ·rw[hget i e]
   exact⟨(h1.each i e).1.tu ht fun j hj e2=>by have:=(h1.each i e).1.kd j hj;have:=k0 _ e2;omega,(h.each i e).2⟩
  ·obtain rfl:i=s.ls.length:=by omega
   rw[hlast]
   exact⟨hl.tu ht fun j hj e2=>by have:=LkAt.kd hl j hj;have:=k0 _ e2;omega,fun j hj=>Nat.le_trans hB (hn j hj)⟩
 ·intro i k hi hk hik j hj hj2
  rw[List.length_append,List.length_singleton]at hi hk
  by_cases e:i<s.ls.length
  ·rw[hget i e]at hj
   by_cases e2:k<s.ls.length
   ·rw[hget k e2]at hj2
    exact h.apart i k e e2 hik j hj hj2
   ·obtain rfl:k=s.ls.length:=by omega
    rw[hlast]at hj2
    have:=hlt i e j hj;have:=hn j hj2;omega
  ·obtain rfl:i=s.ls.length:=by omega
   rw[hlast]at hj
   have e2:k<s.ls.length:=by omega
   rw[hget k e2]at hj2
   have:=hlt k e2 j hj2;have:=hn j hj;omega
theorem SttAt.addR(h:SttAt w B p s)(hb:Below w.heap.size w w')(r:RLV)(hr:RlAt w' r.g r.gb B (capN p.buffer) (Zfk p.target) r.i r.v r.ps):SttAt w' B p {s with rl:=some r}:=by
 have h1:=h.below hb
 exact⟨h1.lks,h1.each,h1.apart,h1.mem,h1.memlo,h1.ca,h1.calo,fun x hx=>(by cases hx;exact hr),h1.dc⟩
theorem SttAt.addD(h:SttAt w B p s)(hb:Below w.heap.size w w')(d:DCV)(hd:DcAt w' d.g B p.buffer d.s d.gs d.v d.rs):SttAt w' B p {s with dc:=some d}:=by
 have h1:=h.below hb
 exact⟨h1.lks,h1.each,h1.apart,h1.mem,h1.memlo,h1.ca,h1.calo,h1.rl,fun x hx=>(by cases hx;exact hd)⟩
theorem ZbM:(Tryz.prog.info? 103).map (·.size)=some 5:=by kernel_rfl
theorem Zc5{tmps:Array Value}{W:World}{g:Nat}{cs:List Value}(h2:tmps.getD 2 undef=.pointer (some ⟨g,0,none⟩))(hq:BkA 103 W g cs)(hl:cs.length=5):
  (results Tryz.f29 tmps).run Tryz.prog W=.ok (.agg cs.toArray) W:=by
 have hld:=hq.load Tryz.underlying103 rfl ZbM hl
 have h2':tmps[2]?.getD undef=.pointer (some ⟨g,0,none⟩):=by simpa using h2
 simp[results,Tryz.results29,asAddr,h2',hld]
def Zt9(p:PLD)(s:STD):Prop:=(∀i,i<s.ls.length→(s.ls.getD i .dflt).lv=1000*wiZ p.queue 1 256∧(s.ls.getD i .dflt).L=[]∧(s.ls.getD i .dflt).lo=0)∧s.Z=List.replicate 16 0∧s.N=0∧s.P=[]
def NewP(p:PLD)(s:STD):Prop:=Zt9 p s∧((p.kd=2∧s.dc=none∧∃r,s.rl=some r∧r.i=0∧r.ps=[])∨(p.kd=3∧s.rl=none∧∃d,s.dc=some d∧d.s=zDS∧d.rs=[])∨(p.kd≠2∧p.kd≠3∧s.rl=none∧s.dc=none))
structure BgJ(w wr:World)(q:Nat)(p:PLD)(s:STD):Prop where
 box:BkA 93 wr w.heap.size (plC p)
 res:BkA 103 wr (w.heap.size+1) [.slice none 0 0,.pointer none,.pointer none,.pointer none,.pointer none]
 blk:BkA 103 wr q (sttC s)
 qlo:w.heap.size+1<q
 here:SttAt wr w.heap.size p s
 low:Below w.heap.size w wr
 fr:Zt9 p s
 no:s.rl=none∧s.dc=none
theorem BgJ.tu{wr:World}{q:Nat}{s':STD}(h:BgJ w wr q p s){F:Nat→Prop}(ht:Tu F wr w')(hF:∀j,F j→j=q∨sttF s j)(hb:BkA 103 w' q (sttC s'))(hs:SttAt w' w.heap.size p s')(hf:Zt9 p s')(hn:s'.rl=none∧s'.dc=none):BgJ w w' q p s':=by
 have k0:=h.here.kd
 have kd:=h.qlo
 refine⟨h.box.tu ht fun e=>?_,h.res.tu ht fun e=>?_,hb,h.qlo,hs,h.low.trans (ht.below h.low.size fun j hj e=>?_),hf,hn⟩
 ·rcases hF _ e with e|e
  ·omega
  ·have:=k0 _ e;have:=h.box.kd;omega
 ·rcases hF _ e with e|e
  ·omega
  ·have:=k0 _ e;have:=h.res.kd;omega
 ·rcases hF _ e with e|e
  ·omega
  ·have:=h.here.low _ e;omega
theorem BgJ.push{wr w1 w2 w3:World}{q:Nat}(h:BgJ w wr q p s)(hb1:Below wr.heap.size wr w1){l:LkV}(hl:l.At w1 p.M p.queue)(hn:∀j,l.F j→wr.heap.size≤j)(hf:l.lv=1000*wiZ p.queue 1 256∧l.L=[]∧l.lo=0){v:Value}
  (hb2:Below w1.heap.size w1 w2) (ho:OwnL w3 w.heap.size v (s.ls++[l])) (hg:w2.grownBy w3 s.lv.ownBlock):BgJ w (w3.setCell ⟨q,0,none⟩ v) q p {s with lv:=v,ls:=s.ls++[l]}:=by
 have hB:w.heap.size≤wr.heap.size:=h.low.size
 have hlb:l.At w2 p.M p.queue:=LkAt.below hl hb2
 have h3:=h.here.push (below0 hb1 hb2) hlb hn hB ho hg
 have hbk2:=h.blk.below (below0 hb1 hb2)
 have hlk2:=(h.here.below (below0 hb1 hb2)).lks
 have hne:some q≠s.lv.ownBlock:=fun e=>by have:=Zah hlk2 e.symm;have:=hbk2.kd;omega
 have hbk3:=hbk2.kept hg hne
 have hs:=Zav w3 q 0 v
 have k3:=h3.kd
 have hq3:=hbk3.kd
 have hT:Tu (fun j=>j=q∨sttF s j) wr (w3.setCell ⟨q,0,none⟩ v):=
  ((Tu.of_below (F:=fun j=>j=q∨sttF s j) (below0 hb1 hb2)).trans (Tu.of_gb (F:=fun j=>s.lv.ownBlock=some j) hg fun j _ e=>e) fun j _ e=>.inr (.inl e)).trans hs fun j _ e=>.inl e
 refine h.tu hT (fun j e=>e) (hbk3.set 0 v) (h3.tu hs (fun j hj e=>by have:=k3 j hj;subst e;omega) fun j hj e=>by subst e;omega) ⟨fun i hi=>?_,h.fr.2⟩ h.no
 rw[List.length_append,List.length_singleton]at hi
 by_cases e:i<s.ls.length
 ·rw[show(s.ls++[l]).getD i .dflt=s.ls.getD i .dflt by simp[List.getD_eq_getElem?_getD,List.getElem?_append_left e]]
  exact h.fr.1 i e
 ·obtain rfl:i=s.ls.length:=by omega
  rw[show(s.ls++[l]).getD s.ls.length .dflt=l by simp[List.getD_eq_getElem?_getD]]
  exact hf
end Go.Proofs.YtlhhinlghhjghaaGreatDoor
