/-
  Contracts of link.Send (frames of at most 2^20 words), Tick, Queued, Clear, mayGo, of a link that is there and of none. No condition.
  Contracts of link.taken over the link's own functions, and of link.Pump, of a link that is there and of none. No condition.
  Members as plain data: what is noted of each of eight nodes, who is alive, what a word turns. Of no program. No condition.
  Members in memory ('MbAt'); contracts of members.New, member, isNode, isTime, and of the array's own methods. No condition.
  Packets as data ('PD'): which may be ('okD'), which are of one object ('alkD'). No condition.
-/
import Derived.Test.YtlhhinlghhjghaaGreatDoorU13
import Derived.Test.YtlhhinlghhjghaaGreatDoorU14
import Derived.Test.YtlhhinlghhjghaaGreatDoorU19
import Derived.Test.YtlhhinlghhjghaaGreatDoorU5
import Derived.Test.YtlhhinlghhjghaaGreatDoorU2
import Derived.ChangeKeysEq
import Derived.Deep.RegionHeld3
import Derived.Deep.CutRange
import Derived.BigQuiet
import Derived.Test.YtlhhinlghhjghaaGreatDoorU3
import Derived.Test.YtlhhinlghhjghaaGreatDoorU15
namespace Go.Proofs.YtlhhinlghhjghaaGreatDoor
open Go.RowKit Go.Conc
set_option linter.unusedVariables false
set_option linter.unusedSimpArgs false
set_option maxRecDepth 4000
set_option maxHeartbeats 8000000
variable {Lv:Int}{L:List ByteArray}{t:Nat}{v:Value}{w:World}
def FRV.ok(f:FRV):Prop:=ZvB f.kd f.fr f.ic f.p.o f.p.l f.p.k f.p.z f.p.h f.p.r.xs f.p.r.s
def FRV.enc(f:FRV):ByteArray:=ZhE f.kd f.fr f.ic f.p.o f.p.l f.p.k f.p.z f.p.h f.p.r.xs f.p.r.s
theorem FRV.enc_size{f:FRV}(h:f.ok):f.enc.size≤1048576:=by
 have h1:=Zuu h.2.2
 unfold FRV.enc ZhE
 rw[ZcQ,Zb1,Zg7,Zaa]
 omega
theorem Zoa(f:FRV)(w:World)(ht:Tab w)(hr:RowAt w f.p.r.a f.p.r.n f.p.r.xs)(hn:f.p.r.n≤1048576)(hP:f.ok):
  Calls Tryz.prog 82 #[f.val] w fun e w'=>e=.returned (.tuple #[.string f.enc,.int .i64 0])∧Below w.heap.size w w':=
 ZwL f.kd f.fr f.ic f.p.o f.p.l f.p.k f.p.z f.p.h f.p.r.a f.p.r.n f.p.r.c f.p.r.xs f.p.r.s w ht hr hn hP
theorem ZtK(g gb gq c lo:Nat)(M q Lv:Int)(L:List ByteArray)(f:FRV)(w:World)(h:LkAt w g gb gq c M q Lv L lo)(ht:Tab w)(hr:RowAt w f.p.r.a f.p.r.n f.p.r.xs)(hn:f.p.r.n≤1048576)(hP:f.ok)(hl:L.length<capN q):
  Calls Tryz.prog 36 #[.pointer (some ⟨g,0,none⟩),f.val] w fun e w'=>e=.returned (.int .i64 0)∧LkAt w' g gb gq c M q Lv (L++[f.enc]) lo∧Tu (lkF g gb gq c) w w':=by
 have HE:=hide (fun wx (htx:Tab wx) (hrx:RowAt wx f.p.r.a f.p.r.n f.p.r.xs)=>Zoa f wx htx hrx hn hP)
 have HS:=hide (FRV.enc_size hP)
 have HT:=hide ht
 have HR:=hide hr
 have H:=hide h
 generalize f.enc=s at*
 clear ht hr hn hP h
 simp only[FRV.val]at HE⊢
 go_enter Tryz.func36,Tryz.ntmps36
 go_wp2_with (first
  |(go_at_call 82;refine(unhide HE _ ((unhide HT).below (Zaf _ _)) ((unhide HR).below (Zaf _ _))).mono ?_;rintro e w1 ⟨rfl,hb1⟩;have HB:=hide (below0 (Zaf _ _) hb1);clear hb1;have H1:=hide ((unhide H).below (unhide HB));have c3:=(unhide H1).blk.at 3 rfl)
  |(go_at_call 83;refine(Zs0 _ _ _ _ _ _ _ (unhide H1).qu (unhide HS) hl).mono ?_;rintro e w2 ⟨rfl,hm2,ht2⟩;have H2:=hide ((unhide H1).que hm2 ht2);have HU:=hide (Tu.after (unhide HB) (Zww (g:=g) (gb:=gb) ht2));clear hm2 ht2)
  |fail)
 go_ret
 exact⟨rfl,unhide H2,unhide HU⟩
theorem ZlD(g gb gq c lo:Nat)(M q Lv:Int)(L:List ByteArray)(f:FRV)(w:World)(h:LkAt w g gb gq c M q Lv L lo)(ht:Tab w)(hr:RowAt w f.p.r.a f.p.r.n f.p.r.xs)(hn:f.p.r.n≤1048576)(hP:f.ok)(hl:capN q≤L.length)(hlo:lo≤1099511627776):
  Calls Tryz.prog 36 #[.pointer (some ⟨g,0,none⟩),f.val] w fun e w'=>e=.returned (.int .i64 5)∧LkAt w' g gb gq c M q Lv L (lo+1)∧Tu (lkF g gb gq c) w w':=by
 have HE:=hide (fun wx (htx:Tab wx) (hrx:RowAt wx f.p.r.a f.p.r.n f.p.r.xs)=>Zoa f wx htx hrx hn hP)
 have HS:=hide (FRV.enc_size hP)
 have HT:=hide ht
 have HR:=hide hr
 have H:=hide h
 generalize f.enc=s at*
 clear ht hr hn hP h
 simp only[FRV.val]at HE⊢
 go_enter Tryz.func36,Tryz.ntmps36
 go_wp2_with (first
  |(go_at_call 82;refine(unhide HE _ ((unhide HT).below (Zaf _ _)) ((unhide HR).below (Zaf _ _))).mono ?_;rintro e w1 ⟨rfl,hb1⟩;have HB:=hide (below0 (Zaf _ _) hb1);clear hb1;have H1:=hide ((unhide H).below (unhide HB));have c3:=(unhide H1).blk.at 3 rfl)
  |(go_at_call 83;refine(Zu9 _ _ _ _ _ _ _ (unhide H1).qu (unhide HS) hl hlo).mono ?_;rintro e w2 ⟨rfl,hm2,ht2⟩;have H2:=hide ((unhide H1).que hm2 ht2);have HU:=hide (Tu.after (unhide HB) (Zww (g:=g) (gb:=gb) ht2));clear hm2 ht2)
  |fail)
 go_ret
 exact⟨rfl,unhide H2,unhide HU⟩
theorem ZkE(g gb gq c lo k:Nat)(M q Lv:Int)(L:List ByteArray)(w:World)(h:LkAt w g gb gq c M q Lv L lo)(hk:L.length=k):
  Calls Tryz.prog 87 #[.pointer (some ⟨g,0,none⟩)] w fun e w'=>e=.returned (.int .i64 (k:Int))∧w'=w:=by
 subst hk
 have c3:=h.blk.at 3 rfl
 have H:=hide h
 clear h
 go_enter Tryz.func87,Tryz.ntmps87
 go_wp2_with (first
  |(go_at_call 146;refine(ZeR _ _ _ _ _ _ (unhide H).qu).mono ?_;rintro e w1 ⟨rfl,hw1⟩;obtain rfl:=hw1.symm;clear hw1)
  |fail)
 go_ret
 exact⟨rfl,rfl⟩
theorem ZjR(g gb gq c lo:Nat)(M q Lv:Int)(w:World)(h:LkAt w g gb gq c M q Lv [] lo):
  Calls Tryz.prog 112 #[.pointer (some ⟨g,0,none⟩)] w fun e w'=>e=.returned (.bool false)∧w'=w:=by
 have c3:=h.blk.at 3 rfl
 have H:=hide h
 clear h
 go_enter Tryz.func112,Tryz.ntmps112
 go_wp2_with (first
  |(go_at_call 146;refine(ZeR _ _ _ _ _ _ (unhide H).qu).mono ?_;rintro e w1 ⟨rfl,hw1⟩;obtain rfl:=hw1.symm;clear hw1)
  |fail)
 go_ret
 exact⟨rfl,rfl⟩
theorem Zp4(g gb gq c lo:Nat)(M q Lv:Int)(L:List ByteArray)(w:World)(h:LkAt w g gb gq c M q Lv L lo)(h0:0<L.length)(hl:Lv<1000):
  Calls Tryz.prog 112 #[.pointer (some ⟨g,0,none⟩)] w fun e w'=>e=.returned (.bool false)∧w'=w:=by
 have c2:=h.blk.at 2 rfl
 have c3:=h.blk.at 3 rfl
 have H:=hide h
 have hg:(L.length:Int)>0:=by omega
 have HQ:=hide (ZeR _ _ _ _ _ _ h.qu)
 generalize L.length=n at*
 clear h
 go_enter Tryz.func112,Tryz.ntmps112
 go_wp2_with (first
  |(go_at_call 146;refine(unhide HQ).mono ?_;rintro e w1 ⟨rfl,hw1⟩;obtain rfl:=hw1.symm;clear hw1)
  |(go_at_call 167;refine(ZtD _ _ _ _ _ (unhide H).bt hl).mono ?_;rintro e w1 ⟨rfl,hw1⟩;obtain rfl:=hw1.symm;clear hw1)
  |fail)
 go_ret
 exact⟨rfl,rfl⟩
theorem Zl4(g gb gq c lo:Nat)(M q Lv:Int)(L:List ByteArray)(w:World)(h:LkAt w g gb gq c M q Lv L lo)(h0:0<L.length)(hl:1000≤Lv):
  Calls Tryz.prog 112 #[.pointer (some ⟨g,0,none⟩)] w fun e w'=>e=.returned (.bool true)∧LkAt w' g gb gq c M q (Lv-1000) L lo∧Tu (lkF g gb gq c) w w':=by
 have c2:=h.blk.at 2 rfl
 have c3:=h.blk.at 3 rfl
 have H:=hide h
 have hg:(L.length:Int)>0:=by omega
 have HQ:=hide (ZeR _ _ _ _ _ _ h.qu)
 have HX:=hide (fun wx hb ht=>h.lev (w':=wx) (Lv':=Lv-1000) hb ht)
 generalize L.length=n at*
 clear h
 go_enter Tryz.func112,Tryz.ntmps112
 go_wp2_with (first
  |(go_at_call 146;refine(unhide HQ).mono ?_;rintro e w1 ⟨rfl,hw1⟩;obtain rfl:=hw1.symm;clear hw1)
  |(go_at_call 167;refine(ZqG _ _ _ _ _ (unhide H).bt hl).mono ?_;rintro e w2 ⟨rfl,hm2,ht2⟩;have H2:=hide (unhide HX _ hm2 ht2);have HU:=hide (ZBp (g:=g) (gq:=gq) (c:=c) ht2);clear hm2 ht2)
  |fail)
 go_ret
 exact⟨rfl,unhide H2,unhide HU⟩
def ZeN(L:List ByteArray)(Lv:Int):Nat:=min L.length (Lv/1000).toNat
theorem Zob(L:List ByteArray)(Lv:Int):ZeN L Lv≤L.length:=Nat.min_le_left _ _
theorem Zor(h1:t≤L.length)(h2:1000*(t:Int)≤Lv)(h3:t=L.length∨Lv-1000*(t:Int)<1000):ZeN L Lv=t:=by unfold ZeN;omega
def lenV:Value→Nat
 | .slice _ n _=>n
 |_=>0
structure TkJ(w wr:World)(g gb gq c:Nat)(M q Lv:Int)(L:List ByteArray)(lo t:Nat)(v:Value):Prop where
 lk:LkAt wr g gb gq c M q (Lv-1000*(t:Int)) (L.drop t) lo
 own:OwnT wr w.heap.size v (L.take t)
 tu:Tu (lkF g gb gq c) w wr
 lt:(g<w.heap.size∧gb<w.heap.size)∧gq<w.heap.size∧c<w.heap.size
theorem OwnT.tuL{F:Nat→Prop}{w':World}{B:Nat}{ss:List ByteArray}(h:OwnT w B v ss)(ht:Tu F w w')(hF:∀j,B≤j→¬F j):OwnT w' B v ss:=by
 refine⟨h.1,?_⟩
 rcases h.2 with h0|⟨g,cap,cur,h1,hg,hgg,r⟩
 ·exact .inl h0
 ·exact .inr ⟨g,cap,cur,h1,hg,(ht.block g (Array.getElem?_eq_some_iff.1 hgg).1 (hF g hg)).trans hgg,r⟩
theorem TkJ.no{wr:World}{g gb gq c lo:Nat}{M q:Int}(h:TkJ w wr g gb gq c M q Lv L lo t v){j:Nat}(hj:w.heap.size≤j):¬lkF g gb gq c j:=fun e=>by
 have:=h.lt
 rcases e with e|e|e|e<;>omega
theorem ZiP(h:t<L.length):L.take t++[L.getD t ByteArray.empty]=L.take (t+1):=by
 rw[List.getD_eq_getElem?_getD,List.getElem?_eq_getElem h,Option.getD_some,List.take_append_getElem]
theorem ZxG(h:t<L.length):L.drop t=L.getD t ByteArray.empty::L.drop (t+1):=by
 rw[List.drop_eq_getElem_cons h,List.getD_eq_getElem?_getD,List.getElem?_eq_getElem h]
 rfl
theorem TkJ.next{wr w1 w2 w3:World}{g gb gq c lo:Nat}{M q:Int}{v':Value}(h:TkJ w wr g gb gq c M q Lv L lo t v)(ht:t<L.length)
  (h1:LkAt w1 g gb gq c M q (Lv-1000*(t:Int)-1000) (L.getD t ByteArray.empty::L.drop (t+1)) lo) (t1:Tu (lkF g gb gq c) wr w1)
  (h2:QuAt w2 gq c (capN q) (L.drop (t+1)) lo) (t2:Tu (quF gq c) w1 w2) (h3:OwnT w3 w.heap.size v' (L.take t++[L.getD t ByteArray.empty])) (b3:Below w.heap.size w2 w3):TkJ w w3 g gb gq c M q Lv L lo (t+1) v':=by
 have hl:=h1.que h2 t2
 have hlt:=h.lt
 rw[ZiP ht]at h3
 have e:Lv-1000*((t+1:Nat):Int)=Lv-1000*(t:Int)-1000:=by omega
 refine⟨?_,h3,?_,h.lt⟩
 ·rw[e]
  exact hl.belowB b3 hlt.1.1 hlt.1.2 hlt.2.1 hlt.2.2
 ·refine(Zji h.tu (Zji t1 (Zww t2))).trans (F:=lkF g gb gq c) (G:=fun j=>w.heap.size≤j) ⟨b3.os,b3.tape,b3.output,b3.size,fun k hk hn=>b3.block k (by omega)⟩ fun j hj hg=>by omega
theorem ZmQ(g gb gq c lo:Nat)(M q Lv:Int)(L:List ByteArray)(w:World)(h:LkAt w g gb gq c M q Lv L lo):
  Calls Tryz.prog 111 #[.func (.func 112) #[.pointer (some ⟨g,0,none⟩)] #[],.func (.func 113) #[.pointer (some ⟨gq,0,none⟩)] #[]] w fun e w'=>
   ∃b cc,e=.returned (.slice b (ZeN L Lv) cc)∧TkJ w w' g gb gq c M q Lv L lo (ZeN L Lv) (.slice b (ZeN L Lv) cc):=by
 have hlen:L.length≤256:=Nat.le_trans h.qu.len h.qu.most
 have HJ0:=hide (show TkJ w w g gb gq c M q Lv L lo 0 (.slice none 0 0) from⟨by simpa using h,OwnT.nil _ _,Tu.refl _ _,⟨⟨h.lt.1,h.lt.2.1⟩,h.lt.2.2.1,h.lt.2.2.2⟩⟩)
 have hlv:=h.bt.lev.1
 clear h
 go_enter Tryz.func111,Tryz.ntmps111
 go_wp2_with fail
 go_loopw [5] (fun v wr=> ∃(t:Nat) (b:Option Addr) (cc:Nat),v=.slice b t cc∧t≤L.length∧1000*(t:Int)≤Lv∧Hid (TkJ w wr g gb gq c M q Lv L lo t (.slice b t cc))) (fun v _=>L.length-lenV v)
 case atStart=>exact⟨0,none,0,rfl,Nat.zero_le _,by omega,HJ0⟩
 case round=>
  obtain⟨t,b,cc,rfl,ht,htl,HJ⟩:=hrel
  clear HJ0
  by_cases hlt:t<L.length
  case neg=>
   obtain rfl:t=L.length:=by omega
   have HP:=hide (Zor (L:=L) (Nat.le_refl _) htl (.inl rfl))
   have HK:=hide (unhide HJ).lk
   rw[List.drop_length]at HK
   generalize L.length=n at*
   go_wp2_with (first
    |(go_at_call 112;refine(ZjR _ _ _ _ _ _ _ _ _ (unhide HK)).mono ?_;rintro e w1 ⟨rfl,hw1⟩;obtain rfl:=hw1.symm;clear hw1)
    |fail)
   go_ret
   rw[unhide HP]
   exact⟨b,cc,rfl,unhide HJ⟩
  by_cases hl2:Lv-1000*(t:Int)<1000
  case pos=>
   have HP:=hide (Zor ht htl (.inr hl2))
   go_wp2_with (first
    |(go_at_call 112;refine(Zp4 _ _ _ _ _ _ _ _ _ _ (unhide HJ).lk (by rw[List.length_drop];omega) hl2).mono ?_;rintro e w1 ⟨rfl,hw1⟩;obtain rfl:=hw1.symm;clear hw1)
    |fail)
   go_ret
   rw[unhide HP]
   exact⟨b,cc,rfl,unhide HJ⟩
  have HK:=hide (unhide HJ).lk
  rw[ZxG hlt]at HK
  have HY:=hide (fun w1 w2 w3 v' h1 t1 h2 t2 h3 b3=>(unhide HJ).next (w1:=w1) (w2:=w2) (w3:=w3) (v':=v') hlt h1 t1 h2 t2 h3 b3)
  have HO:=hide (fun w1 (t1:Tu (lkF g gb gq c) wr w1) w2 (t2:Tu (quF gq c) w1 w2)=>((unhide HJ).own.tuL (Zji t1 (Zww t2)) fun j hj=>(unhide HJ).no hj))
  have HZ:=hide (unhide HJ).tu.size
  have hL1:(L.take t).length≤1048576:=by rw[List.length_take];omega
  have hL2:(L.take t++[L.getD t ByteArray.empty]).length=t+1:=by rw[List.length_append,List.length_take,List.length_singleton];omega
  generalize L.getD t ByteArray.empty=x at*
  go_wp2_with (first
   |(go_at_call 112;refine(Zl4 _ _ _ _ _ _ _ _ _ _ (unhide HK) (by rw[List.length_cons];omega) (by omega)).mono ?_;rintro e w1 ⟨rfl,hm1,ht1⟩;have H1:=hide hm1;have T1:=hide ht1;clear hm1 ht1)
   |(go_at_call 113;refine(Zo4 _ _ _ _ _ _ _ (unhide H1).qu).mono ?_;rintro e w2 ⟨rfl,hm2,ht2⟩;have H2:=hide hm2;have T2:=hide ht2;have HO2:=hide (unhide HO _ (unhide T1) _ ht2);have HS2:=hide (Nat.le_trans (unhide HZ) (Nat.le_trans (unhide T1).size ht2.size));clear hm2 ht2)
   |(at_builtin;refine Zf7 rfl _ _ rfl w.heap.size (.slice b t cc) (L.take t) x rfl rfl (unhide HO2) (unhide HS2) hL1 ?_;intro v6 w6 ho6 hb6;have HJ6:=hide (unhide HY _ _ _ _ (unhide H1) (unhide T1) (unhide H2) (unhide T2) ho6 hb6);obtain⟨b6,c6,hv6, -⟩:=ho6.texts;rw[hL2]at hv6;subst hv6;clear ho6 hb6)
   |fail)
  go_roundw
  case rel=>exact⟨t+1,b6,c6,rfl,by omega,by omega,HJ6⟩
  case measure=>simp[lenV];omega
theorem ZpF(g gb gq c lo:Nat)(M q Lv:Int)(L:List ByteArray)(w:World)(h:LkAt w g gb gq c M q Lv L lo):
  Calls Tryz.prog 53 #[.pointer (some ⟨g,0,none⟩)] w fun e w'=>
   ∃b cc,e=.returned (.slice b (ZeN L Lv) cc)∧TkJ w w' g gb gq c M q Lv L lo (ZeN L Lv) (.slice b (ZeN L Lv) cc):=by
 have hmf:∀(fn:Fn) (first cap:Array Value) (w:World),(Instr.makeFunc fn first cap).run Tryz.prog w=.ok (.func fn first cap) w:=fun _ _ _ _=>rfl
 have c3:=h.blk.at 3 rfl
 have HK:=hide (ZmQ g gb gq c lo M q Lv L w h)
 clear h
 generalize ZeN L Lv=t at*
 go_enter Tryz.func53,Tryz.ntmps53
 go_wp2_with (first
  |(go_at_call 111;refine(unhide HK).mono ?_;rintro e w1 ⟨b,cc,rfl,hj⟩;have HJ:=hide hj;clear hj)
  |fail)
 go_ret
 exact⟨b,cc,rfl,unhide HJ⟩
end Go.Proofs.YtlhhinlghhjghaaGreatDoor
namespace Go.Proofs.YtlhhinlghhjghaaGreatDoor
set_option linter.unusedVariables false
set_option linter.unusedSimpArgs false
set_option maxRecDepth 4000
set_option maxHeartbeats 8000000
variable {x i t:Int}{Z:List Int}
def Zdo(x:Int):Bool:=decide (0≤x)&&decide (x<8)
def Zfw(x:Int):Bool:=decide (0≤x)&&decide (x≤1099511627776)
def ZcY(t:Int):Int:=min (max t 0) 1048576
def memO(Z:List Int)(x:Int):Int×Int:=if Zdo x=true then(Z.getD (x.toNat*2) 0,Z.getD (x.toNat*2+1) 0)else(0,0)
def hdB(p:Int×Int):Bool:= !(decide (p.1=0)&&decide (p.2=0))
def ZdI(Z:List Int)(x i t:Int):Bool:=Zdo x&&Zfw t&&decide ((memO Z x).1≤i)
def Zeo(Z:List Int)(x i t:Int):List Int:=if ZdI Z x i t=true then(Z.set (x.toNat*2) i).set (x.toNat*2+1) (t+1)else Z
def ZhA(T:Int)(p:Int×Int)(t:Int):Bool:=hdB p&&Zfw t&&(decide (0≤t-(p.2-1))&&decide (t-(p.2-1)≤T))
def Zuo(T:Int)(Z:List Int)(x t:Int):Bool:=ZhA T (memO Z x) t
def Ze5(P:Nat→Bool):Nat→List Int
 |0=>[]
 |k+1=>Ze5 P k++(if P k=true then [(k:Int)]else [])
def allZ(T:Int)(Z:List Int)(t:Int):List Int:=Ze5 (fun n=>Zuo T Z (n:Int) t) 8
theorem Zhq(P:Nat→Bool):∀k,(Ze5 P k).length≤k
 |0=>Nat.le_refl _
 |k+1=>by
  have:=Zhq P k
  unfold Ze5
  by_cases h:P k=true
  ·rw[if_pos h,List.length_append];simp;omega
  ·rw[if_neg h,List.append_nil];omega
theorem Zt3{P:Nat→Bool}{k:Nat}(h:P k=true):Ze5 P (k+1)=Ze5 P k++[(k:Int)]:=by rw[Ze5,if_pos h]
theorem ZwU{P:Nat→Bool}{k:Nat}(h:P k=false):Ze5 P (k+1)=Ze5 P k:=by rw[Ze5,if_neg (by rw[h];decide),List.append_nil]
theorem Zj7:Zdo x=true↔0≤x∧x<8:=by simp[Zdo]
theorem ZgQ:Zfw x=true↔0≤x∧x≤1099511627776:=by simp[Zfw]
theorem ZeQ(h:Zdo x=true):∃n:Nat,n<8∧x=(n:Int):=by
 have:=Zj7.1 h
 exact⟨x.toNat,by omega,by omega⟩
theorem ZtP{n:Nat}(h:n<8):Zdo (n:Int)=true:=Zj7.2 ⟨by omega,by omega⟩
theorem ZfU(Z:List Int){n:Nat}(h:n<8):memO Z (n:Int)=(Z.getD (n*2) 0,Z.getD (n*2+1) 0):=by
 unfold memO
 rw[if_pos (ZtP h),Int.toNat_natCast]
theorem Zgz(Z:List Int){x:Int}(h:Zdo x=false):memO Z x=(0,0):=by
 unfold memO
 rw[if_neg (by rw[h];decide)]
def InvM(Z:List Int):Prop:=Z.length=16∧∀n,n<8→0≤Z.getD (n*2) 0∧0≤Z.getD (n*2+1) 0∧Z.getD (n*2+1) 0≤1099511627777∧(Z.getD (n*2+1) 0=0→Z.getD (n*2) 0=0)
def InvP(p:Int×Int):Prop:=0≤p.1∧0≤p.2∧p.2≤1099511627777∧(p.2=0→p.1=0)
theorem InvM.mem(h:InvM Z)(x:Int):InvP (memO Z x):=by
 by_cases hx:Zdo x=true
 ·obtain⟨n,hn,rfl⟩:=ZeQ hx
  rw[ZfU Z hn]
  exact h.2 n hn
 ·rw[Zgz Z (by simpa using hx)]
  exact⟨by decide,by decide,by decide,fun _=>rfl⟩
theorem setZ{i j:Nat}(hi:i<Z.length):(Z.set i x).getD j 0=if i=j then x else Z.getD j 0:=by
 rw[List.getD_eq_getElem?_getD,List.getElem?_set]
 by_cases e:i=j
 ·subst e;simp[hi]
 ·simp[e,List.getD_eq_getElem?_getD]
theorem InvM.zero:InvM (List.replicate 16 0):=by
 refine⟨rfl,fun n hn=>?_⟩
 have:∀j,(List.replicate 16 (0:Int)).getD j 0=0:=fun j=>by
  rw[List.getD_eq_getElem?_getD,List.getElem?_replicate];split<;>rfl
 rw[this,this]
 exact⟨by decide,by decide,by decide,fun _=>rfl⟩
theorem ZuK(h:Z.length=16){n m:Nat}(hn:n<8)(hm:m<8)(i t:Int):memO ((Z.set (n*2) i).set (n*2+1) (t+1)) (m:Int)=if n=m then(i,t+1)else memO Z (m:Int):=by
 have l1:(Z.set (n*2) i).length=16:=by rw[List.length_set];exact h
 have e1:∀j,((Z.set (n*2) i).set (n*2+1) (t+1)).getD j 0=if n*2+1=j then t+1 else if n*2=j then i else Z.getD j 0:=fun j=>by
  rw[setZ (by omega),setZ (by omega)]
 rw[ZfU _ hm,ZfU _ hm,e1,e1]
 by_cases e:n=m
 ·subst e
  rw[if_neg (by omega),if_pos rfl,if_pos rfl,if_pos rfl]
 ·rw[if_neg (by omega),if_neg (by omega),if_neg (by omega),if_neg (by omega),if_neg e]
theorem Zki{n:Nat}(h:ZdI Z (n:Int) i t=true):Zeo Z (n:Int) i t=(Z.set (n*2) i).set (n*2+1) (t+1):=by
 unfold Zeo
 rw[if_pos h,Int.toNat_natCast]
theorem ZgA(h:ZdI Z x i t=false):Zeo Z x i t=Z:=by
 unfold Zeo
 rw[if_neg (by rw[h];decide)]
theorem Ziq(h:ZdI Z x i t=true):Zdo x=true∧Zfw t=true∧(memO Z x).1≤i:=by
 unfold ZdI at h
 simp only[Bool.and_eq_true,decide_eq_true_eq]at h
 exact⟨h.1.1,h.1.2,h.2⟩
theorem ZtQ(h:InvM Z)(x i t y:Int):memO (Zeo Z x i t) y=if ZdI Z x i t=true∧y=x then(i,t+1)else memO Z y:=by
 by_cases hb:ZdI Z x i t=true
 ·obtain⟨hx,ht,hi⟩:=Ziq hb
  obtain⟨n,hn,rfl⟩:=ZeQ hx
  rw[Zki hb]
  by_cases hy:Zdo y=true
  ·obtain⟨m,hm,rfl⟩:=ZeQ hy
   rw[ZuK h.1 hn hm]
   by_cases e:n=m
   ·subst e;rw[if_pos rfl,if_pos ⟨hb,rfl⟩]
   ·rw[if_neg e,if_neg (fun q=>e (by omega))]
  ·have hy':Zdo y=false:=by simpa using hy
   rw[Zgz _ hy',Zgz _ hy',if_neg]
   rintro⟨_,rfl⟩
   exact hy (ZtP hn)
 ·rw[ZgA (by simpa using hb),if_neg (fun q=>hb q.1)]
theorem ZsC(Z:List Int)(x i t:Int):(Zeo Z x i t).length=Z.length:=by
 unfold Zeo
 split
 ·rw[List.length_set,List.length_set]
 ·rfl
theorem InvM.of(hl:Z.length=16)(h:∀n:Nat,n<8→InvP (memO Z (n:Int))):InvM Z:=⟨hl,fun n hn=>by
 have:=h n hn
 rw[ZfU Z hn]at this
 exact this⟩
theorem InvM.hear(h:InvM Z)(x i t:Int):InvM (Zeo Z x i t):=by
 refine InvM.of (by rw[ZsC];exact h.1) fun n hn=>?_
 rw[ZtQ h]
 split
 ·rename_i q
  obtain⟨hx,ht,hi⟩:=Ziq q.1
  have h1:=(h.mem x).1
  have h2:=ZgQ.1 ht
  exact⟨by show 0≤i;omega,by show 0≤t+1;omega,by show t+1≤1099511627777;omega,fun e=>by have:t+1=0:=e;omega⟩
 ·exact h.mem _
theorem Zz4(t:Int):0≤ZcY t∧ZcY t≤1048576:=by unfold ZcY;omega
end Go.Proofs.YtlhhinlghhjghaaGreatDoor
namespace Go.Proofs.YtlhhinlghhjghaaGreatDoor
open Go.RowKit Go.Sort
set_option linter.unusedVariables false
set_option linter.unusedSimpArgs false
set_option maxRecDepth 4000
set_option maxHeartbeats 8000000
variable {T:Int}{Z:List Int}{g:Nat}{w:World}
def mbC(T:Int)(Z:List Int):List Value:=.int .i64 T::cellsZ Z
theorem ZxU(T:Int){Z:List Int}{i:Nat}(h:i<Z.length):(mbC T Z)[1+i]? =some (.int .i64 (Z.getD i 0)):=by
 unfold mbC
 rw[Nat.add_comm,List.getElem?_cons_succ,Zbm Z i h]
theorem Zsv(T:Int)(Z:List Int)(i:Nat)(x:Int):(mbC T Z).set (1+i) (.int .i64 x)=mbC T (Z.set i x):=by
 unfold mbC
 rw[Nat.add_comm,List.set_cons_succ,Zfx]
structure MbAt(w:World)(g:Nat)(T:Int)(Z:List Int):Prop where
 blk:BkA 166 w g (mbC T Z)
 inv:InvM Z
 tm:0≤T∧T≤1048576
theorem MbAt.below{w':World}(h:MbAt w g T Z)(hb:Below w.heap.size w w'):MbAt w' g T Z:=⟨h.blk.below hb,h.inv,h.tm⟩
theorem MbAt.tu{F:Nat→Prop}{w':World}(h:MbAt w g T Z)(ht:Tu F w w')(hF:¬F g):MbAt w' g T Z:=⟨h.blk.tu ht hF,h.inv,h.tm⟩
theorem MbAt.t(h:MbAt w g T Z):w.cell? ⟨g,0,none⟩=some (.int .i64 T):=h.blk.at 0 rfl
theorem MbAt.at(h:MbAt w g T Z){n:Nat}(hn:n<8):w.cell? ⟨g,1+n*2,none⟩=some (.int .i64 (Z.getD (n*2) 0))∧w.cell? ⟨g,1+n*2+1,none⟩=some (.int .i64 (Z.getD (n*2+1) 0)):=
 ⟨h.blk.at _ (ZxU T (by have:=h.inv.1;omega)),by rw[Nat.add_assoc];exact h.blk.at _ (ZxU T (by have:=h.inv.1;omega))⟩
theorem Zck(x:Int)(w:World):Calls Tryz.prog 68 #[.int .i64 x] w fun e w'=>e=.returned (.bool (Zdo x))∧w'=w:=by
 unfold Zdo
 by_cases h0:0≤x
 ·have d0:decide (0≤x)=true:=decide_eq_true h0
  go_enter Tryz.func68,Tryz.ntmps68
  go_wp2
  go_ret
  exact⟨Zak (by simp[h0]),rfl⟩
 ·have d0:decide (0≤x)=false:=decide_eq_false h0
  go_enter Tryz.func68,Tryz.ntmps68
  go_wp2
  go_ret
  exact⟨Zak (by simp),rfl⟩
theorem Zch(x:Int)(w:World):Calls Tryz.prog 69 #[.int .i64 x] w fun e w'=>e=.returned (.bool (Zfw x))∧w'=w:=by
 unfold Zfw
 by_cases h0:0≤x
 ·have d0:decide (0≤x)=true:=decide_eq_true h0
  go_enter Tryz.func69,Tryz.ntmps69
  go_wp2
  go_ret
  exact⟨Zak (by simp[h0]),rfl⟩
 ·have d0:decide (0≤x)=false:=decide_eq_false h0
  go_enter Tryz.func69,Tryz.ntmps69
  go_wp2
  go_ret
  exact⟨Zak (by simp),rfl⟩
theorem ZyF(a b:Int)(W:World):
  (binOp .neq 163 (.agg #[.int .i64 a,.int .i64 b]) (.agg #[.int .i64 0,.int .i64 0])).run Tryz.prog W=.ok (.bool (hdB (a,b))) W:=by
 obtain⟨i,hi⟩:∃i,Tryz.prog.info? 3=some i:=by
  cases h:Tryz.prog.info? 3 with
  |none=>exact absurd h (by decide+kernel)
  |some i=>exact⟨i,rfl⟩
 have hc:Tryz.prog.cellsOf 3=1:=by kernel_rfl
 rw[run_neq_struct,run_equalIn_array W 9999 _ _ Tryz.underlying163 hi,hc]
 by_cases h1:a=0
 ·by_cases h2:b=0
  ·simp[Op.eqItems,List.range_succ,part,go_sem,Tryz.underlying3,h1,h2,hdB]
  ·simp[Op.eqItems,List.range_succ,part,go_sem,Tryz.underlying3,h1,h2,hdB]
 ·simp[Op.eqItems,List.range_succ,part,go_sem,Tryz.underlying3,h1,hdB]
theorem Ze4(a b:Int)(w:World):Calls Tryz.prog 148 #[.agg #[.int .i64 a,.int .i64 b]] w fun e w'=>e=.returned (.bool (hdB (a,b)))∧Below w.heap.size w w':=by
 have hq:=ZyF a b
 have hg:Tryz.prog.eqGuardType Tryz.prog.depth 163=false:=by kernel_rfl
 go_enter Tryz.func148,Tryz.ntmps148
 go_wp2
 go_ret
 exact⟨rfl,(Below.refl _ _).alloc (Nat.le_refl _) _⟩
theorem Zno(a b:Int)(w:World):Calls Tryz.prog 70 #[.agg #[.int .i64 a,.int .i64 b]] w fun e w'=>e=.returned (.int .i64 a)∧Below w.heap.size w w':=by
 go_enter Tryz.func70,Tryz.ntmps70
 go_wp2
 go_ret
 exact⟨rfl,(Below.refl _ _).alloc (Nat.le_refl _) _⟩
theorem Ztb(a b:Int)(hb:0≤b∧b≤1099511627777)(w:World):Calls Tryz.prog 149 #[.agg #[.int .i64 a,.int .i64 b]] w fun e w'=>e=.returned (.int .i64 (b-1))∧Below w.heap.size w w':=by
 have hw:IntKind.i64.wrap (b-1)=b-1:=by rw[IntKind.wrap_i64];omega
 go_enter Tryz.func149,Tryz.ntmps149
 go_wp2
 go_ret
 exact⟨rfl,(Below.refl _ _).alloc (Nat.le_refl _) _⟩
theorem Ztr(i t:Int)(ht:0≤t∧t≤1099511627776)(w:World):Calls Tryz.prog 71 #[.int .i64 i,.int .i64 t] w fun e w'=>e=.returned (.agg #[.int .i64 i,.int .i64 (t+1)])∧Below w.heap.size w w':=by
 have hw:IntKind.i64.wrap (t+1)=t+1:=by rw[IntKind.wrap_i64];omega
 go_enter Tryz.func71,Tryz.ntmps71
 go_wp2
 exact bodyPost_ret (v:=.agg #[.int .i64 i,.int .i64 (t+1)]) (by simp[results,Tryz.results71,go_sem]) rfl ⟨rfl,(Below.refl _ _).alloc (Nat.le_refl _) _⟩
theorem Zql(g:Nat)(T:Int)(Z:List Int)(x:Int)(w:World)(h:MbAt w g T Z):
  Calls Tryz.prog 147 #[.pointer (some ⟨g,0,none⟩),.int .i64 x] w fun e w'=>e=.returned (.agg #[.int .i64 (memO Z x).1,.int .i64 (memO Z x).2])∧Below w.heap.size w w':=by
 by_cases hx:Zdo x=true
 ·obtain⟨n,hn,rfl⟩:=ZeQ hx
  rw[ZfU Z hn]
  have hw:=alloc_low w (.cells #[.int .i64 0,.int .i64 0] 163)
  obtain⟨c0,c1⟩:=(h.below hw).at hn
  have hn':(n:Int)<8:=by omega
  have HW:=hide hw
  clear h hw
  generalize Z.getD (n*2) 0=a at*
  generalize Z.getD (n*2+1) 0=b at*
  go_enter Tryz.func147,Tryz.ntmps147
  go_wp2_with (go_at_call 68;refine(Zck _ _).mono ?_;rintro e w1 ⟨rfl,hw1⟩;obtain rfl:=hw1.symm;clear hw1;rw[hx])
  exact bodyPost_ret (v:=.agg #[.int .i64 a,.int .i64 b]) (by simp[results,Tryz.results147,go_sem]) rfl ⟨rfl,alloc_low _ _⟩
 ·have hx':Zdo x=false:=by simpa using hx
  rw[Zgz Z hx']
  clear h
  go_enter Tryz.func147,Tryz.ntmps147
  go_wp2_with (go_at_call 68;refine(Zck _ _).mono ?_;rintro e w1 ⟨rfl,hw1⟩;obtain rfl:=hw1.symm;clear hw1;rw[hx'])
  exact bodyPost_ret (v:=.agg #[.int .i64 0,.int .i64 0]) (by simp[results,Tryz.results147,go_sem]) rfl ⟨rfl,alloc_low _ _⟩
theorem ZrE(t:Int)(w:World):
  Calls Tryz.prog 59 #[.int .i64 t] w fun e w'=>e=.returned (.pointer (some ⟨w.heap.size,0,none⟩))∧MbAt w' w.heap.size (ZcY t) (List.replicate 16 0)∧Below w.heap.size w w':=by
 have hmx:=Zfl t 0
 have hmn:=ZgB (max t 0) 1048576
 have htk:=Zz4 t
 rw[show min (max t 0) 1048576=ZcY t from rfl]at hmn
 generalize ZcY t=T at*
 generalize max t 0=t1 at*
 go_enter Tryz.func59,Tryz.ntmps59
 go_wp2
 go_ret
 exact⟨rfl,⟨Zag 166 w (mbC T (List.replicate 16 0)),InvM.zero,htk⟩,alloc_low _ _⟩
structure PD where
 o:Int
 l:Int
 k:Int
 z:Int
 h:Int
 xs:List Nat
 s:ByteArray
def PD.dflt:PD:=⟨0,0,0,0,0,[],⟨#[]⟩⟩
def PKV.pd(p:PKV):PD:=⟨p.o,p.l,p.k,p.z,p.h,p.r.xs,p.r.s⟩
def okD(p:PD):Bool:=decide (((1≤p.k∧p.k≤128)∧1≤p.z∧p.z≤64)∧(0≤p.o∧p.o≤4294967295)∧(0≤p.l∧p.l≤p.k*p.z)∧0≤p.h∧p.h≤15)&&(Zaj p.k p.xs&&decide (0<cnt p.xs)&&decide ((p.s.size:Int)=p.z))
theorem Zcr{p:PD}:okD p=true↔ZaX p.o p.l p.k p.z p.h p.xs p.s.size:=by
 unfold okD ZaX
 rw[Bool.and_eq_true,Bool.and_eq_true,Bool.and_eq_true,Zbq,decide_eq_true_eq,decide_eq_true_eq,decide_eq_true_eq]
 unfold ZkM ZeD Zh3
 rw[and_assoc (a:=Za5 p.k p.xs)]
theorem ZxO(p:PD):CkP (if okD p=true then 0 else 1) (ZaX p.o p.l p.k p.z p.h p.xs p.s.size):=by
 by_cases h:okD p=true
 ·rw[if_pos h];exact .inl ⟨Zcr.1 h,rfl⟩
 ·rw[if_neg h];exact .inr ⟨fun hc=>h (Zcr.2 hc),rfl⟩
theorem Zcx{p:PD}(h:okD p=true):Za5 p.k p.xs∧0<cnt p.xs∧(p.s.size:Int)=p.z∧1≤p.k∧p.k≤128∧p.z≤64:=by
 obtain⟨⟨⟨h1,h2⟩,_⟩,h3,h4,h5⟩:=Zcr.1 h
 exact⟨h3,h4,h5,h1.1,h1.2,h2.2⟩
theorem ZfM{p:PD}(h:okD p=true):p.xs.length≤2:=by
 obtain⟨⟨h1,h2,_⟩,_⟩:=Zcx h
 have:=Zas p.k
 omega
theorem ZyE{p:PD}(h:okD p=true):(cnt p.xs:Int)≤p.k:=by
 obtain⟨⟨_,_,h3⟩,_,_,hk,_⟩:=Zcx h
 have h1:=(Zjv p.xs p.k.toNat).2 h3
 have h2:=ZlI p.xs p.k.toNat
 omega
def vecsD(L:List PD):List (List Nat):=L.map fun p=>p.xs
def alkD(q p:PD):Bool:=decide (q.o=p.o∧q.l=p.l∧q.k=p.k∧q.z=p.z)
theorem Zn4{p q:PD}(h:alkD p q=true):alkD q p=true:=by
 unfold alkD at*
 rw[decide_eq_true_eq]at*
 exact⟨h.1.symm,h.2.1.symm,h.2.2.1.symm,h.2.2.2.symm⟩
theorem ZkK{p q r:PD}(h:alkD p q=true)(k:alkD q r=true):alkD p r=true:=by
 unfold alkD at*
 rw[decide_eq_true_eq]at*
 exact⟨h.1.trans k.1,h.2.1.trans k.2.1,h.2.2.1.trans k.2.2.1,h.2.2.2.trans k.2.2.2⟩
theorem Zi1(p:PD):alkD p p=true:=by unfold alkD;rw[decide_eq_true_eq];exact⟨rfl,rfl,rfl,rfl⟩
theorem Zsp{p:PKV}(h:okD p.pd=false):CkP 1 (ZaX p.o p.l p.k p.z p.h p.r.xs p.r.s.size):=by
 have:=ZxO p.pd
 rw[h]at this
 exact this
theorem Zjh{p:PKV}(h:okD p.pd=true):CkP 0 (ZaX p.o p.l p.k p.z p.h p.r.xs p.r.s.size):=by
 have:=ZxO p.pd
 rw[h]at this
 exact this
theorem ZqI{ps:List PKV}{i:Nat}(hi:i<ps.length):(ps.map PKV.pd).getD i .dflt=(ps.getD i .dflt).pd:=by
 rw[List.getD_eq_getElem?_getD,List.getElem?_map,List.getElem?_eq_getElem hi,List.getD_eq_getElem?_getD,List.getElem?_eq_getElem hi]
 rfl
end Go.Proofs.YtlhhinlghhjghaaGreatDoor
