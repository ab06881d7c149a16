/-
  What a node's relay, its decoder do with a packet, whether there is one or none. Condition: the tables stand; a packet of at most 10 words and 1000 bytes.
  Contract of Node.Receive; of a node that is none. Condition: the tables stand, bytes of at most 2^20, at most 2^40 deeds.
  Contract of Node.Crash; of a node that is none. Condition: the rate is a word.
  Contracts of Decoder.Rank, Done, Object, Kept, Over: of a decoder, and of none.
  Contracts of Members.Alive, Inc, All, of members that are there and of none. No condition.
-/
import Derived.Test.YtlhhinlghhjghaaGreatDoorU41
import Derived.Test.YtlhhinlghhjghaaGreatDoorU42
import Derived.Test.YtlhhinlghhjghaaGreatDoorU43
import Derived.Test.YtlhhinlghhjghaaGreatDoorU33
import Derived.Test.YtlhhinlghhjghaaGreatDoorU12
namespace Go.Proofs.YtlhhinlghhjghaaGreatDoor
open Go.RowKit Go.Sort
set_option linter.unusedVariables false
set_option linter.unusedSimpArgs false
set_option maxRecDepth 4000
set_option maxHeartbeats 8000000
variable {t T:Int}{p:Int×Int}{cs:List Value}{g B fq:Nat}{q:PKV}{w w' wr:World}
theorem RowAt.tuN{F:Nat→Prop}{a:Option Addr}{n:Nat}{xs:List Nat}(h:RowAt w a n xs)(ht:Tu F w w')(hF:∀ad,a=some ad→n≠0→¬F ad.block):RowAt w' a n xs:=by
 refine⟨h.1,h.2.1,?_⟩
 rcases h.2.2 with h0|⟨b,off,rfl,hc⟩
 ·exact .inl h0
 ·by_cases h0:n=0
  ·exact .inl h0
  ·exact .inr ⟨b,off,rfl,fun i hi=>ht.cell (hc i hi) (hF ⟨b,off,none⟩ rfl h0)⟩
def RlP(m:Nat)(b:Bool)(o o':Option RLV)(d:PD):Prop:=(o=none→o'=none)∧∀r,o=some r→∃r',o'=some r'∧r'.g=r.g∧r'.gb=r.gb∧r'.i=r.i∧r'.ps.map PKV.pd=(if b=true then bput m (r.ps.map PKV.pd) d else r.ps.map PKV.pd)
def DcP(M:Int)(b:Bool)(o o':Option DCV)(q:PKV):Prop:=(o=none→o'=none)∧∀d,o=some d→∃d',o'=some d'∧d'.g=d.g∧(b=false→d'=d)∧(b=true→∃ob,d'.s=dput M d.s q ob∧(admB d.s q=true→Zej M (begS d.s q) (q.r.xs,q.r.s) ob))
def STD.setR(s:STD)(o:Option RLV):STD:=⟨s.lv,s.ls,s.gm,s.Z,s.gc,s.gcm,s.N,s.P,o,s.dc⟩
def STD.setD(s:STD)(o:Option DCV):STD:=⟨s.lv,s.ls,s.gm,s.Z,s.gc,s.gcm,s.N,s.P,s.rl,o⟩
theorem Zu0(B:Nat)(p:PLD)(s:STD)(q:PKV)(w:World)(h:SttAt w B p s)(ht:Tab w)(hr:∀wx,Tu (sttF s) w wx→RowAt wx q.r.a q.r.n q.r.xs)(hn:q.r.n≤10)(hs:q.r.s.size≤1000):
  Calls Tryz.prog 33 #[.pointer (ptrR s.rl),q.val] w fun e w'=> ∃(b:Bool) (o:Option RLV),e=.returned (.bool b)∧Hid (SttAt w' B p (s.setR o)∧RlP (capN p.buffer) true s.rl o q.pd∧ptrR o=ptrR s.rl∧Tu (sttF s) w w'∧∀j,j<w.heap.size→sttF (s.setR o) j→sttF s j):=by
 cases hl:s.rl with
 |none=>
  refine(Zs8 q w).mono fun e w' ⟨he,hb⟩=>⟨false,none,he,hide ⟨?_,⟨fun _=>rfl,fun r h=>by cases h⟩,rfl,Tu.of_below hb,fun j _ hj=>?_⟩⟩
  ·have:=h.below hb
   rw[show s.setR none=s by rw[←hl];rfl]
   exact this
  ·rw[show s.setR none=s by rw[←hl];rfl]at hj
   exact hj
 |some r=>
  have hF:∀j,rlF r.g r.gb r.v j→sttF s j:=fun j hj=>.inr (.inr (.inr (.inr (.inl ⟨r,hl,hj⟩))))
  refine(Zs2 r.g r.gb B _ _ r.i r.v r.ps q w ht (h.rl r hl) (fun wx hx=>hr wx (hx.wide hF)) hn hs).mono fun e w' ⟨he,v',ps',h1,h2,h3,h4⟩=>⟨_,some ⟨r.g,r.gb,r.i,v',ps'⟩,he,hide ⟨h.relay hl ⟨r.g,r.gb,r.i,v',ps'⟩ h1 h3,⟨(fun h=>by cases h),fun x hx=>?_⟩,rfl,h3.wide hF,fun j hj e=>?_⟩⟩
  ·cases hx
   exact⟨_,rfl,rfl,rfl,rfl,h2⟩
  ·rcases e with e|e|e|e|⟨x,hx,e⟩|e
   ·exact .inl e
   ·exact .inr (.inl e)
   ·exact .inr (.inr (.inl e))
   ·exact .inr (.inr (.inr (.inl e)))
   ·cases hx
    refine hF j ?_
    rcases e with e|e
    ·exact .inl e
    ·exact .inr (h4.at r.gb j hj e)
   ·exact .inr (.inr (.inr (.inr (.inr e))))
theorem Zxg(B:Nat)(p:PLD)(s:STD)(q:PKV)(w:World)(h:SttAt w B p s)(ht:∀wx,Below B w wx→Tab wx)(hr:s.dc≠none→∀wx,Tu (sttF s) w wx→RowAt wx q.r.a q.r.n q.r.xs)(hn:q.r.n≤10)(hs:q.r.s.size≤1000):
  Calls Tryz.prog 34 #[.pointer (ptrC s.dc),q.val] w fun e w'=> ∃(x:Int) (o:Option DCV),e=.returned (.int .i64 x)∧Hid (SttAt w' B p (s.setD o)∧DcP p.buffer true s.dc o q∧ptrC o=ptrC s.dc∧Tu (sttF s) w w'∧∀j,j<w.heap.size→sttF (s.setD o) j→sttF s j):=by
 cases hl:s.dc with
 |none=>
  refine(ZvP q w).mono fun e w' ⟨he,hb⟩=>⟨1,none,he,hide ⟨?_,⟨fun _=>rfl,fun r h=>by cases h⟩,rfl,Tu.of_below hb,fun j _ hj=>?_⟩⟩
  ·have:=h.below hb
   rw[show s.setD none=s by rw[←hl];rfl]
   exact this
  ·rw[show s.setD none=s by rw[←hl];rfl]at hj
   exact hj
 |some d=>
  have hF:∀j,dcF d.g d.gs d.v j→sttF s j:=fun j hj=>.inr (.inr (.inr (.inr (.inr ⟨d,hl,hj⟩))))
  refine(Zwe d.g B p.buffer d.s d.gs d.v d.rs q w ht (h.dc d hl) (fun wx hx=>hr (by rw[hl];exact fun h=>by cases h) wx (hx.wide hF)) hn hs).mono fun e w' ⟨gs',v',rs',ob,he,h0,h1,h3,h4⟩=>⟨_,some ⟨d.g,dput p.buffer d.s q ob,gs',v',rs'⟩,he,hide ⟨h.deco hl ⟨d.g,dput p.buffer d.s q ob,gs',v',rs'⟩ h1 h3,⟨(fun h=>by cases h),fun x hx=>?_⟩,rfl,h3.wide hF,fun j hj e=>?_⟩⟩
  ·cases hx
   exact⟨_,rfl,rfl,(fun h=>by cases h),fun _=>⟨ob,rfl,h0⟩⟩
  ·rcases e with e|e|e|e|e|⟨x,hx,e⟩
   ·exact .inl e
   ·exact .inr (.inl e)
   ·exact .inr (.inr (.inl e))
   ·exact .inr (.inr (.inr (.inl e)))
   ·exact .inr (.inr (.inr (.inr (.inl e))))
   ·cases hx
    exact hF j (h4.at d.g j hj e)
def NDD.setS(n:NDD)(s:STD):NDD:=⟨n.id,n.inc,n.p,n.src,s,n.t+1⟩
def ZgK(n:NDD)(s:ByteArray)(now:Int)(en:Nat)(n':NDD):Prop:=∃(kd fr ic:Int) (q:PKV),ZfL s kd fr ic q.o q.l q.k q.z q.h q.r.xs q.r.s en∧
 ((en≠0∧n'=n.setS n.s)∨(en=0∧∃N rl dc,n'=n.setS ⟨n.s.lv,n.s.ls,n.s.gm,Zeo n.s.Z fr ic now,n.s.gc,n.s.gcm,N,(if kd=2 then Zgi (capN n.p.cache) n.s.P q.pd else n.s.P),rl,dc⟩∧
  RlP (capN n.p.buffer) (decide (kd=2)&&Zbx n.s.P q.pd) n.s.rl rl q.pd∧DcP n.p.buffer (decide (kd=2)&&Zbx n.s.P q.pd) n.s.dc dc q))
theorem Zp3(a b:Value)(w:World):Calls Tryz.prog 11 #[.pointer none,a,b] w fun e w'=>e=.returned (.int .i64 1)∧w'=w:=by
 go_enter Tryz.func11,Tryz.ntmps11
 go_wp2
 go_ret
 exact⟨rfl,rfl⟩
structure RcJ(w wr:World)(g B fq:Nat)(n0 n:NDD)(cs:List Value)(q:PKV):Prop where
 nd:NdAt wr g B n
 tu:Tu (ndF g n0) w wr
 mv:∀j,j<w.heap.size→ndF g n j→ndF g n0 j
 box:BkA 78 wr fq cs
 lo:w.heap.size≤fq
 row:RowAt wr q.r.a q.r.n q.r.xs
 new:NewA w q.r.a q.r.n
theorem RcJ.step{t:Nat}{n0 n:NDD}(h:RcJ w wr g B fq n0 n cs q){s:STD}{F:Nat→Prop}(hs:SttAt w' B n.p s)(ht:Tu F wr w')(hF:∀j,F j→sttF n.s j)(hold:∀j,F j→j<w.heap.size)(hc:sttC s=sttC n.s)
  (hr:s.rl=none↔n.s.rl=none) (hd:s.dc=none↔n.s.dc=none) (hl:s.ls.length=n.s.ls.length) (hm:s.N≤t∧∀i,i<s.ls.length→(s.ls.getD i .dflt).lo≤t) (hmv:∀j,j<wr.heap.size→sttF s j→sttF n.s j):RcJ w w' g B fq n0 ⟨n.id,n.inc,n.p,n.src,s,t⟩ cs q:=by
 have k0:=h.nd.st.kd
 have hz:=h.tu.size
 refine⟨h.nd.state hs (ht.wide hF) hc hr hd hl hm,h.tu.trans ht fun j hj e=>h.mv j hj (.inr (.inr (.inr (hF j e)))),fun j hj e=>?_,h.box.tu ht fun e=>?_,h.lo,h.row.tuN ht fun ad ha hn e=>?_,h.new⟩
 ·rcases e with e|e|e|e
  ·exact h.mv j hj (.inl e)
  ·exact h.mv j hj (.inr (.inl e))
  ·exact h.mv j hj (.inr (.inr (.inl e)))
  ·exact h.mv j hj (.inr (.inr (.inr (hmv j (by omega) e))))
 ·have:=k0 _ (hF _ e);have:=h.box.kd;omega
 ·have:=hold _ e;have:=h.new ad ha hn;omega
theorem RcJ.below{n0 n:NDD}(h:RcJ w wr g B fq n0 n cs q)(hb:Below wr.heap.size wr w'):RcJ w w' g B fq n0 n cs q:=
 ⟨h.nd.below hb,h.tu.then hb,h.mv,h.box.below hb,h.lo,h.row.below hb,h.new⟩
theorem ZAe{j:Nat}(h:kdB w j≠0):j<w.heap.size:=Nat.lt_of_not_le fun e=>h (by unfold kdB;rw[Array.getElem?_eq_none e])
theorem SttAt.lt{p:PLD}{s:STD}(h:SttAt w B p s):∀j,sttF s j→j<w.heap.size:=fun j hj=>by
 rcases hj with hj|⟨l,hl,hj⟩|rfl|hj|⟨r,hr,hj⟩|⟨d,hd,hj⟩
 ·exact(ZbL h.lks hj).2
 ·exact ZAe (by have:=LkAt.kd (h.each l hl).1 j hj;omega)
 ·exact h.mem.blk.lt
 ·have:=h.ca.lt
  rcases hj with e|e
  ·rw[e];exact this.1
  ·rw[e];exact this.2
 ·exact ZAe (by have:=(h.rl r hr).kd j hj;omega)
 ·exact ZAe (by have:=(h.dc d hd).kd j hj;omega)
structure RcE(w wr:World)(g B fq:Nat)(n0 n:NDD)(cs:List Value):Prop where
 nd:NdAt wr g B n
 tu:Tu (ndF g n0) w wr
 mv:∀j,j<w.heap.size→ndF g n j→ndF g n0 j
 box:BkA 78 wr fq cs
theorem ZzO{n0 n:NDD}{o:Option DCV}(h:RcJ w wr g B fq n0 n cs q)(hp:SttAt w' B n.p (n.s.setD o)∧DcP n.p.buffer true n.s.dc o q∧ptrC o=ptrC n.s.dc∧Tu (sttF n.s) wr.drew w'∧∀j,j<wr.drew.heap.size→sttF (n.s.setD o) j→sttF n.s j):RcE w w' g B fq n0 ⟨n.id,n.inc,n.p,n.src,n.s.setD o,n.t⟩ cs:=by
 obtain⟨h1,h2,h3,h4,h5⟩:=hp
 have hj:=h.below (Below.refl _ _).drew
 have k0:=hj.nd.st.kd
 have hz:=hj.tu.size
 refine⟨hj.nd.state h1 h4 (by unfold sttC STD.setD;rw[h3]) Iff.rfl ⟨fun e=>?_,h2.1⟩ rfl hj.nd.tm,hj.tu.trans h4 fun j hjj e=>hj.mv j hjj (.inr (.inr (.inr e))),fun j hjj e=>?_,hj.box.tu h4 fun e=>?_⟩
 ·by_cases e2:n.s.dc=none
  ·exact e2
  ·obtain⟨d,hd⟩:=Option.ne_none_iff_exists'.1 e2
   obtain⟨d',hd',_⟩:=h2.2 d hd
   rw[show(n.s.setD o).dc=o from rfl,hd']at e
   cases e
 ·rcases e with e|e|e|e
  ·exact hj.mv j hjj (.inl e)
  ·exact hj.mv j hjj (.inr (.inl e))
  ·exact hj.mv j hjj (.inr (.inr (.inl e)))
  ·exact hj.mv j hjj (.inr (.inr (.inr (h5 j (by omega) e))))
 ·have:=k0 _ e;have:=hj.box.kd;omega
theorem Zis(g B:Nat)(n:NDD)(s:ByteArray)(now:Int)(w:World)(h:NdAt w g B n)(ht:∀wx,Below B w wx→Tabs wx)(hs:s.size≤1048576)(htm:n.t<1099511627776):
  Calls Tryz.prog 11 #[.pointer (some ⟨g,0,none⟩),.string s,.int .i64 now] w fun e w'=> ∃(en:Nat) (n':NDD),e=.returned (.int .i64 (en:Int))∧ZgK n s now en n'∧NdAt w' g B n'∧Tu (ndF g n) w w'∧∀j,j<w.heap.size→ndF g n' j→ndF g n j:=by
 have HD:=hide (ZqM s w hs)
 have H:=hide h
 have HT:=hide ht
 have hgl:=h.blk.lt
 clear h ht
 go_enter Tryz.func11,Tryz.ntmps11
 go_wp2_with fail
 refine(unhide HD).mono ?_
 rintro e w1 ⟨kd,fr,ic,o,l,k,z,hh,a,nn,c,xs,t,en,rfl,hr1,hna,hfd,hb1⟩
 have HR1:=hide hr1
 have HNA:=hide hna
 have HFD:=hide hfd
 have HB1:=hide hb1
 have hgn:w1.heap.size≠g:=by have:=hb1.size;omega
 clear hr1 hna hfd hb1
 by_cases he:en=0
 case neg=>
  have he':((en:Int) !=0)=true:=by simpa using he
  go_wp2
  go_ret
  have hb:=below0 (unhide HB1) (alloc_low w1 (.cells #[.int .i64 kd,.int .i64 fr,.int .i64 ic,.int .i64 o,.int .i64 l,.int .i64 k,.int .i64 z,.int .i64 hh,.slice a nn c,.string t] 78))
  refine⟨en,n.setS n.s,rfl,⟨kd,fr,ic,⟨o,l,k,z,hh,⟨a,nn,c,xs,t⟩⟩,unhide HFD,.inl ⟨he,rfl⟩⟩,?_,Tu.of_below hb,fun j _ e=>e⟩
  have h2:=(unhide H).below hb
  exact⟨h2.blk,h2.lo,h2.tos,h2.src,h2.st,h2.kd,h2.num,⟨Nat.le_succ_of_le h2.tm.1,fun i hi=>Nat.le_succ_of_le (h2.tm.2 i hi)⟩⟩
 subst he
 have hb:=below0 (unhide HB1) (alloc_low w1 (.cells #[.int .i64 kd,.int .i64 fr,.int .i64 ic,.int .i64 o,.int .i64 l,.int .i64 k,.int .i64 z,.int .i64 hh,.slice a nn c,.string t] 78))
 have HJ0:=hide (show RcJ w (w1.alloc (.cells #[.int .i64 kd,.int .i64 fr,.int .i64 ic,.int .i64 o,.int .i64 l,.int .i64 k,.int .i64 z,.int .i64 hh,.slice a nn c,.string t] 78)) g B w1.heap.size n n [.int .i64 kd,.int .i64 fr,.int .i64 ic,.int .i64 o,.int .i64 l,.int .i64 k,.int .i64 z,.int .i64 hh,.slice a nn c,.string t] ⟨o,l,k,z,hh,⟨a,nn,c,xs,t⟩⟩ from⟨(unhide H).below hb,Tu.of_below hb,fun j _ e=>e,Zag 78 w1 [.int .i64 kd,.int .i64 fr,.int .i64 ic,.int .i64 o,.int .i64 l,.int .i64 k,.int .i64 z,.int .i64 hh,.slice a nn c,.string t],(unhide HB1).size,(unhide HR1).below (alloc_low _ _),unhide HNA⟩)
 clear hb
 go_wp2_with fail
 generalize w1.alloc (.cells #[.int .i64 kd,.int .i64 fr,.int .i64 ic,.int .i64 o,.int .i64 l,.int .i64 k,.int .i64 z,.int .i64 hh,.slice a nn c,.string t] 78)=wf at*
 generalize w1.heap.size=fq at*
 have c12:=(unhide HJ0).nd.blk.at 12 rfl
 have x1:=(unhide HJ0).box.at 1 rfl
 have x2:=(unhide HJ0).box.at 2 rfl
 have HH:=hide (fun wx (hb:Below wf.heap.size wf wx)=>ZqH n.s.gm (ZcY n.p.timeout) n.s.Z fr ic now wx ((unhide HJ0).nd.st.mem.below hb))
 go_region_held3 (fun w'=>w'.cell? ⟨g,12,none⟩=some (.pointer (some ⟨n.s.gm,0,none⟩))∧w'.cell? ⟨fq,1,none⟩=some (.int .i64 fr)∧w'.cell? ⟨fq,2,none⟩=some (.int .i64 ic)) (go_keep) (first
  |(go_at_call 31;refine(unhide HH _ (Below.refl _ _).drew).mono ?_;rintro e w2 ⟨rfl,hm2,ht2⟩;have HJ2:=hide (((unhide HJ0).below (Below.refl _ _).drew).step (t:=n.t+1) (((unhide HJ0).nd.st.below (Below.refl _ _).drew).hear hm2 ht2) ht2 (fun j e=>.inr (.inr (.inl e))) (fun j e=>by have e:j=n.s.gm:=e;rw[e];exact(unhide H).st.mem.blk.lt) rfl Iff.rfl Iff.rfl rfl ⟨Nat.le_succ_of_le (unhide H).tm.1,fun i hi=>Nat.le_succ_of_le ((unhide H).tm.2 i hi)⟩ fun j _ e=>e);have d12:=(unhide HJ2).nd.blk.at 12 rfl;have y1:=(unhide HJ2).box.at 1 rfl;have y2:=(unhide HJ2).box.at 2 rfl;clear hm2 ht2)
  |fail)
 go_wp2_with fail
 clear c12 x1 x2 d12 y1 y2 HH HJ0
 have y0:=(unhide HJ2).box.at 0 rfl
 by_cases hk2:kd=2
 case neg=>
  have hk2':(kd==2)=false:=by simpa using hk2
  have HK2:=hide hk2
  clear hk2
  have z0:=cell_regrown y0
  refine wp_region_quiet_below (by kernel_rfl) (by kernel_rfl) ?_
  repeat (with_reducible refine wpQuiet_step (fun K hK=>?_);go_simp;first|(with_reducible refine hK _ ?_;clear hK K)|(refine Zx5 (by decide) ?_;with_reducible refine hK _ ?_;clear hK K))
  refine wpQuiet_nil ?_
  intro w3 hw3
  obtain⟨⟨dq,osq⟩,hw3⟩:=hw3
  have HJ3:=hide ((unhide HJ2).below (show Below w2.heap.size w2 w3 by rw[hw3];exact below_regrown _ dq osq))
  clear hw3 dq osq
  go_wp2
  go_ret
  refine⟨0,_,rfl,⟨kd,fr,ic,⟨o,l,k,z,hh,⟨a,nn,c,xs,t⟩⟩,unhide HFD,.inr ⟨rfl,n.s.N,n.s.rl,n.s.dc,rfl,?_,?_⟩⟩,?_,(unhide HJ3).tu,(unhide HJ3).mv⟩
  ·rw[decide_eq_false (unhide HK2)]
   exact⟨fun h=>h,fun r h=>⟨r,h,rfl,rfl,rfl,rfl⟩⟩
  ·rw[decide_eq_false (unhide HK2)]
   exact⟨fun h=>h,fun d h=>⟨d,h,rfl,fun _=>rfl,fun h=>by cases h⟩⟩
  ·have:=(unhide HJ3).nd
   rw[if_neg (unhide HK2)]
   exact this
 have hk2':(kd==2)=true:=by simpa using hk2
 have HK2:=hide hk2
 clear hk2
 have y3:=(unhide HJ2).box.at 3 rfl
 have y4:=(unhide HJ2).box.at 4 rfl
 have y5:=(unhide HJ2).box.at 5 rfl
 have y6:=(unhide HJ2).box.at 6 rfl
 have y7:=(unhide HJ2).box.at 7 rfl
 have y8:=(unhide HJ2).box.at 8 rfl
 have y9:=(unhide HJ2).box.at 9 rfl
 have d13:=(unhide HJ2).nd.blk.at 13 rfl
 have HFR:=hide (fun wx (hb:Below w2.heap.size w2 wx)=>Zmt n.s.gc n.s.gcm (capN n.p.cache) n.s.N n.s.P ⟨o,l,k,z,hh,⟨a,nn,c,xs,t⟩⟩ wx ((unhide HJ2).nd.st.ca.below hb) ((unhide HJ2).row.below hb) (by have:=(unhide H).tm.1;omega))
 simp only[PKV.val]at HFR
 go_region_held3 (fun w'=>w'.cell? ⟨g,13,none⟩=some (.pointer (some ⟨n.s.gc,0,none⟩))∧w'.cell? ⟨fq,0,none⟩=some (.int .i64 kd)∧w'.cell? ⟨fq,3,none⟩=some (.int .i64 o)∧w'.cell? ⟨fq,4,none⟩=some (.int .i64 l)∧w'.cell? ⟨fq,5,none⟩=some (.int .i64 k)∧w'.cell? ⟨fq,6,none⟩=some (.int .i64 z)∧w'.cell? ⟨fq,7,none⟩=some (.int .i64 hh)∧w'.cell? ⟨fq,8,none⟩=some (.slice a nn c)∧w'.cell? ⟨fq,9,none⟩=some (.string t)) (go_keep) (first
  |(go_at_call 32;refine(unhide HFR _ (Below.refl _ _).drew).mono ?_;rintro e w3 ⟨rfl,hm3,ht3⟩;have HJ3:=hide (((unhide HJ2).below (Below.refl _ _).drew).step (t:=n.t+1) (((unhide HJ2).nd.st.below (Below.refl _ _).drew).seen hm3 ht3) ht3 (fun j e=>.inr (.inr (.inr (.inl e)))) (fun j e=>by have:=(unhide H).st.ca.lt;rcases e with e|e<;>(have e:=e;omega)) rfl Iff.rfl Iff.rfl rfl ⟨Nat.succ_le_succ (unhide H).tm.1,fun i hi=>Nat.le_succ_of_le ((unhide H).tm.2 i hi)⟩ fun j _ e=>e);have d13:=(unhide HJ3).nd.blk.at 13 rfl;have v0:=(unhide HJ3).box.at 0 rfl;have v3:=(unhide HJ3).box.at 3 rfl;have v4:=(unhide HJ3).box.at 4 rfl;have v5:=(unhide HJ3).box.at 5 rfl;have v6:=(unhide HJ3).box.at 6 rfl;have v7:=(unhide HJ3).box.at 7 rfl;have v8:=(unhide HJ3).box.at 8 rfl;have v9:=(unhide HJ3).box.at 9 rfl;clear hm3 ht3)
  |fail)
 clear d13 v0 y0 y3 y4 y5 y6 y7 y8 y9 HFR
 generalize hfr:Zbx n.s.P (PKV.pd ⟨o,l,k,z,hh,⟨a,nn,c,xs,t⟩⟩)=fb at*
 have HFB:=hide hfr
 clear hfr
 cases fb
 ·go_wp2
  go_ret
  refine⟨0,_,rfl,⟨kd,fr,ic,⟨o,l,k,z,hh,⟨a,nn,c,xs,t⟩⟩,unhide HFD,.inr ⟨rfl,n.s.N+1,n.s.rl,n.s.dc,rfl,?_,?_⟩⟩,?_,(unhide HJ3).tu,(unhide HJ3).mv⟩
  ·rw[unhide HFB,Bool.and_false]
   exact⟨fun h=>h,fun r h=>⟨r,h,rfl,rfl,rfl,rfl⟩⟩
  ·rw[unhide HFB,Bool.and_false]
   exact⟨fun h=>h,fun d h=>⟨d,h,rfl,fun _=>rfl,fun h=>by cases h⟩⟩
  ·have:=(unhide HJ3).nd
   rw[if_pos (unhide HK2)]
   exact this
 have HOL:=hide (unhide H).st.lt
 have HOK:=hide (show nn≤10∧t.size≤1000 from by
  have hc:=(ZvD (unhide HFD)).1.2.2
  have hr:=(unhide HJ3).row.1
  rcases hc with hc|hc
  ·exact absurd (hc.1.symm.trans (unhide HK2)) (by decide)
  ·have h2:okD ⟨o,l,k,z,hh,xs,t⟩=true:=Zcr.2 hc.2
   have h3:=ZfM h2
   have h4:((t.size:Int)=z):=hc.2.2.2.2
   have h5:=hc.2.1.1.2
   have hr:xs.length=nn:=hr
   have h3:xs.length≤2:=h3
   omega)
 generalize hn3:(⟨n.id,n.inc,n.p,n.src,_,n.t+1⟩:NDD)=n3 at HJ3
 have HN3:=hide hn3
 have HOL3:=hide (show∀j,sttF n3.s j→j<w.heap.size from by rw[←hn3];exact unhide HOL)
 clear hn3
 have d14:=(unhide HJ3).nd.blk.at 14 (show(ndC n3)[14]? =some (.pointer (ptrR n3.s.rl)) from rfl)
 have HRW:=hide (fun wx (ht:Tu (sttF n3.s) w3.drew wx)=>(show RowAt wx a nn xs from((unhide HJ3).row.below (Below.refl _ _).drew).tuN ht fun ad ha hn e=>by have:=unhide HOL3 _ e;have:=(unhide HJ3).new ad ha hn;omega))
 have HPT:=hide (Zu0 B n3.p n3.s ⟨o,l,k,z,hh,⟨a,nn,c,xs,t⟩⟩ w3.drew ((unhide HJ3).nd.st.below (Below.refl _ _).drew) (unhide HT _ (((unhide H).keeps (unhide HJ3).tu).trans (Below.refl _ _).drew)).tab (unhide HRW) (unhide HOK).1 (unhide HOK).2)
 simp only[PKV.val]at HPT
 go_wp2_with fail
 go_region_held3 (fun w'=>w'.cell? ⟨g,14,none⟩=some (.pointer (ptrR n3.s.rl))∧w'.cell? ⟨fq,3,none⟩=some (.int .i64 o)∧w'.cell? ⟨fq,4,none⟩=some (.int .i64 l)∧w'.cell? ⟨fq,5,none⟩=some (.int .i64 k)∧w'.cell? ⟨fq,6,none⟩=some (.int .i64 z)∧w'.cell? ⟨fq,7,none⟩=some (.int .i64 hh)∧w'.cell? ⟨fq,8,none⟩=some (.slice a nn c)∧w'.cell? ⟨fq,9,none⟩=some (.string t)) (go_keep) (first
  |(go_at_call 33;refine(unhide HPT).mono ?_;rintro e w4 ⟨b4,o4,rfl,H4⟩;have HJ4:=hide (((unhide HJ3).below (Below.refl _ _).drew).step (t:=n3.t) (unhide H4).1 (unhide H4).2.2.2.1 (fun j e=>e) (unhide HOL3) (by unfold sttC STD.setR;rw[(unhide H4).2.2.1]) (by have h1:=(unhide H4).2.1;constructor;(intro e;by_cases e2:n3.s.rl=none;exact e2;(obtain⟨r,hr⟩:=Option.ne_none_iff_exists'.1 e2;obtain⟨r',hr',_⟩:=h1.2 r hr;rw[show(n3.s.setR o4).rl=o4 from rfl,hr']at e;cases e));exact h1.1) Iff.rfl rfl (unhide HJ3).nd.tm (unhide H4).2.2.2.2);have d14:=(unhide HJ4).nd.blk.at 14 (show _=some (.pointer (ptrR o4)) from rfl);rw[(unhide H4).2.2.1]at d14;have u3:=(unhide HJ4).box.at 3 rfl;have u4:=(unhide HJ4).box.at 4 rfl;have u5:=(unhide HJ4).box.at 5 rfl;have u6:=(unhide HJ4).box.at 6 rfl;have u7:=(unhide HJ4).box.at 7 rfl;have u8:=(unhide HJ4).box.at 8 rfl;have u9:=(unhide HJ4).box.at 9 rfl)
  |fail)
 clear d14 HPT HRW v3 v4 v5 v6 v7 v8 v9
 have HR4:=hide (unhide H4).2.1
 have HP4:=hide (unhide H4).2.2.1
 clear H4
 generalize hn4:(⟨n3.id,n3.inc,n3.p,n3.src,n3.s.setR o4,n3.t⟩:NDD)=n4 at HJ4
 have HN4:=hide hn4
 clear hn4
 have d15:=(unhide HJ4).nd.blk.at 15 (show(ndC n4)[15]? =some (.pointer (ptrC n4.s.dc)) from rfl)
 have HRW:=hide (show n4.s.dc≠none→∀wx,Tu (sttF n4.s) w4.drew wx→RowAt wx a nn xs from fun hd wx ht=>by
  have e4:o4=none:=(unhide HR4).1 (by
   have hk:=(unhide HJ4).nd.kd
   rw[←unhide HN4]at hd hk
   have hk2:=(unhide HJ3).nd.kd
   rcases hk2 with⟨_,_,c,_⟩|⟨_,_,_,d⟩|⟨_,_,c,_⟩
   ·exact c
   ·exact absurd d hd
   ·exact c)
  have e3:n3.s.rl=none:=by
   cases hr:n3.s.rl with
   |none=>rfl
   |some r=>
    obtain⟨r',hr',_⟩:=(unhide HR4).2 r hr
    rw[e4]at hr'
    cases hr'
  have es:n4.s=n3.s:=by
   rw[←unhide HN4]
   show n3.s.setR o4=n3.s
   rw[e4,←e3]
   rfl
  exact((unhide HJ4).row.below (Below.refl _ _).drew).tuN ht fun ad ha hn e=>by rw[es]at e;have:=unhide HOL3 _ e;have:=(unhide HJ4).new ad ha hn;omega)
 have HPT:=hide (Zxg B n4.p n4.s ⟨o,l,k,z,hh,⟨a,nn,c,xs,t⟩⟩ w4.drew ((unhide HJ4).nd.st.below (Below.refl _ _).drew) (fun wx hx=>(unhide HT _ ((((unhide H).keeps (unhide HJ4).tu).trans (Below.refl _ _).drew).trans hx)).tab) (unhide HRW) (unhide HOK).1 (unhide HOK).2)
 simp only[PKV.val]at HPT
 have y3:=(unhide HJ4).box.at 3 rfl
 have y4:=(unhide HJ4).box.at 4 rfl
 have y5:=(unhide HJ4).box.at 5 rfl
 have y6:=(unhide HJ4).box.at 6 rfl
 have y7:=(unhide HJ4).box.at 7 rfl
 have y8:=(unhide HJ4).box.at 8 rfl
 have y9:=(unhide HJ4).box.at 9 rfl
 clear u3 u4 u5 u6 u7 u8 u9
 go_wp2_with fail
 go_region_held3 (fun w'=>w'.cell? ⟨g,15,none⟩=some (.pointer (ptrC n4.s.dc))∧w'.cell? ⟨fq,3,none⟩=some (.int .i64 o)∧w'.cell? ⟨fq,4,none⟩=some (.int .i64 l)∧w'.cell? ⟨fq,5,none⟩=some (.int .i64 k)∧w'.cell? ⟨fq,6,none⟩=some (.int .i64 z)∧w'.cell? ⟨fq,7,none⟩=some (.int .i64 hh)∧w'.cell? ⟨fq,8,none⟩=some (.slice a nn c)∧w'.cell? ⟨fq,9,none⟩=some (.string t)) (go_keep) (first
  |(go_at_call 34;refine(unhide HPT).mono ?_;rintro e w5 ⟨b5,o5,rfl,H5⟩;have HJ5:=hide (ZzO (unhide HJ4) (unhide H5));have e15:=(unhide HJ5).nd.blk.at 15 (show _=some (.pointer (ptrC o5)) from rfl);rw[(unhide H5).2.2.1]at e15;have u3:=(unhide HJ5).box.at 3 rfl;have u4:=(unhide HJ5).box.at 4 rfl;have u5:=(unhide HJ5).box.at 5 rfl;have u6:=(unhide HJ5).box.at 6 rfl;have u7:=(unhide HJ5).box.at 7 rfl;have u8:=(unhide HJ5).box.at 8 rfl;have u9:=(unhide HJ5).box.at 9 rfl)
  |fail)
 go_wp2
 go_ret
 have h5:=unhide HJ5
 have hd5:=(unhide H5).2.1
 have hr4:=unhide HR4
 have hn4:=unhide HN4
 have hn3:=unhide HN3
 clear HN4 HN3 HJ5 H5 HR4 HP4 HJ4 HJ3 HPT HRW HOL3 d15 e15
 subst hn4
 subst hn3
 refine⟨0,_,rfl,⟨kd,fr,ic,⟨o,l,k,z,hh,⟨a,nn,c,xs,t⟩⟩,unhide HFD,.inr ⟨rfl,n.s.N+1,o4,o5,rfl,?_,?_⟩⟩,?_,h5.tu,h5.mv⟩
 ·rw[unhide HFB,decide_eq_true (unhide HK2)]
  exact hr4
 ·rw[unhide HFB,decide_eq_true (unhide HK2)]
  exact hd5
 ·rw[if_pos (unhide HK2)]
  exact h5.nd
theorem ZlE(w:World):Calls Tryz.prog 14 #[.pointer none] w fun e w'=>e=.returned (.tuple #[])∧w'=w:=by
 go_enter Tryz.func14,Tryz.ntmps14
 go_wp2
 exact bodyPost_ret (v:=.tuple #[]) (by simp[results,Tryz.results14,go_sem]) rfl ⟨rfl,rfl⟩
theorem ZlS(g B:Nat)(n:NDD)(w:World)(h:NdAt w g B n)(hr:n.p.rate<18446744073709551616):
  Calls Tryz.prog 14 #[.pointer (some ⟨g,0,none⟩)] w fun e w'=>e=.returned (.tuple #[])∧∃s:STD,NdAt w' g B ⟨n.id,(n.inc+1)%4294967296,n.p,n.src,s,n.t+1⟩∧NewP n.p s∧Tu (fun j=>j=g) w w'∧∀j,sttF s j→w.heap.size≤j:=by
 obtain⟨at1,ct1,htv, -⟩:=OwnZ.ints h.tos
 have hlen:=h.num.2.2
 have c1:=h.blk.at 1 rfl
 have c2:=h.blk.at 2 rfl
 have c3:=h.blk.at 3 rfl
 have c4:=h.blk.at 4 rfl
 have c5:=h.blk.at 5 rfl
 have c6:=h.blk.at 6 rfl
 have c7:=h.blk.at 7 rfl
 have c8:=h.blk.at 8 rfl
 have c9:=h.blk.at 9 (show(ndC n)[9]? =some n.p.tv from rfl)
 rw[htv]at c9
 have f1:=h.blk.frz 1
 have hwr:IntKind.u32.wrap ((n.inc:Int)+1)=(((n.inc+1)%4294967296:Nat):Int):=by rw[IntKind.wrap_u32];omega
 have H:=hide h
 have HBG:=hide (fun wx=>Zhp n.p at1 n.p.tos.length ct1 wx hr htv (by omega))
 rw[htv]at HBG
 have HTV:=hide htv
 have hgl:=h.blk.lt
 clear h htv
 generalize hm:(n.inc+1)%4294967296=m at*
 have HM:=hide (show m<4294967296 by omega)
 clear hm
 go_enter Tryz.func14,Tryz.ntmps14
 go_wp2_with (first
  |(go_at_call 29;refine(unhide HBG _).mono ?_;rintro e w3 ⟨s,rfl,hs3,hn3,hl3,hb3⟩;have HK3:=hide (((unhide H).blk.set 1 (.int .u32 (m:Int))).below hb3);have HS3:=hide hs3;have HN3:=hide hn3;have HL3:=hide hl3;have HB3:=hide hb3;clear hs3 hn3 hl3 hb3)
  |((with_reducible refine Zh4 103 105 ZbM 18 16 g 11 _ [s.lv,.pointer (some ⟨s.gm,0,none⟩),.pointer (some ⟨s.gc,0,none⟩),.pointer (ptrR s.rl),.pointer (ptrC s.dc)] ?_ ?_ (unhide HK3) rfl ?_ ?_ ?_);(focus rfl);(focus rfl);(focus exact(show 11+5≤16 by decide));(focus exact one5 (by obtain⟨a,c,e⟩:=(unhide HS3).lks.len;exact⟨a,_,c,e⟩) _ _ _ _);intro w4 hx4 ht4;have HX4:=hide hx4;have HT4:=hide ht4;clear hx4 ht4)
  |fail)
 go_end0
 have h:=unhide H
 have ht1:=Zav w g 1 (.int .u32 (m:Int))
 have hk:=h.blk.kd
 have ho1:OwnZ (w.setCell ⟨g,1,none⟩ (.int .u32 (m:Int))) B n.p.tv n.p.tos:=Zam h.tos ht1 fun j hj e=>by have:=Zah h.tos hj;subst e;omega
 have hB:B≤(w.setCell ⟨g,1,none⟩ (.int .u32 (m:Int))).heap.size:=Nat.le_trans h.lo (Nat.le_of_lt (Nat.lt_of_lt_of_le hgl ht1.size))
 refine⟨rfl,s,ZlP (unhide HX4) h.lo (ho1.below (unhide HB3)) (fun r hr=>?_) ((unhide HS3).mono hB) (unhide HK3) (unhide HT4) ?_ (unhide HN3) (unhide HM) ⟨unhide HL3,hlen⟩,unhide HN3,?_,fun j hj=>Nat.le_trans ht1.size ((unhide HS3).low j hj)⟩
 ·have:=(h.src r hr).tu ht1 fun j hj e=>by have:=(h.src r hr).kd j hj;subst e;omega
  exact this.tu (F:=fun _=>False) (Tu.of_below (unhide HB3)) fun _ _=>id
 ·rcases h.kd with⟨a,b,_⟩|⟨a,b,_⟩|⟨a,b,_⟩
  ·exact .inl ⟨a,b⟩
  ·exact .inr (.inl ⟨a,b⟩)
  ·exact .inr (.inr ⟨a,b⟩)
 ·exact(ht1.then (unhide HB3)).trans (unhide HT4) fun j _ e=>e
def Zfa(ls:List LkV):Nat→Nat
 |0=>0
 |k+1=>Zfa ls k+(ls.getD k .dflt).L.length
theorem ZnJ{ls:List LkV}:∀{k:Nat},(∀i,i<k→(ls.getD i .dflt).L.length≤256)→Zfa ls k≤256*k
 |0,_=>Nat.le_refl _
 |k+1,h=>by
  have h1:=ZnJ (ls:=ls) (k:=k) fun i hi=>h i (by omega)
  have h2:=h k (by omega)
  show Zfa ls k+(ls.getD k .dflt).L.length≤_
  omega
theorem Zqc(B:Nat)(p:PLD)(s:STD)(w:World)(h:SttAt w B p s)(h8:s.ls.length≤8):
  Calls Tryz.prog 42 #[.agg #[s.lv,.pointer (some ⟨s.gm,0,none⟩),.pointer (some ⟨s.gc,0,none⟩),.pointer (ptrR s.rl),.pointer (ptrC s.dc)]] w fun e w'=>e=.returned (.int .i64 (Zfa s.ls s.ls.length:Nat))∧Below w.heap.size w w':=by
 obtain⟨al,cl,hlv⟩:=h.lks.len
 have hb:=alloc_low w (.cells #[s.lv,.pointer (some ⟨s.gm,0,none⟩),.pointer (some ⟨s.gc,0,none⟩),.pointer (ptrR s.rl),.pointer (ptrC s.dc)] 103)
 have H:=hide (h.below hb)
 have HB:=hide hb
 have HQ:=hide (fun k (hk:k≤s.ls.length)=>ZnJ (ls:=s.ls) (k:=k) fun i hi=>Nat.le_trans (LkAt.qu (h.each i (by omega)).1).len (LkAt.qu (h.each i (by omega)).1).most)
 rw[hlv]at H HB⊢
 have x0:=(Zag 103 w [.slice al s.ls.length cl,.pointer (some ⟨s.gm,0,none⟩),.pointer (some ⟨s.gc,0,none⟩),.pointer (ptrR s.rl),.pointer (ptrC s.dc)]).at 0 rfl
 simp only[List.toArray]at x0
 clear h hb
 generalize hW:w.alloc (.cells #[.slice al s.ls.length cl,.pointer (some ⟨s.gm,0,none⟩),.pointer (some ⟨s.gc,0,none⟩),.pointer (ptrR s.rl),.pointer (ptrC s.dc)] 103)=W at*
 go_enter Tryz.func42,Tryz.ntmps42
 go_wp2_with fail
 clear hW x0
 go_loop [3,9] (fun q i=> ∃k:Nat,k≤s.ls.length∧i=.int .i64 k∧q=.int .i64 (Zfa s.ls k:Nat)) (fun _ i=>s.ls.length-(intOf i).toNat)
 case atStart=>exact⟨0,Nat.zero_le _,rfl,rfl⟩
 case round=>
  obtain⟨k,hk,rfl,rfl⟩:=hrel
  have hq:=unhide HQ k hk
  by_cases hlt:k<s.ls.length
  ·have hlt':(k:Int)<(s.ls.length:Int):=by omega
   obtain⟨b,c,hb,hcp⟩:=(unhide H).lks.at (by omega)
   rw[hlv]at hb
   simp only[Value.slice.injEq,true_and]at hb
   obtain⟨rfl,rfl⟩:=hb
   have hc:=hcp k hlt
   have HLQ:=hide (ZkE _ _ _ _ _ _ _ _ _ _ W ((unhide H).each k hlt).1 rfl)
   have hq1:=unhide HQ (k+1) hlt
   have HS:=hide (show Zfa s.ls (k+1)=Zfa s.ls k+(s.ls.getD k .dflt).L.length from rfl)
   clear hcp
   generalize s.ls.getD k .dflt=l at*
   go_wp2_with (first
    |(go_at_call 87;refine(unhide HLQ).mono ?_;rintro e w2 ⟨rfl,hw2⟩;obtain rfl:=hw2.symm;clear hw2)
    |fail)
   go_round
   case rel=>exact⟨k+1,hlt,by go_num,by have e:=unhide HS;rw[e]at hq1;rw[e];simp only[Value.int.injEq,true_and];unfold wrap64;omega⟩
   case measure=>simp[intOf];omega
  ·obtain rfl:k=s.ls.length:=by omega
   go_wp2
   go_ret
   exact⟨rfl,unhide HB⟩
theorem DcAt.nobs{M:Int}{s:DS}{gs:Nat}{v:Value}{rs:List RV}(h:DcAt w g B M s gs v rs):s.ob.size≤8192:=by
 cases hb:s.bg
 ·rw[(h.fresh hb).1];exact Nat.zero_le _
 ·exact(h.begun hb).2.obs
theorem DcAt.len{M:Int}{s:DS}{gs:Nat}{v:Value}{rs:List RV}(h:DcAt w g B M s gs v rs):s.L.length=rs.length∧rs.length≤256:=by
 refine⟨by rw[←h.co,List.length_map],?_⟩
 cases hb:s.bg
 ·have h1:=h.co
  rw[(h.fresh hb).1]at h1
  rw[List.map_eq_nil_iff.1 h1];exact Nat.zero_le _
 ·have h1:=(h.begun hb).1
  exact Nat.le_trans h1.le h1.most
theorem Zpq(g B:Nat)(M:Int)(s:DS)(gs:Nat)(v:Value)(rs:List RV)(w:World)(h:DcAt w g B M s gs v rs):
  Calls Tryz.prog 44 #[.pointer (some ⟨g,0,none⟩)] w fun e w'=>e=.returned (.bool s.dn)∧w'=w:=by
 obtain⟨-, -, -, -, -, -,h6, -⟩:=h.cells
 clear h
 go_enter Tryz.func44,Tryz.ntmps44
 go_wp2
 go_ret
 exact⟨rfl,rfl⟩
theorem Zpg(w:World):Calls Tryz.prog 44 #[.pointer none] w fun e w'=>e=.returned (.bool false)∧w'=w:=by
 go_enter Tryz.func44,Tryz.ntmps44
 go_wp2
 go_ret
 exact⟨rfl,rfl⟩
theorem ZqP(g B:Nat)(M:Int)(s:DS)(gs:Nat)(v:Value)(rs:List RV)(w:World)(h:DcAt w g B M s gs v rs):
  Calls Tryz.prog 45 #[.pointer (some ⟨g,0,none⟩)] w fun e w'=>e=.returned (.string s.ob)∧Below w.heap.size w w':=by
 obtain⟨-, -, -, -, -, -, -,h7⟩:=h.cells
 have HC:=hide (Zbp s.ob w (by have:=h.nobs;omega))
 clear h
 go_enter Tryz.func45,Tryz.ntmps45
 go_wp2_with (go_at_call 89;refine(unhide HC).mono ?_;rintro e w1 ⟨rfl,hb1⟩)
 go_ret
 exact⟨rfl,hb1⟩
theorem Zuh(w:World):Calls Tryz.prog 45 #[.pointer none] w fun e w'=>e=.returned (.string ⟨#[]⟩)∧w'=w:=by
 go_enter Tryz.func45,Tryz.ntmps45
 go_wp2
 go_ret
 exact⟨rfl,rfl⟩
theorem ZoE(g B:Nat)(M:Int)(s:DS)(gs:Nat)(v:Value)(rs:List RV)(w:World)(h:DcAt w g B M s gs v rs):
  Calls Tryz.prog 39 #[.pointer (some ⟨g,0,none⟩)] w fun e w'=>e=.returned (.int .i64 (s.L.length:Int))∧w'=w:=by
 obtain⟨-, -, -, -, -,h5, -, -⟩:=h.cells
 rw[h.len.1]
 cases hb:s.bg
 ·rw[hb,show ptrD false gs=none from rfl]at h5
  obtain rfl:rs=[]:=by have h1:=h.co;rw[(h.fresh hb).1]at h1;exact List.map_eq_nil_iff.1 h1
  clear h
  go_enter Tryz.func39,Tryz.ntmps39
  go_wp2_with (go_at_call 85;refine(Zy5 _).mono ?_;rintro e w1 ⟨rfl,hw⟩;obtain rfl:=hw.symm;clear hw)
  go_ret
  exact⟨rfl,rfl⟩
 ·rw[hb,show ptrD true gs=some ⟨gs,0,none⟩ from rfl]at h5
  have HL:=hide (Zy6 gs B s.k s.z (capN M) v rs s.ov w (h.begun hb).1)
  clear h
  go_enter Tryz.func39,Tryz.ntmps39
  go_wp2_with (go_at_call 85;refine(unhide HL).mono ?_;rintro e w1 ⟨rfl,hw⟩;obtain rfl:=hw.symm;clear hw)
  go_ret
  exact⟨rfl,rfl⟩
theorem Zp8(w:World):Calls Tryz.prog 39 #[.pointer none] w fun e w'=>e=.returned (.int .i64 0)∧w'=w:=by
 go_enter Tryz.func39,Tryz.ntmps39
 go_wp2
 go_ret
 exact⟨rfl,rfl⟩
theorem ZoR(g B:Nat)(M:Int)(s:DS)(gs:Nat)(v:Value)(rs:List RV)(w:World)(ht:Tab w)(h:DcAt w g B M s gs v rs):
  Calls Tryz.prog 41 #[.pointer (some ⟨g,0,none⟩)] w fun e w'=>e=.returned (.int .i64 (ZcB s.L:Int))∧Below w.heap.size w w':=by
 obtain⟨-, -, -, -, -,h5, -, -⟩:=h.cells
 rw[←h.co,←Zd4]
 cases hb:s.bg
 ·rw[hb,show ptrD false gs=none from rfl]at h5
  obtain rfl:rs=[]:=by have h1:=h.co;rw[(h.fresh hb).1]at h1;exact List.map_eq_nil_iff.1 h1
  clear h
  go_enter Tryz.func41,Tryz.ntmps41
  go_wp2_with (go_at_call 86;refine(ZuP _).mono ?_;rintro e w1 ⟨rfl,hw⟩;obtain rfl:=hw.symm;clear hw)
  go_ret
  exact⟨rfl,Below.refl _ _⟩
 ·rw[hb,show ptrD true gs=some ⟨gs,0,none⟩ from rfl]at h5
  have HL:=hide (ZmU gs B s.k s.z (capN M) v rs s.ov w ht (h.begun hb).1)
  clear h
  generalize rankN rs=R at*
  go_enter Tryz.func41,Tryz.ntmps41
  go_wp2_with (go_at_call 86;refine(unhide HL).mono ?_;rintro e w1 ⟨rfl,hb1⟩)
  go_ret
  exact⟨rfl,hb1⟩
theorem ZqA(w:World):Calls Tryz.prog 41 #[.pointer none] w fun e w'=>e=.returned (.int .i64 0)∧w'=w:=by
 go_enter Tryz.func41,Tryz.ntmps41
 go_wp2
 go_ret
 exact⟨rfl,rfl⟩
theorem ZsP(h:hdB p=false):ZhA T p t=false:=by unfold ZhA;rw[h];rfl
theorem ZmC(h:Zfw t=false):ZhA T p t=false:=by unfold ZhA;rw[h,Bool.and_false];rfl
theorem Zsb(h:hdB p=true)(ht:Zfw t=true):ZhA T p t=(decide (0≤t-(p.2-1))&&decide (t-(p.2-1)≤T)):=by unfold ZhA;rw[h,ht];rfl
theorem Zp6(v:Value)(T:Int)(a b x t:Int)(w:World)(hm:Calls Tryz.prog 147 #[v,.int .i64 x] w fun e w'=>e=.returned (.agg #[.int .i64 a,.int .i64 b])∧Below w.heap.size w w')(hh:hdB (a,b)=false):
  Calls Tryz.prog 88 #[v,.int .i64 x,.int .i64 t] w fun e w'=>e=.returned (.bool false)∧Below w.heap.size w w':=by
 have HM:=hide hm
 clear hm
 go_enter Tryz.func88,Tryz.ntmps88
 go_wp2_with (first
  |(go_at_call 147;refine(unhide HM).mono ?_;rintro e w1 ⟨rfl,hb1⟩;have HB1:=hide (below0 hb1 (alloc_low w1 (.cells #[.int .i64 a,.int .i64 b] 163)));clear hb1)
  |(go_at_call 148;refine(Ze4 a b _).mono ?_;rintro e w2 ⟨rfl,hb2⟩;have HB2:=hide (below0 (unhide HB1) hb2);clear hb2;rw[hh])
  |fail)
 go_ret
 exact⟨rfl,unhide HB2⟩
theorem ZlK(g:Nat)(T:Int)(Z:List Int)(x t:Int)(w:World)(h:MbAt w g T Z):
  Calls Tryz.prog 88 #[.pointer (some ⟨g,0,none⟩),.int .i64 x,.int .i64 t] w fun e w'=>e=.returned (.bool (Zuo T Z x t))∧Below w.heap.size w w':=by
 have hp:=h.inv.mem x
 have hm:=Zql g T Z x w h
 unfold Zuo
 generalize memO Z x=p at*
 obtain⟨a,b⟩:=p
 cases hh:hdB (a,b)
 ·rw[ZsP hh]
  exact Zp6 _ T a b x t w hm hh
 have HM:=hide hm
 clear hm
 cases ht:Zfw t
 ·rw[ZmC ht]
  clear h hp
  go_enter Tryz.func88,Tryz.ntmps88
  go_wp2_with (first
   |(go_at_call 147;refine(unhide HM).mono ?_;rintro e w1 ⟨rfl,hb1⟩;have HB1:=hide (below0 hb1 (alloc_low w1 (.cells #[.int .i64 a,.int .i64 b] 163)));clear hb1)
   |(go_at_call 148;refine(Ze4 a b _).mono ?_;rintro e w2 ⟨rfl,hb2⟩;have HB2:=hide (below0 (unhide HB1) hb2);clear hb2;rw[hh])
   |(go_at_call 69;refine(Zch _ _).mono ?_;rintro e w3 ⟨rfl,hw1⟩;obtain rfl:=hw1.symm;clear hw1;rw[ht])
   |fail)
  go_ret
  exact⟨rfl,unhide HB2⟩
 rw[Zsb hh ht]
 have htt:=ZgQ.1 ht
 obtain⟨-,hb0,hb1, -⟩:=hp
 simp only at hb0 hb1
 have hw:IntKind.i64.wrap (t-(b-1))=t-(b-1):=by rw[IntKind.wrap_i64];omega
 have HL:=hide (fun wx=>Ztb a b ⟨hb0,hb1⟩ wx)
 have HH:=hide h
 clear h htt hb0 hb1
 simp only
 obtain⟨q,hq⟩:∃q,t-(b-1)=q:=⟨_,rfl⟩
 have hwq:IntKind.i64.wrap (t-(b-1))=q:=hw.trans hq
 rw[hq]
 obtain⟨l,hl⟩:∃l,b-1=l:=⟨_,rfl⟩
 have HL':=HL
 rw[hl]at HL' hwq
 clear HL hw hq
 have hlx:=hide hl
 clear hl
 by_cases h0:0≤q
 ·have d0:decide (0≤q)=true:=decide_eq_true h0
  rw[d0,Bool.true_and]
  go_enter Tryz.func88,Tryz.ntmps88
  go_wp2_with (first
   |(go_at_call 147;refine(unhide HM).mono ?_;rintro e w1 ⟨rfl,hb1⟩;have HB0:=hide hb1;have HB1:=hide (below0 hb1 (alloc_low w1 (.cells #[.int .i64 a,.int .i64 b] 163)));have HQ:=hide (Zag 163 w1 [.int .i64 a,.int .i64 b]);clear hb1)
   |(go_at_call 148;refine(Ze4 a b _).mono ?_;rintro e w2 ⟨rfl,hb2⟩;have HB2:=hide (below0 (unhide HB1) hb2);have hq2:=(unhide HQ).below hb2;have q0:=hq2.at 0 rfl;have q1:=hq2.at 1 rfl;clear hb2 hq2;rw[hh])
   |(go_at_call 69;refine(Zch _ _).mono ?_;rintro e w3 ⟨rfl,hw1⟩;obtain rfl:=hw1.symm;clear hw1;rw[ht])
   |(go_at_call 149;refine(unhide HL' _).mono ?_;rintro e w4 ⟨rfl,hb4⟩;have HB4:=hide (below0 (unhide HB2) hb4);have qt:=((unhide HH).below (unhide HB4)).t;clear hb4 q0 q1)
   |fail)
  go_ret
  exact⟨rfl,unhide HB4⟩
 ·have d0:decide (0≤q)=false:=decide_eq_false h0
  rw[d0,Bool.false_and]
  go_enter Tryz.func88,Tryz.ntmps88
  go_wp2_with (first
   |(go_at_call 147;refine(unhide HM).mono ?_;rintro e w1 ⟨rfl,hb1⟩;have HB0:=hide hb1;have HB1:=hide (below0 hb1 (alloc_low w1 (.cells #[.int .i64 a,.int .i64 b] 163)));have HQ:=hide (Zag 163 w1 [.int .i64 a,.int .i64 b]);clear hb1)
   |(go_at_call 148;refine(Ze4 a b _).mono ?_;rintro e w2 ⟨rfl,hb2⟩;have HB2:=hide (below0 (unhide HB1) hb2);have hq2:=(unhide HQ).below hb2;have q0:=hq2.at 0 rfl;have q1:=hq2.at 1 rfl;clear hb2 hq2;rw[hh])
   |(go_at_call 69;refine(Zch _ _).mono ?_;rintro e w3 ⟨rfl,hw1⟩;obtain rfl:=hw1.symm;clear hw1;rw[ht])
   |(go_at_call 149;refine(unhide HL' _).mono ?_;rintro e w4 ⟨rfl,hb4⟩;have HB4:=hide (below0 (unhide HB2) hb4);clear hb4 q0 q1)
   |fail)
  go_ret
  exact⟨rfl,unhide HB4⟩
theorem ZvE(v:Value)(P:Nat→Bool)(t:Int)(w:World)(ha:∀(n:Nat) (wx:World),n<8→Below w.heap.size w wx→Calls Tryz.prog 88 #[v,.int .i64 (n:Int),.int .i64 t] wx fun e w'=>e=.returned (.bool (P n))∧Below wx.heap.size wx w'):
  Calls Tryz.prog 43 #[v,.int .i64 t] w fun e w'=> ∃o,e=.returned o∧OwnZ w' w.heap.size o (Ze5 P 8)∧Below w.heap.size w w':=by
 have HA:=hide ha
 clear ha
 go_enter Tryz.func43,Tryz.ntmps43
 go_wp2
 go_loopw [5,7] (fun o i wr=> ∃k:Nat,k≤8∧i=.int .i64 k∧Hid (OwnZ wr w.heap.size o (Ze5 P k)∧Below w.heap.size w wr)) (fun _ i _=>8-(intOf i).toNat)
 case atStart=>exact⟨0,Nat.zero_le _,rfl,hide ⟨OwnZ.nil _ _,Below.refl _ _⟩⟩
 case round=>
  obtain⟨k,hk,rfl,HR⟩:=hrel
  obtain⟨ho,hB⟩:=unhide HR
  by_cases hlt:k<8
  ·have hlt':(k:Int)<8:=by omega
   have HX:=hide (unhide HA k wr hlt hB)
   have HO:=hide ho
   have HB:=hide hB
   clear ho hB HR HA
   obtain⟨ao,co,rfl, -⟩:=(unhide HO).ints
   cases hp:P k
   ·rw[hp]at HX
    have HE:=hide (ZwU hp)
    clear hp
    go_wp2_with (go_at_call 88;refine(unhide HX).mono ?_;rintro e w1 ⟨rfl,hb1⟩;have HB1:=hide hb1;clear hb1)
    go_roundw
    case rel=>exact⟨k+1,by omega,by go_num,hide ⟨by rw[unhide HE];exact(unhide HO).below (unhide HB1),below0 (unhide HB) (unhide HB1)⟩⟩
    case measure=>simp[intOf];omega
   ·rw[hp]at HX
    have HE:=hide (Zt3 hp)
    have hln:=Zhq P k
    clear hp
    generalize (Ze5 P k).length=N at*
    go_wp2_with (first
     |(go_at_call 88;refine(unhide HX).mono ?_;rintro e w1 ⟨rfl,hb1⟩;have HB1:=hide (below0 (unhide HB) hb1);have HO1:=hide ((unhide HO).below hb1);clear hb1)
     |(at_builtin;refine Zf3 rfl (.tmp 14) (.tmp 16) rfl w.heap.size _ (Ze5 P k) (k:Int) rfl rfl (unhide HO1) (unhide HB1).size (Nat.le_trans (Zhq P k) (by omega)) ?_;intro s4 w4 ho4 hb4;rw[←unhide HE]at ho4;have HO4:=hide ho4;have HB4:=hide ((unhide HB1).trans hb4);clear ho4 hb4)
     |fail)
    go_roundw
    case rel=>exact⟨k+1,by omega,by go_num,hide ⟨unhide HO4,unhide HB4⟩⟩
    case measure=>simp[intOf];omega
  ·obtain rfl:k=8:=by omega
   have HRR:=HR
   clear ho hB HR HA
   go_wp2
   go_ret
   exact⟨_,rfl,unhide HRR⟩
theorem ZuA(g:Nat)(T:Int)(Z:List Int)(t:Int)(w:World)(h:MbAt w g T Z):
  Calls Tryz.prog 43 #[.pointer (some ⟨g,0,none⟩),.int .i64 t] w fun e w'=> ∃o,e=.returned o∧OwnZ w' w.heap.size o (allZ T Z t)∧Below w.heap.size w w':=
 ZvE _ _ t w fun n wx _ hb=>ZlK g T Z (n:Int) t wx (h.below hb)
end Go.Proofs.YtlhhinlghhjghaaGreatDoor
