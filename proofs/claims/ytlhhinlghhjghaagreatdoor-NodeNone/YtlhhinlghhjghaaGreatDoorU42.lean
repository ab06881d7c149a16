/-
  Contract of Decoder.keep: a decoder that has begun and is not done, a row that fits.
  Contract of Decoder.Put: for every packet of at most 10 words and 1000 bytes; of a decoder that is none.
  Contracts of seen.oldest (whatever the order of the map), keep, Clear. Conditions: fewer than 2^40 came.
-/
import Derived.Test.YtlhhinlghhjghaaGreatDoorU41
import Derived.Test.YtlhhinlghhjghaaGreatDoorU36
import Derived.OpenShut
import Derived.ChangeShapes
namespace Go.Proofs.YtlhhinlghhjghaaGreatDoor
open Go.RowKit Go.Sort
set_option linter.unusedVariables false
set_option linter.unusedSimpArgs false
set_option maxRecDepth 4000
set_option maxHeartbeats 8000000
variable {s:DS}{M:Int}{g gs:Nat}{v:Value}{w w':World}
def Zzi(w w':World)(g B:Nat)(M:Int)(s:DS)(gs:Nat)(v:Value)(x:List Nat×ByteArray)(e:Ending):Prop:=
 ∃v' rs' ob,e=.returned (.int .i64 (keepE M s))∧Zej M s x ob∧DcAt w' g B M (ZfV M s x ob) gs v' rs'∧Tu (dcF g gs v) w w'∧Mv w gs v gs v'
theorem ZAn(h:Tu (stF gs v) w w'):Tu (dcF g gs v) w w':=⟨h.os,h.tape,h.output,h.size,fun k hk hn=>h.block k hk fun e=>hn (.inr e)⟩
theorem ZAu(h:Tu (fun j=>j=g) w w'):Tu (dcF g gs v) w w':=⟨h.os,h.tape,h.output,h.size,fun k hk hn=>h.block k hk fun e=>hn (.inl e)⟩
theorem ZpZ(g B:Nat)(M:Int)(s:DS)(gs:Nat)(v:Value)(rs:List RV)(a:Option Addr)(n c:Nat)(xs:List Nat)(t:ByteArray)(w:World)(h:DcAt w g B M s gs v rs)(hg:s.bg=true)(hd:s.dn=false)(hr:RowAt w a n xs)(hn:n≤10)(hts:t.size≤1000)(hf:fitB s.k s.z (xs,t)=true)(hl:¬s.L.length<capN M):
  Calls Tryz.prog 79 #[.pointer (some ⟨g,0,none⟩),.agg #[.slice a n c,.string t]] w fun e w'=>Zzi w w' g B M s gs v (xs,t) e:=by
 obtain⟨hs,hI⟩:=h.begun hg
 have hb0:=alloc_low w (.cells #[.slice a n c,.string t] 57)
 have hx:=Zag 57 w [.slice a n c,.string t]
 have hk:=h.blk.below hb0
 rw[hg,show ptrD true gs=some ⟨gs,0,none⟩ from rfl]at hk
 have hout:¬stF gs v w.heap.size:=fun hq=>by
  rcases hq with hq|hq
  ·have:=hs.lt;omega
  ·have:=(World.ownsRow.lt hs.own _ hq).2;omega
 have hsW:=hs.below hb0
 have hrW:=hr.below hb0
 have HC:=hide h.co
 have HLO:=hide h.lo
 have hE:w.alloc (.cells [.slice a n c,.string t].toArray 57)=w.alloc (.cells #[.slice a n c,.string t] 57):=rfl
 rw[hE]at hx
 have hgo:=hk.outSt hsW (by decide) (by decide)
 clear hE h hr hs
 generalize hW:w.alloc (.cells #[.slice a n c,.string t] 57)=W at*
 have q0:=hx.at 0 rfl
 have q1:=hx.at 1 rfl
 have d5:=hk.at 5 rfl
 have HP:=hide (fun wx (hb:Below W.heap.size W wx)=>ZrP gs B s.k s.z (capN M) v rs s.ov a n c xs t wx (hsW.below hb) (hrW.below hb) hn hts)
 have HPF:=hide (ZnN (m:=capN M) (L:=rs.map core) hf (by rw[unhide HC];exact hl))
 have HX:=hide hx
 have HK:=hide hk
 have HB0:=hide hb0
 have HI:=hide hI
 have HF:=hide hf
 have HKS:=hide (ZfD (M:=M) (s:=s) (x:=(xs,t)) (ob:=⟨#[]⟩) hd hl)
 clear hx hk hb0 hsW hrW hI hf hl hd
 go_enter Tryz.func79,Tryz.ntmps79
 go_wp2_with fail
 go_region_held3 (fun w'=>w'.cell? ⟨w.heap.size,0,none⟩=some (.slice a n c)∧w'.cell? ⟨w.heap.size,1,none⟩=some (.string t)∧w'.cell? ⟨g,5,none⟩=some (.pointer (some ⟨gs,0,none⟩))) (go_keep) (first
  |(go_at_call 135;refine(unhide HP _ (Below.refl _ _).drew).mono ?_;rintro e w1 ⟨he1,v1,rs1,hs1,hc1,ht1,hv1⟩;rw[(unhide HPF).1]at he1;rw[(unhide HPF).2.1]at hc1;rw[(unhide HPF).2.2]at hs1;obtain rfl:=he1;have ht1:Tu (stF gs v) W w1:=Tu.after (Below.refl _ _).drew ht1;have y1:=(unhide HK).tu ht1 hgo;have y2:=(unhide HX).tu ht1 hout;have r0:=y2.at 0 rfl;have r1:=y2.at 1 rfl;have e5:=y1.at 5 rfl;have e3:=y1.at 3 rfl;have HS1:=hide hs1;have HC1:=hide hc1;have HT1:=hide ht1;have HV1:=hide (show v1.ownBlock=v.ownBlock∨∀j,v1.ownBlock=some j→W.heap.size≤j from hv1);have HK1:=hide y1;clear hs1 hc1 ht1 hv1 y1 y2)
  |fail)
 clear HP HPF HX HK q0 q1 d5
 go_wp2_with fail
 refine wp_region_quiet_below (by kernel_rfl) (by kernel_rfl) ?_
 repeat (with_reducible refine wpQuiet_step (fun K hK=>?_);go_simp;with_reducible refine hK _ ?_;clear hK K)
 refine wpQuiet_nil ?_
 intro w3 hw3
 obtain⟨⟨dq,osq⟩,hw3⟩:=hw3
 have HDR:=hide (show Below w1.heap.size w1 w3 from by rw[hw3];exact below_regrown _ dq osq)
 clear hw3 dq osq
 go_wp2
 go_ret
 have hdr:=unhide HDR
 refine⟨v1,rs1,⟨#[]⟩,by rw[(unhide HKS).2.1];rfl,fun hq=>?_,?_,((ZAn (unhide HT1)).after (unhide HB0)).then hdr,.inl rfl,?_⟩
 ·rw[(unhide HKS).2.2]at hq;cases hq
 ·have hT:Zej M s (xs,t) ⟨#[]⟩:=fun hq=>by rw[(unhide HKS).2.2]at hq;cases hq
  have hi2:=(unhide HI).keep (unhide HF) hT
  rw[(unhide HKS).1]at hi2⊢
  refine⟨?_,unhide HLO,fun _=>⟨(unhide HS1).below hdr,hi2⟩,(fun e=>by have e':s.bg=false:=e;rw[hg]at e';cases e'),by rw[unhide HC1];exact unhide HC⟩
  show BkA _ _ _ (decC M s (ptrD s.bg gs))
  rw[hg]
  exact(unhide HK1).below hdr
 ·rcases unhide HV1 with q|q
  ·exact .inl q
  ·exact .inr fun j hj=>Nat.le_trans (unhide HB0).size (q j hj)
theorem ZwO(g B:Nat)(M:Int)(s:DS)(gs:Nat)(v:Value)(rs:List RV)(a:Option Addr)(n c:Nat)(xs:List Nat)(t:ByteArray)(w:World)(h:DcAt w g B M s gs v rs)(hg:s.bg=true)(hd:s.dn=false)(hr:RowAt w a n xs)(hn:n≤10)(hts:t.size≤1000)(hf:fitB s.k s.z (xs,t)=true)(hl:s.L.length<capN M)(ht:∀wx,Below B w wx→Tab wx):
  Calls Tryz.prog 79 #[.pointer (some ⟨g,0,none⟩),.agg #[.slice a n c,.string t]] w fun e w'=>Zzi w w' g B M s gs v (xs,t) e:=by
 obtain⟨hs,hI⟩:=h.begun hg
 have hb0:=alloc_low w (.cells #[.slice a n c,.string t] 57)
 have hx:=Zag 57 w [.slice a n c,.string t]
 have hk:=h.blk.below hb0
 rw[hg,show ptrD true gs=some ⟨gs,0,none⟩ from rfl]at hk
 have hout:¬stF gs v w.heap.size:=fun hq=>by
  rcases hq with hq|hq
  ·have:=hs.lt;omega
  ·have:=(World.ownsRow.lt hs.own _ hq).2;omega
 have hsW:=hs.below hb0
 have hrW:=hr.below hb0
 have HC:=hide h.co
 have HLO:=hide h.lo
 have hE:w.alloc (.cells [.slice a n c,.string t].toArray 57)=w.alloc (.cells #[.slice a n c,.string t] 57):=rfl
 rw[hE]at hx
 have hgo:=hk.outSt hsW (by decide) (by decide)
 have HBW:=hide hs.lob
 clear hE h hr hs
 generalize hW:w.alloc (.cells #[.slice a n c,.string t] 57)=W at*
 have q0:=hx.at 0 rfl
 have q1:=hx.at 1 rfl
 have d5:=hk.at 5 rfl
 have HP:=hide (fun wx (hb:Below W.heap.size W wx)=>ZrP gs B s.k s.z (capN M) v rs s.ov a n c xs t wx (hsW.below hb) (hrW.below hb) hn hts)
 have HPF:=hide (Zx1 (m:=capN M) (L:=rs.map core) hf (by rw[unhide HC];exact hl))
 have HX:=hide hx
 have HK:=hide hk
 have HB0:=hide hb0
 have HI:=hide hI
 have HF:=hide hf
 have HD:=hide hd
 have HL:=hide hl
 have HT:=hide ht
 have HSW:=hide hsW
 clear hx hk hb0 hsW hrW hI hf hl hd ht
 go_enter Tryz.func79,Tryz.ntmps79
 go_wp2_with fail
 go_region_held3 (fun w'=>w'.cell? ⟨w.heap.size,0,none⟩=some (.slice a n c)∧w'.cell? ⟨w.heap.size,1,none⟩=some (.string t)∧w'.cell? ⟨g,5,none⟩=some (.pointer (some ⟨gs,0,none⟩))) (go_keep) (first
  |(go_at_call 135;refine(unhide HP _ (Below.refl _ _).drew).mono ?_;rintro e w1 ⟨he1,v1,rs1,hs1,hc1,ht1,hv1⟩;rw[(unhide HPF).1]at he1;rw[(unhide HPF).2.1]at hc1;rw[(unhide HPF).2.2]at hs1;obtain rfl:=he1;have ht1:Tu (stF gs v) W w1:=Tu.after (Below.refl _ _).drew ht1;have y1:=(unhide HK).tu ht1 hgo;have y2:=(unhide HX).tu ht1 hout;have r0:=y2.at 0 rfl;have r1:=y2.at 1 rfl;have e5:=y1.at 5 rfl;have e3:=y1.at 3 rfl;have HS1:=hide hs1;have HC1:=hide hc1;have HT1:=hide ht1;have HV1:=hide (show v1.ownBlock=v.ownBlock∨∀j,v1.ownBlock=some j→W.heap.size≤j from hv1);have HK1:=hide y1;clear hs1 hc1 ht1 hv1 y1 y2)
  |fail)
 clear HP HPF HX HK q0 q1 d5
 have hs1:=unhide HS1
 have hb1:Below B w w1:=((unhide HB0).mono (unhide HBW)).trans ((unhide HSW).keeps (unhide HT1) (unhide HSW).lob)
 have HB1:=hide hb1
 have HRK:=hide (fun wx (hb:Below w1.heap.size w1 wx)=>ZmU gs B s.k s.z (capN M) v1 rs1 s.ov wx (unhide HT wx (hb1.trans (hb.mono hs1.lob))) (hs1.below hb))
 have HQ:=hide (fun wx (hb:Below w1.heap.size w1 wx)=>(unhide HK1).below hb)
 have HRC:=hide (Zd4 rs1)
 have HCN:=hide (show rs1.map core=s.L++[(xs,t)] from by rw[unhide HC1,unhide HC])
 have HFA:=hide (show∀x∈rs1.map core,fitB s.k s.z x=true from fun x hx=>by
  rw[unhide HCN]at hx
  rcases List.mem_append.1 hx with hx|hx
  ·exact(unhide HI).fit x hx
  ·rw[List.mem_singleton.1 hx];exact unhide HF)
 have HMV:=hide (show Mv w gs v gs v1 from⟨.inl rfl,(unhide HV1).imp id fun q j hj=>Nat.le_trans (unhide HB0).size (q j hj)⟩)
 have HTW:=hide (Tu.after (unhide HB0) (ZAn (g:=g) (unhide HT1)))
 clear hs1 hb1 HC1 HV1 HT1 HSW HB0 HBW r0 r1
 go_wp2_with fail
 by_cases hR:(rankN rs1:Int)=s.k
 ·have HR:=hide hR
  have heq:((rankN rs1:Int)==s.k)=true:=by rw[hR];exact beq_self_eq_true _
  have HKS:=hide (fun ob=>Zds (M:=M) (s:=s) (x:=(xs,t)) (ob:=ob) (unhide HD) (unhide HL) (by rw[←unhide HCN,←unhide HRC];exact hR))
  generalize hRN:rankN rs1=R at*
  clear hR
  go_region_held3 (fun w'=>w'.cell? ⟨g,3,none⟩=some (.int .i64 s.k)∧w'.cell? ⟨g,5,none⟩=some (.pointer (some ⟨gs,0,none⟩))) (go_keep) (first
   |(go_at_call 86;refine(unhide HRK _ (Below.refl _ _).drew).mono ?_;rintro e w2 ⟨rfl,hb2⟩;have D2:=hide (show Below w1.heap.size w1 w2 from below0 (Below.refl _ _).drew hb2);have y1:=unhide HQ w2 (unhide D2);have e3:=y1.at 3 rfl;have e5:=y1.at 5 rfl;clear hb2 y1)
   |fail)
  have hs2:=(unhide HS1).below (unhide D2)
  have hk2:=(unhide HK1).below (unhide D2)
  have hb2:Below B w w2:=(unhide HB1).trans ((unhide D2).mono (unhide HS1).lob)
  have HJ:=hide (Zp5 g gs B M s (capN M) v1 rs1 s.ov w2 (fun wx hb=>unhide HT wx (hb2.trans (hb.mono hs2.lob))) hk2 hs2 (unhide HI) (unhide HFA) (by rw[←unhide HRC];exact unhide HR))
  have HS2:=hide hs2
  have HK2:=hide hk2
  clear hs2 hk2 hb2 HRK HQ
  go_wp2_with fail
  refine(unhide HJ).mono ?_
  rintro e w3 ⟨ob,rfl,hob,hb3⟩
  have hk3:=(unhide HK2).below hb3
  have f6:=hk3.frz 6
  have f7:=hk3.frz 7
  have c6:=hk3.at 6 rfl
  have c7:=hk3.at 7 rfl
  have HK3:=hide hk3
  have HS3:=hide ((unhide HS2).below hb3)
  have HOB:=hide hob
  have HT3:=hide (((unhide HTW).then (unhide D2)).then hb3)
  clear hk3 hob hb3 HJ HS2 HK2 e3 e5
  go_wp2
  go_ret
  have hks:=unhide HKS ob
  have hT:Zej M s (xs,t) ob:=fun _=>by rw[←unhide HCN];exact unhide HOB
  have hi2:=(unhide HI).keep (unhide HF) hT
  have t7:=Zav w3 g 7 (.string ob)
  have t6:=Zav (w3.setCell ⟨g,7,none⟩ (.string ob)) g 6 (.bool true)
  have hk4:=((unhide HK3).set 7 (.string ob)).set 6 (.bool true)
  refine⟨v1,rs1,ob,by rw[hks.2.1];rfl,hT,?_,((unhide HT3).trans (ZAu (gs:=gs) (v:=v) t7) fun _ _ h=>h).trans (ZAu (gs:=gs) (v:=v) t6) fun _ _ h=>h,unhide HMV⟩
  rw[hks.1]at hi2⊢
  refine⟨?_,unhide HLO,fun _=>⟨((unhide HS3).sets (unhide HK3) t7 (by decide) (by decide) (by decide)).sets ((unhide HK3).set 7 (.string ob)) t6 (by decide) (by decide) (by decide),hi2⟩,(fun e=>by have e':s.bg=false:=e;rw[hg]at e';cases e'),unhide HCN⟩
  show BkA _ _ _ (decC M {s with L:=s.L++[(xs,t)],dn:=true,ob:=ob} (ptrD s.bg gs))
  rw[hg]
  exact hk4
 ·have heq:((rankN rs1:Int)==s.k)=false:=by rw[beq_eq_false_iff_ne];exact hR
  have HKS:=hide (ZjB (M:=M) (s:=s) (x:=(xs,t)) (ob:=⟨#[]⟩) (unhide HD) (unhide HL) (by rw[←unhide HCN,←unhide HRC];exact hR))
  generalize hRN:rankN rs1=R at*
  clear hR
  go_region_held3 (fun w'=>w'.cell? ⟨g,3,none⟩=some (.int .i64 s.k)∧w'.cell? ⟨g,5,none⟩=some (.pointer (some ⟨gs,0,none⟩))) (go_keep) (first
   |(go_at_call 86;refine(unhide HRK _ (Below.refl _ _).drew).mono ?_;rintro e w2 ⟨rfl,hb2⟩;have D2:=hide (show Below w1.heap.size w1 w2 from below0 (Below.refl _ _).drew hb2);have y1:=unhide HQ w2 (unhide D2);have e3:=y1.at 3 rfl;have e5:=y1.at 5 rfl;clear hb2 y1)
   |fail)
  go_wp2
  go_ret
  have hT:Zej M s (xs,t) ⟨#[]⟩:=fun hq=>by rw[(unhide HKS).2.2]at hq;cases hq
  have hi2:=(unhide HI).keep (unhide HF) hT
  refine⟨v1,rs1,⟨#[]⟩,by rw[(unhide HKS).2.1];rfl,hT,?_,(unhide HTW).then (unhide D2),unhide HMV⟩
  rw[(unhide HKS).1]at hi2⊢
  refine⟨?_,unhide HLO,fun _=>⟨(unhide HS1).below (unhide D2),hi2⟩,(fun e=>by have e':s.bg=false:=e;rw[hg]at e';cases e'),unhide HCN⟩
  show BkA _ _ _ (decC M s (ptrD s.bg gs))
  rw[hg]
  exact(unhide HK1).below (unhide D2)
theorem ZrI(g B:Nat)(M:Int)(s:DS)(gs:Nat)(v:Value)(rs:List RV)(a:Option Addr)(n c:Nat)(xs:List Nat)(t:ByteArray)(w:World)(ht:∀wx,Below B w wx→Tab wx)(h:DcAt w g B M s gs v rs)(hg:s.bg=true)(hd:s.dn=false)(hr:RowAt w a n xs)(hn:n≤10)(hts:t.size≤1000)(hf:fitB s.k s.z (xs,t)=true):
  Calls Tryz.prog 79 #[.pointer (some ⟨g,0,none⟩),.agg #[.slice a n c,.string t]] w fun e w'=>Zzi w w' g B M s gs v (xs,t) e:=by
 by_cases hl:s.L.length<capN M
 ·exact ZwO g B M s gs v rs a n c xs t w h hg hd hr hn hts hf hl ht
 ·exact ZpZ g B M s gs v rs a n c xs t w h hg hd hr hn hts hf hl
theorem DcAt.sets{T:TypeId}{q:Nat}{cs:List Value}{B:Nat}{rs:List RV}(h:DcAt w g B M s gs v rs)(hq:BkA T w q cs)(ht:Tu (fun j=>j=q) w w')(hD:T≠179)(hS:T≠255)(hR:T≠57)(hU:T≠69):DcAt w' g B M s gs v rs:=
 ⟨h.blk.tu ht (fun e=>hq.ne h.blk hD e.symm),h.lo,fun e=>⟨(h.begun e).1.sets hq ht hS hR hU,(h.begun e).2⟩,h.fresh,h.co⟩
def Zz5(w w':World)(g B:Nat)(M:Int)(s:DS)(gs:Nat)(v:Value)(p:PKV)(e:Ending):Prop:=
 ∃gs' v' rs' ob,e=.returned (.int .i64 (ZuD M s p))∧(admB s p=true→Zej M (begS s p) (p.r.xs,p.r.s) ob)∧DcAt w' g B M (dput M s p ob) gs' v' rs'∧Tu (dcF g gs v) w w'∧Mv w gs v gs' v'
theorem Zst{p:PKV}{ob:ByteArray}(h:admB s p=false):dput M s p ob=s∧ZuD M s p=1:=by
 unfold dput ZuD
 rw[h];exact⟨rfl,rfl⟩
theorem ZnV{p:PKV}{ob:ByteArray}(h:admB s p=true):dput M s p ob=ZfV M (begS s p) (p.r.xs,p.r.s) ob∧ZuD M s p=keepE M (begS s p):=by
 unfold dput ZuD
 rw[h];exact⟨rfl,rfl⟩
theorem Zr3(fn:Fn)(first cap:Array Value)(w:World):(Instr.makeFunc fn first cap).run Tryz.prog w=.ok (.func fn first cap) w:=rfl
theorem ZvP(p:PKV)(w:World):
  Calls Tryz.prog 34 #[.pointer none,.agg #[.int .i64 p.o,.int .i64 p.l,.int .i64 p.k,.int .i64 p.z,.int .i64 p.h,.slice p.r.a p.r.n p.r.c,.string p.r.s]] w fun e w'=>e=.returned (.int .i64 1)∧Below w.heap.size w w':=by
 have hmf:=Zr3
 go_enter_defers Tryz.func34,Tryz.ntmps34
 go_wp2
 simp only[bodyPostD,Leaves]
 refine⟨.int .i64 1,by simp[results,Tryz.results34,go_sem],rfl,?_⟩
 exact(((Below.refl _ _).alloc (Nat.le_refl _) _).alloc (by simp) _)
theorem ZkR(p:PKV)(w:World):BkA 59 ((w.alloc (.cells #[.int .i64 p.o,.int .i64 p.l,.int .i64 p.k,.int .i64 p.z,.int .i64 p.h,.slice p.r.a p.r.n p.r.c,.string p.r.s] 59)).alloc (.cells #[.int .i64 0] 35)) w.heap.size [.int .i64 p.o,.int .i64 p.l,.int .i64 p.k,.int .i64 p.z,.int .i64 p.h,.slice p.r.a p.r.n p.r.c,.string p.r.s]∧BkA 35 ((w.alloc (.cells #[.int .i64 p.o,.int .i64 p.l,.int .i64 p.k,.int .i64 p.z,.int .i64 p.h,.slice p.r.a p.r.n p.r.c,.string p.r.s] 59)).alloc (.cells #[.int .i64 0] 35)) (w.heap.size+1) [.int .i64 0]∧Below w.heap.size w ((w.alloc (.cells #[.int .i64 p.o,.int .i64 p.l,.int .i64 p.k,.int .i64 p.z,.int .i64 p.h,.slice p.r.a p.r.n p.r.c,.string p.r.s] 59)).alloc (.cells #[.int .i64 0] 35)):=by
 refine⟨?_,?_,((Below.refl _ _).alloc (Nat.le_refl _) _).alloc (by simp) _⟩
 ·have h:BkA 59 (w.alloc (.cells #[.int .i64 p.o,.int .i64 p.l,.int .i64 p.k,.int .i64 p.z,.int .i64 p.h,.slice p.r.a p.r.n p.r.c,.string p.r.s] 59)) w.heap.size [.int .i64 p.o,.int .i64 p.l,.int .i64 p.k,.int .i64 p.z,.int .i64 p.h,.slice p.r.a p.r.n p.r.c,.string p.r.s]:=Zag 59 w [.int .i64 p.o,.int .i64 p.l,.int .i64 p.k,.int .i64 p.z,.int .i64 p.h,.slice p.r.a p.r.n p.r.c,.string p.r.s]
  exact h.below (alloc_low _ _)
 ·have h:=Zag 35 (w.alloc (.cells #[.int .i64 p.o,.int .i64 p.l,.int .i64 p.k,.int .i64 p.z,.int .i64 p.h,.slice p.r.a p.r.n p.r.c,.string p.r.s] 59)) [.int .i64 0]
  rw[Zab]at h
  exact h
theorem ZvL(g B:Nat)(M:Int)(s:DS)(gs:Nat)(v:Value)(rs:List RV)(p:PKV)(w:World)(h:DcAt w g B M s gs v rs)(hr:RowAt w p.r.a p.r.n p.r.xs)(ha:admB s p=false):
  Calls Tryz.prog 34 #[.pointer (some ⟨g,0,none⟩),.agg #[.int .i64 p.o,.int .i64 p.l,.int .i64 p.k,.int .i64 p.z,.int .i64 p.h,.slice p.r.a p.r.n p.r.c,.string p.r.s]] w fun e w'=>Zz5 w w' g B M s gs v p e:=by
 have hmf:=Zr3
 obtain⟨hx,he,hb0⟩:=ZkR p w
 have HA:=hide (ZuT g B M s gs v rs p _ (h.below hb0) (hr.below hb0) ha)
 have HD:=hide h
 have HNO:=hide (Zst (M:=M) (ob:=⟨#[]⟩) ha)
 have HAD:=hide ha
 clear h hr ha
 generalize hW:(w.alloc (.cells #[.int .i64 p.o,.int .i64 p.l,.int .i64 p.k,.int .i64 p.z,.int .i64 p.h,.slice p.r.a p.r.n p.r.c,.string p.r.s] 59)).alloc (.cells #[.int .i64 0] 35)=W at*
 have q0:=hx.at 0 rfl
 have q1:=hx.at 1 rfl
 have q2:=hx.at 2 rfl
 have q3:=hx.at 3 rfl
 have q4:=hx.at 4 rfl
 have q5:=hx.at 5 rfl
 have q6:=hx.at 6 rfl
 have HE:=hide he
 have HB0:=hide hb0
 clear hx he hb0
 go_enter_defers Tryz.func34,Tryz.ntmps34
 go_wp2_with (go_at_call 78;refine(unhide HA).mono ?_;rintro e w1 ⟨⟨tx,rfl⟩,hb1⟩)
 have he1:=(unhide HE).below hb1
 refine leaves_cons (f:=77) (args:=#[.pointer (some ⟨w.heap.size+1,0,none⟩)]) (by simp) (by simp[go_sem]) ?_
 refine(ZgU ⟨w.heap.size+1,0,none⟩ 0 9 _ [] _ (he1.at 0 rfl) (he1.frz 0)).mono ?_
 rintro e u' w'' ⟨rfl,rfl,rfl⟩
 have hc:=(he1.set 0 (.int .i64 1)).at 0 rfl
 show Leaves Tryz.prog Tryz.f34 _ _ [] .returning _
 refine⟨.int .i64 1,by simp[results,Tryz.results34,go_sem,hc],?_⟩
 have hbe:Below w.heap.size w (w1.setCell ⟨w.heap.size+1,0,none⟩ (.int .i64 1)):=(below0 (unhide HB0) hb1).setCell (p:=⟨w.heap.size+1,0,none⟩) (Nat.le_succ _) _
 refine⟨gs,v,rs,⟨#[]⟩,by rw[(unhide HNO).2],(fun e=>by rw[unhide HAD]at e;cases e),?_,Tu.of_below hbe,Mv.refl _ _ _⟩
 rw[(unhide HNO).1]
 exact(unhide HD).below hbe
theorem Zr7(g B:Nat)(M:Int)(s:DS)(gs:Nat)(v:Value)(rs:List RV)(p:PKV)(w:World)(ht:∀wx,Below B w wx→Tab wx)(h:DcAt w g B M s gs v rs)(hr:∀wx,Tu (dcF g gs v) w wx→RowAt wx p.r.a p.r.n p.r.xs)(hn:p.r.n≤10)(hs:p.r.s.size≤1000)(ha:admB s p=true):
  Calls Tryz.prog 34 #[.pointer (some ⟨g,0,none⟩),.agg #[.int .i64 p.o,.int .i64 p.l,.int .i64 p.k,.int .i64 p.z,.int .i64 p.h,.slice p.r.a p.r.n p.r.c,.string p.r.s]] w fun e w'=>Zz5 w w' g B M s gs v p e:=by
 have hmf:=Zr3
 obtain⟨hx,he,hb0⟩:=ZkR p w
 have hdW:=h.below hb0
 have HA:=hide (ZuS g B M s gs v rs p _ hdW (hr _ (Tu.of_below hb0)) ha)
 have HXO:=hide (hdW.out hx (by decide) (by decide) (by decide))
 have HEO:=hide (hdW.out he (by decide) (by decide) (by decide))
 have HFI:=hide (ZlM ha)
 have HYE:=hide (fun ob=>ZnV (M:=M) (ob:=ob) ha)
 have HH:=hide h
 have HT:=hide ht
 have HR:=hide hr
 clear h hr ha hdW ht
 generalize hW:(w.alloc (.cells #[.int .i64 p.o,.int .i64 p.l,.int .i64 p.k,.int .i64 p.z,.int .i64 p.h,.slice p.r.a p.r.n p.r.c,.string p.r.s] 59)).alloc (.cells #[.int .i64 0] 35)=W at*
 have q0:=hx.at 0 rfl
 have q1:=hx.at 1 rfl
 have q2:=hx.at 2 rfl
 have q3:=hx.at 3 rfl
 have q4:=hx.at 4 rfl
 have q5:=hx.at 5 rfl
 have q6:=hx.at 6 rfl
 have HE:=hide he
 have HX:=hide hx
 have HB0:=hide hb0
 clear hx he hb0
 go_enter_defers Tryz.func34,Tryz.ntmps34
 go_wp2_with fail
 refine(unhide HA).mono ?_
 rintro e w1 ⟨rfl,gs1,v1,rs1,hd1,ht1,hm1⟩
 have he1:=(unhide HE).tu ht1 (unhide HEO)
 have hx1:=(unhide HX).tu ht1 (unhide HXO)
 have htw:Tu (dcF g gs v) w w1:=Tu.after (unhide HB0) ht1
 have hmw:Mv w gs v gs1 v1:=hm1.new (unhide HB0).size
 have hrow:=unhide HR w1 htw
 obtain⟨-, -, -, -, -, -,c6, -⟩:=hd1.cells
 have ec:=he1.at 0 rfl
 have ef:=he1.frz 0
 have x5:=hx1.at 5 rfl
 have x6:=hx1.at 6 rfl
 have hfi:=unhide HFI
 have hbB:Below B w w1:=(unhide HH).keeps htw
 have HD1:=hide hd1
 have HE1:=hide he1
 have HTW:=hide htw
 have HMW:=hide hmw
 clear q0 q1 q2 q3 q4 q5 q6 HA HXO HEO HE HX hx1 ht1 hm1
 cases hdn:(begS s p).dn
 ·have HKP:=hide (ZrI g B M (begS s p) gs1 v1 rs1 p.r.a p.r.n p.r.c p.r.xs p.r.s w1 (fun wx hb=>unhide HT wx (hbB.trans hb)) hd1 hfi.2.2 hdn hrow hn hs hfi.2.1)
  rw[hdn]at c6
  clear hd1 he1 htw hmw hrow hfi hbB
  go_wp2_with fail
  refine(unhide HKP).mono ?_
  rintro e w2 ⟨v2,rs2,ob,rfl,hT,hd2,ht2,hm2⟩
  have heo:=(unhide HD1).out (unhide HE1) (by decide) (by decide) (by decide)
  have he2:=(unhide HE1).tu ht2 heo
  have ec2:=he2.at 0 rfl
  have ef2:=he2.frz 0
  have HE2:=hide he2
  have HD2:=hide hd2
  have HTL:=hide hT
  have HT2:=hide (Zxp (unhide HTW) ht2 (unhide HMW))
  have HM2:=hide ((unhide HMW).trans hm2 (unhide HTW).size)
  clear he2 hd2 hT ht2 hm2 heo ec ef c6 x5 x6 HKP
  generalize hKE:keepE M (begS s p)=KE at*
  go_wp2
  refine leaves_cons (f:=77) (args:=#[.pointer (some ⟨w.heap.size+1,0,none⟩)]) (by simp) (by simp[go_sem]) ?_
  refine(Ziy ⟨w.heap.size+1,0,none⟩ _).mono ?_
  rintro e u' w'' ⟨rfl,rfl,rfl⟩
  have hc:=((unhide HE2).set 0 (.int .i64 KE)).at 0 rfl
  show Leaves Tryz.prog Tryz.f34 _ _ [] .returning _
  refine⟨.int .i64 KE,by simp[results,Tryz.results34,go_sem,hc],?_⟩
  have hts:=Zav w2 (w.heap.size+1) 0 (.int .i64 KE)
  refine⟨gs1,v2,rs2,ob,by rw[(unhide HYE ob).2],fun _=>unhide HTL,?_,(unhide HT2).trans hts fun j hj e=>absurd e (by omega),unhide HM2⟩
  rw[(unhide HYE ob).1]
  exact(unhide HD2).sets (unhide HE2) hts (by decide) (by decide) (by decide) (by decide)
 ·rw[hdn]at c6
  have hks:=fun ob=>Zjq (M:=M) (x:=(p.r.xs,p.r.s)) (ob:=ob) hdn
  have HKS:=hide hks
  have HNW:=hide (Ztg (M:=M) (x:=(p.r.xs,p.r.s)) hdn)
  clear hd1 he1 htw hmw hrow hfi hbB hks
  go_wp2
  refine leaves_cons (f:=77) (args:=#[.pointer (some ⟨w.heap.size+1,0,none⟩)]) (by simp) (by simp[go_sem]) ?_
  refine(Ziy ⟨w.heap.size+1,0,none⟩ _).mono ?_
  rintro e u' w'' ⟨rfl,rfl,rfl⟩
  have hc:=((unhide HE1).set 0 (.int .i64 0)).at 0 rfl
  show Leaves Tryz.prog Tryz.f34 _ _ [] .returning _
  refine⟨.int .i64 0,by simp[results,Tryz.results34,go_sem,hc],?_⟩
  have hts:=Zav w1 (w.heap.size+1) 0 (.int .i64 0)
  refine⟨gs1,v1,rs1,⟨#[]⟩,by rw[(unhide HYE ⟨#[]⟩).2,(unhide HKS ⟨#[]⟩).2],(fun _ hq=>by rw[unhide HNW]at hq;cases hq),?_,(unhide HTW).trans hts fun j hj e=>absurd e (by omega),unhide HMW⟩
  rw[(unhide HYE ⟨#[]⟩).1,(unhide HKS ⟨#[]⟩).1]
  exact(unhide HD1).sets (unhide HE1) hts (by decide) (by decide) (by decide) (by decide)
theorem Zwe(g B:Nat)(M:Int)(s:DS)(gs:Nat)(v:Value)(rs:List RV)(p:PKV)(w:World)(ht:∀wx,Below B w wx→Tab wx)(h:DcAt w g B M s gs v rs)(hr:∀wx,Tu (dcF g gs v) w wx→RowAt wx p.r.a p.r.n p.r.xs)(hn:p.r.n≤10)(hs:p.r.s.size≤1000):
  Calls Tryz.prog 34 #[.pointer (some ⟨g,0,none⟩),.agg #[.int .i64 p.o,.int .i64 p.l,.int .i64 p.k,.int .i64 p.z,.int .i64 p.h,.slice p.r.a p.r.n p.r.c,.string p.r.s]] w fun e w'=>Zz5 w w' g B M s gs v p e:=by
 cases ha:admB s p
 ·exact ZvL g B M s gs v rs p w h (hr w (Tu.refl _ _)) ha
 ·exact Zr7 g B M s gs v rs p w ht h hr hn hs ha
end Go.Proofs.YtlhhinlghhjghaaGreatDoor
namespace Go.Proofs.YtlhhinlghhjghaaGreatDoor
open Go.RowKit Go.Sort Go.Maps Go.ChangeShapes
set_option linter.unusedVariables false
set_option linter.unusedSimpArgs false
set_option maxRecDepth 4000
set_option maxHeartbeats 8000000
structure OlS(w wr:World)(b n nx:Nat)(es:List (Nat×Nat))(D:DataW Unit)(left:Lit→Bool)(c f l:Nat):Prop where
 rg:wr.ranges Tryz.prog 95 (plainElem Tryz.prog 3) b w.heap.size n D left c
 bel:Below w.heap.size w wr
 low:∀p∈es,left (.int .u32 (p.1:Int))=false→l≤p.2
 one:(f,l)∈es∨l=nx
theorem OlS.step{w wr w1:World}{b n nx c c1 f l:Nat}{es:List (Nat×Nat)}{D:DataW Unit}{left:Lit→Bool}{x v:Int}(h:OlS w wr b n nx es D left c f l)(hM:MpL D nx es)
  (hwx:(Lit.int .u32 x).wf=true) (hat:∀zd,D.atKey (.int .u32 x) zd=.lit (.int .i64 v))
  (hrg:w1.ranges Tryz.prog 95 (plainElem Tryz.prog 3) b w.heap.size n D (fun z=>left z&& !z.sameKey (.int .u32 x)) c1) (hg:wr.grownBy w1 (some w.heap.size)):
  ∃k s:Nat,x=(k:Int)∧v=(s:Int)∧(s<l→OlS w w1 b n nx es D (fun z=>left z&& !z.sameKey (.int .u32 x)) c1 k s)∧(¬s<l→OlS w w1 b n nx es D (fun z=>left z&& !z.sameKey (.int .u32 x)) c1 f l):=by
 have hx:=bounds_u32 hwx
 obtain⟨k,rfl⟩:∃k:Nat,x=(k:Int):=⟨x.toNat,by omega⟩
 have hh:=has_true_of_atKey hat
 rw[hM.has,Znw]at hh
 obtain⟨⟨k',s⟩,hp,e⟩:=List.mem_map.1 hh
 obtain rfl:k'=k:=e
 have h1:=hM.at' _ hp (.lit (.int .i64 0))
 rw[hat]at h1
 have hv:v=(s:Int):=by simpa using h1
 have hb1:Below w.heap.size w w1:=h.bel.trans (Zat hg h.bel.size fun j hj=>by cases hj;exact Nat.le_refl _)
 have hlow:∀p∈es,(left (.int .u32 (p.1:Int))&& !(Lit.int .u32 (p.1:Int)).sameKey (.int .u32 (k':Int)))=false→left (.int .u32 (p.1:Int))=false∨p.2=s:=fun p hp' hf=>by
  rw[ZBc]at hf
  by_cases e:p.1=k'
  ·have h2:=hM.at' p hp' (.lit (.int .i64 0))
   rw[e,hat,hv]at h2
   right
   have:(s:Int)=(p.2:Int):=by simpa using h2
   omega
  ·left;simpa [e]using hf
 refine⟨k',s,rfl,hv,fun hlt=>⟨hrg,hb1,fun p hp' hf=>?_,.inl hp⟩,fun hlt=>⟨hrg,hb1,fun p hp' hf=>?_,h.one⟩⟩
 ·rcases hlow p hp' hf with h3|h3
  ·have:=h.low p hp' h3;omega
  ·omega
 ·rcases hlow p hp' hf with h3|h3
  ·exact h.low p hp' h3
  ·omega
theorem OlS.done{w wr:World}{b n nx c f l:Nat}{es:List (Nat×Nat)}{D:DataW Unit}{left:Lit→Bool}(h:OlS w wr b n nx es D left c f l)(hM:MpL D nx es)(hl:∀kl,left kl=false)(hne:es≠ []):f=(es.map Prod.fst).headD 0:=by
 match es,hne with
 |(k0,s0)::r,_=>
  have h1:=h.low (k0,s0) List.mem_cons_self (hl _)
  have h2:=hM.low (k0,s0) List.mem_cons_self
  have h3:=(List.pairwise_cons.1 hM.rise).1
  show f=k0
  rcases h.one with h4|h4
  ·rcases List.mem_cons.1 h4 with h5|h5
   ·exact(Prod.mk.inj h5).1
   ·have:=h3 _ h5
    simp only at this h1
    omega
  ·simp only at h1 h2;omega
theorem ZjQ(g b m N:Nat)(L:List Nat)(w:World)(h:CaAt w g b m N L)(hne:L≠ []):
  Calls Tryz.prog 129 #[.pointer (some ⟨g,0,none⟩)] w fun e w'=>e=.returned (.int .u32 ((L.headD 0:Nat):Int))∧Below w.heap.size w w':=by
 obtain⟨nx,es,D,hn,hk,ho,hM,hL⟩:=h.it
 have h1:=hk.at 1 rfl
 have h2:=hk.at 2 rfl
 have HO:=hide (OwnM.tu (F:=fun _=>False) ho (Zdz _ w) id)
 have HM:=hide hM
 have hes:es≠ []:=fun e=>hne (by rw[hL,e];rfl)
 have HE:=hide hes
 have HS:=hide (show∀w0,w0.ranges Tryz.prog 95 (plainElem Tryz.prog 3) b w.heap.size L.length D (Maps.has D) (Maps.size D)→w.drew.grownBy w0 none→OlS w w0 b L.length nx es D (Maps.has D) (Maps.size D) 0 nx from
  fun w0 hrg hg=>⟨hrg,(Below.refl _ _).drew.trans (Zat hg (Nat.le_refl _) fun j hj=>by cases hj),fun p hp hf=>by rw[hM.has,Zjp]at hf;exact absurd (List.mem_map.2 ⟨p,hp,rfl⟩) hf,.inr rfl⟩)
 rw[hL]at HO HS⊢
 generalize (es.map Prod.fst).length=n at*
 clear hk ho hM hL hes h hne
 go_enter Tryz.func129,Tryz.ntmps129
 go_wp2_with fail
 go_region_held (fun w'=>w'.cell? ⟨g,2,none⟩=some (.int .i64 (nx:Int))) (go_keep) (fail)
 go_wp2_with (first|(at_range;refine wpList_range_own _ rfl _ 224 rfl 95 3 ZpO Tryz.underlying224 _ b n D rfl (unhide HO) ?_;intro w0 hrg0 hg0 hs0;have HN0:=hide (unhide HS w0 hrg0 hg0);clear hrg0 hg0 hs0 HS HO))
 go_frame
 go_loopw [3,4] (fun t u wr=> ∃(f l c:Nat) (left:Lit→Bool),t=.int .u32 (f:Int)∧u=.int .i64 (l:Int)∧Hid (OlS w wr b n nx es D left c f l)) (fun _ _ wr=>wr.rangeLeft b w.heap.size)
 case atStart=>exact⟨0,nx,_,_,rfl,rfl,HN0⟩
 case round=>
  obtain⟨f,l,c,left,rfl,rfl,HN⟩:=hrel
  clear HN0 h1 h2
  have hrgm:=hide (unhide HN).rg.left_eq
  go_wp2_with (first|(at_next;refine wpList_next_ranges_ii _ rfl _ rfl 95 3 .u32 .i64 ZpO Tryz.underlying95 Tryz.underlying3 b w.heap.size n D left c rfl (unhide HN).rg ?_ ?_))
  ·intro _ hl
   have HD:=hide ((unhide HN).done (unhide HM) hl (unhide HE))
   have HB:=hide (unhide HN).bel
   clear HN hl hrgm
   go_wp2
   go_ret
   exact⟨ZaE (by rw[unhide HD]),unhide HB⟩
  ·intro x v w1 c1 hwx hwv hlx hat hrg1 hlt hg1 hs1 hen
   obtain⟨k,s,rfl,rfl,hyes,hno⟩:=(unhide HN).step (unhide HM) hwx hat hrg1 hg1
   clear hwx hwv hlx hat hrg1 hg1 hs1 HN
   by_cases hsl:s<l
   ·have HY:=hide (hyes hsl)
    have hd:(s:Int)<(l:Int):=by omega
    clear hyes hno hsl
    go_wp2
    go_roundw
    case rel=>exact⟨_,_,_,_,_,_,_,_,_,_,_,_,_,_,⟨k,s,c1,_,rfl,rfl,HY⟩,rfl⟩
    case measure=>rw[(unhide HY).rg.left_eq,unhide hrgm];omega
   ·have HY:=hide (hno hsl)
    have hd:(l:Int)≤(s:Int):=by omega
    clear hyes hno hsl
    go_wp2
    go_roundw
    case rel=>exact⟨_,_,_,_,_,_,_,_,_,_,_,_,_,_,⟨f,l,c1,_,rfl,rfl,HY⟩,rfl⟩
    case measure=>rw[(unhide HY).rg.left_eq,unhide hrgm];omega
end Go.Proofs.YtlhhinlghhjghaaGreatDoor
