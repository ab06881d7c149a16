/-
  Contracts of seen.keep, Clear, Fresh, of a cache that is there and of none. Conditions: fewer than 2^40 came.
  Contracts of Members.Hear, Alive, Inc, All, of members that are there and of none. No condition.
  Contract of frame.Decode: for every text of at most 2^20 bytes.
-/
import Derived.Test.YtlhhinlghhjghaaGreatDoorU42
import Derived.Test.YtlhhinlghhjghaaGreatDoorU20
import Derived.Test.YtlhhinlghhjghaaGreatDoorU39
namespace Go.Proofs.YtlhhinlghhjghaaGreatDoor
open Go.RowKit Go.Sort Go.Maps
set_option linter.unusedVariables false
set_option linter.unusedSimpArgs false
set_option maxRecDepth 4000
set_option maxHeartbeats 8000000
variable {D:DataW Unit}{L:List Nat}{b n x:Nat}{p:PD}{w:World}
theorem ZBr{nx:Nat}(h:OwnM w b n D)(hn:n≤1048576)(hx:x<4294967296)(hnx:nx≤1099511627776):
  ∃w',(Instr.mapUpdate 224 (.map (some b)) (.int .u32 (x:Int)) (.int .i64 (nx:Int))).run Tryz.prog w=.ok () w'∧OwnM w' b (n+1) (D.put (.int .u32 (x:Int)) (.lit (.int .i64 (nx:Int))))∧w.mapTurned w' b:=
 World.ownsMap.store h ZpO Tryz.underlying224 (by unfold maxLen;omega) (Zz6 hx) (plainElem_int Tryz.underlying3 (WalkArith.wf_i64 (by omega)))
theorem ZBB(h:OwnM w b n D)(hx:x<4294967296):
  ∃w',(∀ty,(Builtin.delete_ #[224,95] ty #[.map (some b),.int .u32 (x:Int)]).run Tryz.prog w=.ok (.tuple #[]) w')∧OwnM w' b n (D.del (.int .u32 (x:Int)))∧w.mapTurned w' b:=by
 obtain⟨w',hrun,r⟩:=World.ownsMap.drop h ZpO Tryz.underlying224 (Zz6 hx) 0
 exact⟨w',fun ty=>hrun,r⟩
theorem ZBE{y:Nat}(h:OwnM w b n D)(hh:Maps.has D (.int .u32 (y:Int))=true):y<4294967296:=by
 obtain⟨es,clock,hb,F,_,rfl⟩:=h
 rw[has_eq,List.any_eq_true]at hh
 obtain⟨p,hp,e⟩:=hh
 obtain⟨v,hv⟩:=fit_keys F p (mem_sorted.1 hp)
 rw[WideAt.sameKey_eq e]at hv
 obtain⟨x,_,e2,hw⟩:=Maps.keyOf_int_inv Tryz.underlying95 hv
 simp only[Lit.int.injEq,true_and]at e2
 subst e2
 have:=bounds_u32 hw
 omega
theorem Zhe{w1 w2:World}{g:Nat}(h:Tu (caF g b) w w1)(k:Tu (caF g b) w1 w2):Tu (caF g b) w w2:=h.trans k fun _ _ h=>h
theorem Tu.wide'{F G:Nat→Prop}{w':World}(h:Tu F w w')(hs:∀j,F j→G j):Tu G w w':=⟨h.os,h.tape,h.output,h.size,fun k hk hn=>h.block k hk fun hf=>hn (hs k hf)⟩
theorem ZkV{g m nx N:Nat}{es:List (Nat×Nat)}(hk:BkA 226 w g [.int .i64 (m:Int),.map (some b),.int .i64 (nx:Int)])(ho:OwnM w b n D)(hM:MpL D nx es)
  (hx:x<4294967296) (hx':x∉es.map Prod.fst) (hl:es.length<m) (hm:m≤256) (hN:nx≤N) (hN':N<1099511627776):
  ∃w4,(Instr.mapUpdate 224 (.map (some b)) (.int .u32 (x:Int)) (.int .i64 (nx:Int))).run Tryz.prog w.drew=.ok () w4∧BkA 226 w4 g [.int .i64 (m:Int),.map (some b),.int .i64 (nx:Int)]∧
   CaAt (w4.setCell ⟨g,2,none⟩ (.int .i64 ((nx+1:Nat):Int))) g b m (N+1) (es.map Prod.fst++[x])∧Tu (caF g b) w (w4.setCell ⟨g,2,none⟩ (.int .i64 ((nx+1:Nat):Int))):=by
 have ho1:OwnM w.drew b es.length D:=by have:=(ho.tu (F:=fun _=>False) (Zdz _ w) id).exact;rw[hM.size]at this;exact this
 have hgb:g≠b:=fun e=>ho.nocells _ _ _ (e▸hk)
 obtain⟨w4,hrun,ho4,ht4⟩:=ZBr ho1 (by omega) hx (nx:=nx) (by omega)
 have ht:=Zr1 ht4
 have hk4:BkA 226 w4 g [.int .i64 (m:Int),.map (some b),.int .i64 (nx:Int)]:=(show BkA 226 w.drew g _ from hk).tu ht hgb
 have hM4:=hM.put ho.tidy hx'
 refine⟨w4,hrun,hk4,⟨⟨nx+1,es++[(x,nx)],_,by omega,hk4.set 2 _,?_,hM4,by simp⟩,by simp;omega,hm⟩,?_⟩
 ·have:=ho4.tu (Zav w4 g 2 (.int .i64 ((nx+1:Nat):Int))) (fun e=>hgb e.symm)
  simpa using this
 ·exact(Zhe (Zdz _ w) (ht.wide' fun j e=>.inr e)).trans (Zav w4 g 2 _) fun j _ e=>.inl e
theorem ZqF(g b m N x:Nat)(L:List Nat)(w:World)(h:CaAt w g b m N L)(hx:x<4294967296)(hxL:x∉L)(hN:N<1099511627776):
  Calls Tryz.prog 74 #[.pointer (some ⟨g,0,none⟩),.int .u32 (x:Int)] w fun e w'=>e=.returned (.tuple #[])∧CaAt w' g b m (N+1) (ZhS m L x)∧Tu (caF g b) w w':=by
 obtain⟨nx,es,D,hn,hk,ho,hM,hL⟩:=h.it
 have hlen:=h.len
 have hmost:=h.most
 have k0:=hk.at 0 rfl
 have k1:=hk.at 1 rfl
 have k2:=hk.at 2 rfl
 have hLl:L.length=es.length:=by rw[hL,List.length_map]
 by_cases hm0:m=0
 ·subst hm0
  have HF:=hide (show CaAt w g b 0 (N+1) (ZhS 0 L x) from h.mono (Nat.le_succ _))
  clear h hk ho hM hL hlen hmost hLl
  go_enter Tryz.func74,Tryz.ntmps74
  go_wp2
  exact bodyPost_ret (v:=.tuple #[]) (by simp[results,Tryz.results74,go_sem]) rfl ⟨rfl,unhide HF,Tu.refl _ _⟩
 ·have hd0:((m:Int)==0)=false:=by simp;omega
  have hl:=World.ownsMap.len (OwnM.tu (F:=fun _=>False) ho (Zdz _ w) id) Tryz.underlying224 3
  rw[hM.size,←hLl]at hl
  by_cases hfull:L.length=m
  ·have hne:L≠ []:=fun e=>hm0 (by rw[←hfull,e];rfl)
   rw[hfull]at hl
   have HL:=hide (show ZhS m L x=L.tail++[x] by unfold ZhS;rw[if_neg hm0,if_pos hfull])
   match es,hM,hL,hLl with
   |[],_,hL,_=>exact absurd hL hne
   |(y,s)::r,hM,hL,hLl=>
    have hyL:L.headD 0=y:=by rw[hL];rfl
    have htl:L.tail=r.map Prod.fst:=by rw[hL];rfl
    have hxr:x∉r.map Prod.fst:=fun hh=>hxL (by rw[hL];exact List.mem_cons_of_mem _ hh)
    have HCA:=hide (h.tu (F:=fun _=>False) ((Zdz _ w).trans (Zdz _ w.drew) fun _ _ h=>h) id id)
    have hyl:y<4294967296:=by
     have h1:=hM.has y
     rw[show hasD (((y,s)::r).map Prod.fst) y=true from by simp[hasD]]at h1
     exact ZBE ho h1
    have HO:=hide ho
    have HK:=hide hk
    have HM:=hide (hM.del ho.tidy)
    rw[htl]at HL
    have HX:=hide hxr
    have HRL:=hide (show r.length<m by simp only[List.length_cons]at hLl;omega)
    have HNE:=hide hne
    have HYL:=hide hyL
    clear h hk ho hM hL hlen hfull hLl hxL hyL htl hxr hm0
    go_enter Tryz.func74,Tryz.ntmps74
    go_wp2_with fail
    go_region_held (fun w'=>w'.cell? ⟨g,0,none⟩=some (.int .i64 (m:Int))∧w'.cell? ⟨g,1,none⟩=some (.map (some b))) (go_keep) (fail)
    go_wp2_with fail
    go_region_held (fun w'=>w'.cell? ⟨g,1,none⟩=some (.map (some b))) (go_keep) (first
     |(go_at_call 129;refine(ZjQ g b m N L _ (unhide HCA) (unhide HNE)).mono ?_;rintro e w2 ⟨rfl,hb2⟩;rw[unhide HYL];obtain⟨w3,hdel,ho3,ht3⟩:=ZBB (OwnM.tu (F:=fun _=>False) (unhide HO) (Tu.of_below (show Below w.heap.size w w2 from((Below.refl _ _).drew.drew).trans hb2)) id) hyl;have HK2:=hide ((unhide HK).below (show Below w.heap.size w w2 from((Below.refl _ _).drew.drew).trans hb2));have q1:=(unhide HK2).at 1 rfl;have HO3:=hide ho3;have HT3:=hide (show Tu (caF g b) w w3 from Tu.after (show Below w.heap.size w w2 from((Below.refl _ _).drew.drew).trans hb2) ((Zr1 ht3).wide' fun j e=>.inr e));have HK3:=hide (show BkA 226 w3 g _ from(unhide HK2).tu (Zr1 ht3) (fun e=>(unhide HO).nocells _ _ _ (e▸unhide HK)));have y1:=(unhide HK3).at 1 rfl;clear hb2 ho3 ht3))
    have y2:=(unhide HK3).at 2 rfl
    obtain⟨w4,hup,hk4,hC4,hT4⟩:=ZkV (unhide HK3) (unhide HO3) (unhide HM) hx (unhide HX) (unhide HRL) hmost hn hN
    have z1:=hk4.at 1 rfl
    have z2:=hk4.at 2 rfl
    have z3:=hk4.frz 2
    have HC4:=hide hC4
    have HT4:=hide (Zhe (unhide HT3) hT4)
    clear hC4 hT4 hk4 HK3 HO3 HM HT3
    go_wp2_with fail
    go_region_held (fun w'=>w'.cell? ⟨g,1,none⟩=some (.map (some b))∧w'.cell? ⟨g,2,none⟩=some (.int .i64 (nx:Int))) (go_keep) (fail)
    go_wp2
    go_end0
    refine⟨rfl,?_,unhide HT4⟩
    rw[unhide HL]
    exact unhide HC4
  ·have HL:=hide (show ZhS m L x=es.map Prod.fst++[x] by unfold ZhS;rw[if_neg hm0,if_neg hfull,hL])
   have hd1:((L.length:Int)==(m:Int))=false:=by simp;omega
   obtain⟨w4,hup,hk4,hC4,hT4⟩:=ZkV (w:=w.drew) hk (ho.tu (F:=fun _=>False) (Zdz _ w) id) hM hx (by rw[←hL];exact hxL) (by omega) hmost hn hN
   have z1:=hk4.at 1 rfl
   have z2:=hk4.at 2 rfl
   have z3:=hk4.frz 2
   have HC4:=hide hC4
   have HT4:=hide (Zhe (Zdz _ w) hT4)
   generalize ZhS m L x=SL at*
   generalize L.length=q at*
   clear h hk ho hM hL hlen hfull hLl hxL hm0 hC4 hT4 hk4
   go_enter Tryz.func74,Tryz.ntmps74
   go_wp2_with fail
   go_region_held (fun w'=>w'.cell? ⟨g,0,none⟩=some (.int .i64 (m:Int))∧w'.cell? ⟨g,1,none⟩=some (.map (some b))) (go_keep) (fail)
   go_wp2_with fail
   go_region_held (fun w'=>w'.cell? ⟨g,1,none⟩=some (.map (some b))∧w'.cell? ⟨g,2,none⟩=some (.int .i64 (nx:Int))) (go_keep) (fail)
   go_wp2
   go_end0
   refine⟨rfl,?_,unhide HT4⟩
   rw[unhide HL]
   exact unhide HC4
theorem Zns(h:okD p=false)(m:Nat):Zbx L p=false∧Zgi m L p=L:=by
 have h1:Zbx L p=false:=by unfold Zbx;rw[h];rfl
 exact⟨h1,by unfold Zgi;rw[h1];rfl⟩
theorem Zka(h:hasD L (prD p)=true)(m:Nat):Zbx L p=false∧Zgi m L p=L:=by
 have h1:Zbx L p=false:=by unfold Zbx;rw[h];simp
 exact⟨h1,by unfold Zgi;rw[h1];rfl⟩
theorem Zkm(h:okD p=true)(h':hasD L (prD p)=false)(m:Nat):Zbx L p=true∧Zgi m L p=ZhS m L (prD p):=by
 have h1:Zbx L p=true:=by unfold Zbx;rw[h,h'];rfl
 exact⟨h1,by unfold Zgi;rw[h1];rfl⟩
theorem Zmt(g b m N:Nat)(L:List Nat)(p:PKV)(w:World)(h:CaAt w g b m N L)(hr:RowAt w p.r.a p.r.n p.r.xs)(hN:N<1099511627776):
  Calls Tryz.prog 32 #[.pointer (some ⟨g,0,none⟩),p.val] w fun e w'=>e=.returned (.bool (Zbx L p.pd))∧CaAt w' g b m (N+1) (Zgi m L p.pd)∧Tu (caF g b) w w':=by
 have hb0:Below w.heap.size w (w.alloc (.cells #[.int .i64 p.o,.int .i64 p.l,.int .i64 p.k,.int .i64 p.z,.int .i64 p.h,.slice p.r.a p.r.n p.r.c,.string p.r.s] 59)):=Zaf w _
 have HB0:=hide hb0
 have HK0:=hide (Zag 59 w [.int .i64 p.o,.int .i64 p.l,.int .i64 p.k,.int .i64 p.z,.int .i64 p.h,.slice p.r.a p.r.n p.r.c,.string p.r.s])
 have HCA:=hide (fun w1 (hb:Below w.heap.size w w1)=>h.below hb)
 have HR:=hide (fun w1 (hb:Below w.heap.size w w1)=>hr.below hb)
 have HCK:=hide (fun en hen w1 (hb:Below w.heap.size w w1)=>ZaR p.o p.l p.k p.z p.h p.r.a p.r.n p.r.c p.r.xs p.r.s w1 (hr.below hb) en hen)
 have HH:=hide (fun w1 (hb:Below w.heap.size w w1)=>Ztz g b m N L p w1 (h.below hb) (hr.below hb))
 have HP:=hide (fun w1 (hb:Below w.heap.size w w1)=>ZxT p w1 (hr.below hb))
 have HQ:=hide (fun(h3:hasD L (prD p.pd)=false) w1 (hb:Below w.heap.size w w1)=>ZqF g b m N (prD p.pd) L w1 (h.below hb) (Zyk _) (Zjp.1 h3) hN)
 cases hok:okD p.pd
 ·have HC:=hide (unhide HCK 1 (Zsp hok) _ hb0)
  rw[(Zns hok m).1,(Zns hok m).2]
  unfold PKV.val
  clear h hr hok HCK HH HP HQ HR hb0
  go_enter Tryz.func32,Tryz.ntmps32
  go_wp2_with (first|(go_at_call 72;refine(unhide HC).mono ?_;rintro e w1 ⟨rfl,hb1⟩;have HB1:=hide (below0 (unhide HB0) hb1);clear hb1)|fail)
  go_ret
  exact⟨rfl,(unhide HCA _ (unhide HB1)).mono (Nat.le_succ _),Tu.of_below (unhide HB1)⟩
 ·have HC:=hide (unhide HCK 0 (Zjh hok) _ hb0)
  cases hh:hasD L (prD p.pd)
  ·rw[(Zkm hok hh m).1,(Zkm hok hh m).2]
   rw[hh]at HH
   have HQ:=hide (unhide HQ hh)
   generalize ZhS m L (prD p.pd)=SL at*
   generalize prD p.pd=X at*
   unfold PKV.val at HH HP⊢
   clear h hr hok hh HCK HR hb0
   go_enter Tryz.func32,Tryz.ntmps32
   go_wp2_with (first
    |(go_at_call 72;refine(unhide HC).mono ?_;rintro e w1 ⟨rfl,hb1⟩;have HB1:=hide (below0 (unhide HB0) hb1);have K1:=(unhide HK0).below hb1;have HK1:=hide K1;have q0:=K1.at 0 rfl;have q1:=K1.at 1 rfl;have q2:=K1.at 2 rfl;have q3:=K1.at 3 rfl;have q4:=K1.at 4 rfl;have q5:=K1.at 5 rfl;have q6:=K1.at 6 rfl;clear hb1 K1)
    |(go_at_call 73;refine(unhide HH _ (unhide HB1)).mono ?_;rintro e w2 ⟨rfl,hb2⟩;have HB2:=hide (below0 (unhide HB1) hb2);have K2:=(unhide HK1).below hb2;have r0:=K2.at 0 rfl;have r1:=K2.at 1 rfl;have r2:=K2.at 2 rfl;have r3:=K2.at 3 rfl;have r4:=K2.at 4 rfl;have r5:=K2.at 5 rfl;have r6:=K2.at 6 rfl;clear hb2 K2 q0 q1 q2 q3 q4 q5 q6)
    |(go_at_call 75;refine(unhide HP _ (unhide HB2)).mono ?_;rintro e w3 ⟨rfl,hb3⟩;have HB3:=hide (below0 (unhide HB2) hb3);clear hb3)
    |(go_at_call 74;refine(unhide HQ _ (unhide HB3)).mono ?_;rintro e w4 ⟨rfl,hc4,ht4⟩;have HC4:=hide hc4;have HT4:=hide (show Tu (caF g b) w w4 from Tu.after (unhide HB3) ht4);clear hc4 ht4)
    |fail)
   go_ret
   exact⟨rfl,unhide HC4,unhide HT4⟩
  ·rw[(Zka hh m).1,(Zka hh m).2]
   rw[hh]at HH
   unfold PKV.val at HH⊢
   clear h hr hok hh HCK HP HQ HR hb0
   go_enter Tryz.func32,Tryz.ntmps32
   go_wp2_with (first
    |(go_at_call 72;refine(unhide HC).mono ?_;rintro e w1 ⟨rfl,hb1⟩;have HB1:=hide (below0 (unhide HB0) hb1);have K1:=(unhide HK0).below hb1;have q0:=K1.at 0 rfl;have q1:=K1.at 1 rfl;have q2:=K1.at 2 rfl;have q3:=K1.at 3 rfl;have q4:=K1.at 4 rfl;have q5:=K1.at 5 rfl;have q6:=K1.at 6 rfl;clear hb1 K1)
    |(go_at_call 73;refine(unhide HH _ (unhide HB1)).mono ?_;rintro e w2 ⟨rfl,hb2⟩;have HB2:=hide (below0 (unhide HB1) hb2);clear hb2 q0 q1 q2 q3 q4 q5 q6)
    |fail)
   go_ret
   exact⟨rfl,(unhide HCA _ (unhide HB2)).mono (Nat.le_succ _),Tu.of_below (unhide HB2)⟩
end Go.Proofs.YtlhhinlghhjghaaGreatDoor
namespace Go.Proofs.YtlhhinlghhjghaaGreatDoor
open Go.RowKit Go.Sort
set_option linter.unusedVariables false
set_option linter.unusedSimpArgs false
set_option maxRecDepth 4000
set_option maxHeartbeats 8000000
variable {s:ByteArray}{g en:Nat}{w:World}
theorem MbAt.hear{T:Int}{Z:List Int}(h:MbAt w g T Z){n:Nat}{i t:Int}(hn:n<8)(hb:ZdI Z (n:Int) i t=true):
  MbAt ((w.setCell ⟨g,1+n*2,none⟩ (.int .i64 i)).setCell ⟨g,1+n*2+1,none⟩ (.int .i64 (t+1))) g T (Zeo Z (n:Int) i t):=by
 refine⟨?_,h.inv.hear _ _ _,h.tm⟩
 have h1:=h.blk.set (1+n*2) (.int .i64 i)
 rw[Zsv]at h1
 have h2:=h1.set (1+n*2+1) (.int .i64 (t+1))
 rw[Nat.add_assoc,Zsv]at h2
 rw[Zki hb,Nat.add_assoc]
 exact h2
theorem ZuQ{Z:List Int}{x i t:Int}(hx:Zdo x=true)(ht:Zfw t=true):ZdI Z x i t=decide ((memO Z x).1≤i):=by
 unfold ZdI;rw[hx,ht];rfl
theorem ZBm{w1:World}{a b:Nat}{u v:Value}(h:Below w.heap.size w w1):Tu (fun j=>j=g) w ((w1.setCell ⟨g,a,none⟩ u).setCell ⟨g,b,none⟩ v):=
 Tu.after h ((Zav w1 g a u).trans (Zav _ g b v) fun _ _ e=>e)
theorem ZqH(g:Nat)(T:Int)(Z:List Int)(x i t:Int)(w:World)(h:MbAt w g T Z):
  Calls Tryz.prog 31 #[.pointer (some ⟨g,0,none⟩),.int .i64 x,.int .i64 i,.int .i64 t] w fun e w'=>e=.returned (.bool (ZdI Z x i t))∧MbAt w' g T (Zeo Z x i t)∧Tu (fun j=>j=g) w w':=by
 by_cases hx:Zdo x=true
 case neg=>
  have hx':Zdo x=false:=by simpa using hx
  have hq:ZdI Z x i t=false:=by unfold ZdI;rw[hx'];rfl
  rw[ZgA hq,hq]
  have H:=hide h
  clear h
  go_enter Tryz.func31,Tryz.ntmps31
  go_wp2_with (go_at_call 68;refine(Zck _ _).mono ?_;rintro e w1 ⟨rfl,hw1⟩;obtain rfl:=hw1.symm;clear hw1;rw[hx'])
  go_ret
  exact⟨rfl,unhide H,Tu.refl _ _⟩
 by_cases ht:Zfw t=true
 case neg=>
  have ht':Zfw t=false:=by simpa using ht
  have hq:ZdI Z x i t=false:=by unfold ZdI;rw[ht',Bool.and_false];rfl
  rw[ZgA hq,hq]
  have H:=hide h
  clear h
  go_enter Tryz.func31,Tryz.ntmps31
  go_wp2_with (first
   |(go_at_call 68;refine(Zck _ _).mono ?_;rintro e w1 ⟨rfl,hw1⟩;obtain rfl:=hw1.symm;clear hw1;rw[hx])
   |(go_at_call 69;refine(Zch _ _).mono ?_;rintro e w1 ⟨rfl,hw1⟩;obtain rfl:=hw1.symm;clear hw1;rw[ht']))
  go_ret
  exact⟨rfl,unhide H,Tu.refl _ _⟩
 have hq:=ZuQ (Z:=Z) (i:=i) hx ht
 obtain⟨n,hn,rfl⟩:=ZeQ hx
 have hm:=ZfU Z hn
 obtain⟨c0,c1⟩:=h.at hn
 have hn':(n:Int)<8:=by omega
 have H:=hide h
 by_cases hi:(memO Z (n:Int)).1≤i
 case neg=>
  have hq':ZdI Z (n:Int) i t=false:=by rw[hq];exact decide_eq_false hi
  rw[ZgA hq',hq']
  have hd:i<(memO Z (n:Int)).1:=by omega
  rw[hm]at hd
  clear h hq hm hi hq'
  simp only at hd
  generalize Z.getD (n*2) 0=a at*
  generalize Z.getD (n*2+1) 0=b at*
  have hdd:decide (i<a)=true:=decide_eq_true hd
  go_enter Tryz.func31,Tryz.ntmps31
  go_wp2_with (first
   |(go_at_call 68;refine(Zck _ _).mono ?_;rintro e w1 ⟨rfl,hw1⟩;obtain rfl:=hw1.symm;clear hw1;rw[hx])
   |(go_at_call 69;refine(Zch _ _).mono ?_;rintro e w1 ⟨rfl,hw1⟩;obtain rfl:=hw1.symm;clear hw1;rw[ht])
   |(go_at_call 70;refine(Zno a b _).mono ?_;rintro e w1 ⟨rfl,hb1⟩;have HB1:=hide hb1;clear hb1))
  go_ret
  exact⟨rfl,(unhide H).below (unhide HB1),Tu.of_below (unhide HB1)⟩
 have hq':ZdI Z (n:Int) i t=true:=by rw[hq];exact decide_eq_true hi
 have hd:¬i<(memO Z (n:Int)).1:=by omega
 rw[hm]at hd
 simp only at hd
 have HF:=hide (fun(wx:World) (hb:Below w.heap.size w wx)=>(h.below hb).hear hn hq')
 rw[hq']
 have HA:=hide (fun(wx:World) (hb:Below w.heap.size w wx)=>(show(wx.cell? ⟨g,1+n*2,none⟩=some (.int .i64 (Z.getD (n*2) 0))∧wx.cell? ⟨g,1+n*2+1,none⟩=some (.int .i64 (Z.getD (n*2+1) 0)))∧wx.frozen? ⟨g,1+n*2,none⟩=false∧wx.frozen? ⟨g,1+n*2+1,none⟩=false from
  ⟨(h.below hb).at hn,(h.below hb).blk.frz _,(h.below hb).blk.frz _⟩))
 generalize Zeo Z (n:Int) i t=Z' at*
 clear h hq hm hi hq' H
 generalize Z.getD (n*2) 0=a at*
 generalize Z.getD (n*2+1) 0=b at*
 have hdd:decide (i<a)=false:=decide_eq_false hd
 have htt:=ZgQ.1 ht
 have HN:=hide (fun wx=>Ztr i t htt wx)
 clear htt hd
 go_enter Tryz.func31,Tryz.ntmps31
 go_wp2_with (first
  |(go_at_call 68;refine(Zck _ _).mono ?_;rintro e w1 ⟨rfl,hw1⟩;obtain rfl:=hw1.symm;clear hw1;rw[hx])
  |(go_at_call 69;refine(Zch _ _).mono ?_;rintro e w1 ⟨rfl,hw1⟩;obtain rfl:=hw1.symm;clear hw1;rw[ht])
  |(go_at_call 70;refine(Zno a b _).mono ?_;rintro e w1 ⟨rfl,hb1⟩;have HB1:=hide hb1;clear hb1)
  |fail)
 clear c0 c1
 go_region_held3 (fun _=>True) (trivial) (first
  |(go_at_call 71;refine(unhide HN _).mono ?_;rintro e w2 ⟨rfl,hb2⟩;have HB2:=hide (below0 (unhide HB1).drew hb2);obtain⟨⟨c0,c1⟩,f0,f1⟩:=unhide HA _ (unhide HB2);clear hb2)
  |fail)
 go_wp2
 go_ret
 exact⟨rfl,unhide HF _ (unhide HB2),ZBm (unhide HB2)⟩
def DecG(w:World)(s:ByteArray)(e:Ending)(w':World):Prop:=
 ∃(kd fr ic o l k z h:Int) (a:Option Addr) (n c:Nat) (xs:List Nat) (t:ByteArray) (en:Nat),e=.returned (.tuple #[.agg #[.int .i64 kd,.int .i64 fr,.int .i64 ic,.int .i64 o,.int .i64 l,.int .i64 k,.int .i64 z,.int .i64 h,.slice a n c,.string t],.int .i64 ((en:Nat):Int)])∧
  RowAt w' a n xs∧NewA w a n∧ZfL s kd fr ic o l k z h xs t en∧Below w.heap.size w w'
theorem ZhP:FZ 0 0 0 0 0 0 0 0 [] ⟨#[]⟩:=⟨⟨rfl,rfl,rfl⟩,ZcX⟩
theorem ZdW{w':World}(h:ZfL s 0 0 0 0 0 0 0 0 [] ⟨#[]⟩ en)(hb:Below w.heap.size w w'):
  DecG w s (.returned (.tuple #[.agg #[.int .i64 0,.int .i64 0,.int .i64 0,.int .i64 0,.int .i64 0,.int .i64 0,.int .i64 0,.int .i64 0,.slice none 0 0,.string ⟨#[]⟩],.int .i64 ((en:Nat):Int)])) w':=
 ⟨0,0,0,0,0,0,0,0,none,0,0,[],⟨#[]⟩,en,rfl,ZbT _,Zhc _ _,h,hb⟩
theorem Zfc{T:ByteArray}{kd fr ic o l k z h:Int}{xs:List Nat}{t:ByteArray}(h0:openE s=0)(hT:openT s=T)(hd:Zlr T kd fr ic o l k z h xs t en):ZfL s kd fr ic o l k z h xs t en:=
 ⟨fun h=>absurd h0 h,fun _=>by rw[hT];exact hd⟩
theorem ZoW(s:ByteArray):openE s=0∨openE s=2∨openE s=4:=by
 unfold openE
 split
 ·exact .inr (.inl rfl)
 ·split
  ·exact .inl rfl
  ·exact .inr (.inr rfl)
theorem ZuU(s:ByteArray):(openT s).size≤s.size:=by
 unfold openT
 split
 ·unfold Zb6
  rw[ByteArray.size_extract]
  omega
 ·exact Nat.zero_le _
theorem ZyM{kd:Int}{o l k z h:Int}{xs:List Nat}{t:ByteArray}(hp:Zte kd s o l k z h xs t en):en=0∨en=2∨en=3:=by
 by_cases h1:kd=1
 ·by_cases h0:s.size=0
  ·exact .inl ((hp.1 h1).2 h0).1
  ·exact .inr (.inr ((hp.1 h1).1 h0).1)
 ·by_cases h2:kd=2
  ·rcases hp.2.1 h2 with h|h|h
   ·exact .inr (.inl h.2.1)
   ·exact .inr (.inr h.2.2.1)
   ·exact .inl h.2.2.1
  ·exact .inr (.inr (hp.2.2 h1 h2).1)
theorem ZyV{T:ByteArray}(h6:¬T.size<6)(h8:¬8≤hdF T){o l k z h:Int}{xs:List Nat}{t:ByteArray}{en:Nat}(hp:Zte (hdK T:Int) (Zfb T) o l k z h xs t en):
  (en≠0→Zlr T 0 0 0 0 0 0 0 0 [] ⟨#[]⟩ en)∧(en=0→Zlr T (hdK T) (hdF T) (hdI T) o l k z h xs t 0):=by
 have hsz:(Zfb T).size=T.size-6:=by unfold Zfb;rw[ByteArray.size_extract];omega
 by_cases h1:hdK T=1
 ·by_cases h0:(Zfb T).size=0
  ·obtain⟨e,hz⟩:=(hp.1 (by rw[h1];rfl)).2 h0
   refine⟨fun h=>absurd e h,fun _=>Zv4 h6 ?_ h1 rfl ⟨rfl,rfl,rfl⟩ hz⟩
   rintro(h|h|h)
   ·exact h8 h
   ·exact h.1 h1
   ·omega
  ·obtain⟨e,hz⟩:=(hp.1 (by rw[h1];rfl)).1 h0
   exact⟨fun _=>Zti h6 (.inr (.inr ⟨h1,by omega⟩)) e ZhP,fun h=>by omega⟩
 ·by_cases h2:hdK T=2
  ·have hd:=hp.2.1 (by rw[h2];rfl)
   have hb:¬badP T:=by
    rintro(h|h|h)
    ·exact h8 h
    ·exact h.2 h2
    ·exact h1 h.1
   refine⟨fun hn=>Zq6 h6 hb h1 ?_ (fun _=>⟨rfl,rfl,rfl⟩) (fun h=>absurd h hn),fun h0=>Zq6 h6 hb h1 (by rw[h0]at hd;exact hd) (fun h=>absurd rfl h) (fun _=>⟨rfl,rfl,rfl⟩)⟩
   rcases hd with h|h|h
   ·exact .inl ⟨h.1,h.2.1,ZcX⟩
   ·exact .inr (.inl ⟨h.1,h.2.1,h.2.2.1,ZcX⟩)
   ·exact absurd h.2.2.1 hn
  ·obtain⟨e,hz⟩:=hp.2.2 (by omega) (by omega)
   exact⟨fun _=>Zti h6 (.inr (.inl ⟨h1,h2⟩)) e ZhP,fun h=>by omega⟩
theorem Zbw{tmps:Array Value}{W:World}{x:Int}{u0 u1 u2 u3 u4 u5 u6 u7 u8 u9:Value}(h2:tmps.getD 2 undef=.pointer (some ⟨g,0,none⟩))(h3:tmps.getD 3 undef=.int .i64 x)(hq:FrB W g u0 u1 u2 u3 u4 u5 u6 u7 u8 u9):
  (results Tryz.f30 tmps).run Tryz.prog W=.ok (.tuple #[.agg #[u0,u1,u2,u3,u4,u5,u6,u7,u8,u9],.int .i64 x]) W:=by
 obtain⟨⟨k0,k1,k2⟩,k3,k4,k5,k6,k7,k8,k9⟩:=hq.at
 have h2':tmps[2]?.getD undef=.pointer (some ⟨g,0,none⟩):=by simpa using h2
 have h3':tmps[3]?.getD undef=.int .i64 x:=by simpa using h3
 simp[results,Tryz.results30,go_sem,h2',h3',k0,k1,k2,k3,k4,k5,k6,k7,k8,k9]
theorem Zk5(E:Nat)(hE:E=2∨E=4)(s:ByteArray)(w:World)(hs:s.size≤1048576)(ho:openE s=E):Calls Tryz.prog 30 #[.string s] w (DecG w s):=by
 have hO:=fun wx=>Zlh s wx hs
 rw[ho]at hO
 have HF:=hide (show ZfL s 0 0 0 0 0 0 0 0 [] ⟨#[]⟩ E from Zzg (by omega) ho.symm ZhP)
 have HO:=hide hO
 have X0:=hide (ZfJ w (.int .i64 0) (.int .i64 0) (.int .i64 0) (.int .i64 0) (.int .i64 0) (.int .i64 0) (.int .i64 0) (.int .i64 0) (.slice none 0 0) (.string ⟨#[]⟩))
 have B0:=hide (Zaf w (.cells #[.int .i64 0,.int .i64 0,.int .i64 0,.int .i64 0,.int .i64 0,.int .i64 0,.int .i64 0,.int .i64 0,.slice none 0 0,.string ⟨#[]⟩] 78))
 generalize openT s=T at*
 clear hs ho hO
 rcases hE with rfl|rfl
 all_goals
  go_enter Tryz.func30,Tryz.ntmps30
  go_wp2_with fail
  refine(unhide HO _).mono ?_
  rintro e w1 ⟨rfl,hb1⟩
  have X1:=hide ((unhide X0).below hb1)
  have B1:=hide (below0 (unhide B0) hb1)
  clear hb1 X0 B0 HO
  obtain⟨⟨k0,k1,k2⟩,k3,k4,k5,k6,k7,k8,k9⟩:=(unhide X1).at
  have f:=(unhide X1).frz
  go_wp2
  have q:=hide ((unhide X1).sets (.int .i64 0) (.int .i64 0) (.int .i64 0) (.int .i64 0) (.int .i64 0) (.int .i64 0) (.int .i64 0) (.int .i64 0) (.slice none 0 0) (.string ⟨#[]⟩))
  have b:=hide (ZfT (unhide B1) (Nat.le_refl _) (.int .i64 0) (.int .i64 0) (.int .i64 0) (.int .i64 0) (.int .i64 0) (.int .i64 0) (.int .i64 0) (.int .i64 0) (.slice none 0 0) (.string ⟨#[]⟩))
  exact bodyPost_ret (Zbw rfl rfl (unhide q)) rfl (ZdW (unhide HF) (unhide b))
theorem Zqn(s T:ByteArray)(w:World)(hO:∀wx,Calls Tryz.prog 64 #[.string s] wx fun e w'=>e=.returned (.tuple #[.string T,.int .i64 ((0:Nat):Int)])∧Below wx.heap.size wx w')(h6:T.size<6)(hd:ZfL s 0 0 0 0 0 0 0 0 [] ⟨#[]⟩ 2):
  Calls Tryz.prog 30 #[.string s] w (DecG w s):=by
 have HO:=hide hO
 have X0:=hide (ZfJ w (.int .i64 0) (.int .i64 0) (.int .i64 0) (.int .i64 0) (.int .i64 0) (.int .i64 0) (.int .i64 0) (.int .i64 0) (.slice none 0 0) (.string ⟨#[]⟩))
 have B0:=hide (Zaf w (.cells #[.int .i64 0,.int .i64 0,.int .i64 0,.int .i64 0,.int .i64 0,.int .i64 0,.int .i64 0,.int .i64 0,.slice none 0 0,.string ⟨#[]⟩] 78))
 have h6':(T.size:Int)<6:=by omega
 have HF:=hide hd
 clear h6 hO hd
 go_enter Tryz.func30,Tryz.ntmps30
 go_wp2_with fail
 refine(unhide HO _).mono ?_
 rintro e w1 ⟨rfl,hb1⟩
 have X1:=hide ((unhide X0).below hb1)
 have B1:=hide (below0 (unhide B0) hb1)
 clear hb1 X0 B0 HO
 obtain⟨⟨k0,k1,k2⟩,k3,k4,k5,k6,k7,k8,k9⟩:=(unhide X1).at
 have f:=(unhide X1).frz
 go_wp2
 have q:=hide ((unhide X1).sets (.int .i64 0) (.int .i64 0) (.int .i64 0) (.int .i64 0) (.int .i64 0) (.int .i64 0) (.int .i64 0) (.int .i64 0) (.slice none 0 0) (.string ⟨#[]⟩))
 have b:=hide (ZfT (unhide B1) (Nat.le_refl _) (.int .i64 0) (.int .i64 0) (.int .i64 0) (.int .i64 0) (.int .i64 0) (.int .i64 0) (.int .i64 0) (.int .i64 0) (.slice none 0 0) (.string ⟨#[]⟩))
 exact bodyPost_ret (Zbw rfl rfl (unhide q)) rfl (ZdW (en:=2) (unhide HF) (unhide b))
theorem ZwV(s T:ByteArray)(x0 x1 x2:Nat)(w:World)(hO:∀wx,Calls Tryz.prog 64 #[.string s] wx fun e w'=>e=.returned (.tuple #[.string T,.int .i64 ((0:Nat):Int)])∧Below wx.heap.size wx w')(h6:¬T.size<6)
  (hH:∀wx,Calls Tryz.prog 65 #[.string T] wx fun e w'=>e=.returned (.agg #[.int .i64 (x0:Int),.int .i64 (x1:Int),.int .i64 (x2:Int),.int .i64 0,.int .i64 0,.int .i64 0,.int .i64 0,.int .i64 0,.slice none 0 0,.string ⟨#[]⟩])∧Below wx.heap.size wx w') (h8:8≤x1) (hd:ZfL s 0 0 0 0 0 0 0 0 [] ⟨#[]⟩ 3):
  Calls Tryz.prog 30 #[.string s] w (DecG w s):=by
 have HO:=hide hO
 have HH:=hide hH
 have X0:=hide (ZfJ w (.int .i64 0) (.int .i64 0) (.int .i64 0) (.int .i64 0) (.int .i64 0) (.int .i64 0) (.int .i64 0) (.int .i64 0) (.slice none 0 0) (.string ⟨#[]⟩))
 have B0:=hide (Zaf w (.cells #[.int .i64 0,.int .i64 0,.int .i64 0,.int .i64 0,.int .i64 0,.int .i64 0,.int .i64 0,.int .i64 0,.slice none 0 0,.string ⟨#[]⟩] 78))
 have h6':¬((T.size:Int)<6):=by omega
 have h8':(8:Int)≤(x1:Int):=by omega
 have HF:=hide hd
 clear h6 h8 hO hH hd
 go_enter Tryz.func30,Tryz.ntmps30
 go_wp2_with fail
 refine(unhide HO _).mono ?_
 rintro e w1 ⟨rfl,hb1⟩
 have X1:=hide ((unhide X0).below hb1)
 have B1:=hide (below0 (unhide B0) hb1)
 clear hb1 X0 B0 HO
 go_wp2_with fail
 refine(unhide HH _).mono ?_
 rintro e w2 ⟨rfl,hb2⟩
 have X2:=hide ((unhide X1).below hb2)
 have B2:=hide (below0 (unhide B1) hb2)
 have hlt:=(unhide X2).lt
 clear hb2 X1 B1 HH
 have X3:=hide ((unhide X2).below (Zaf w2 (.cells #[.int .i64 (x0:Int),.int .i64 (x1:Int),.int .i64 (x2:Int),.int .i64 0,.int .i64 0,.int .i64 0,.int .i64 0,.int .i64 0,.slice none 0 0,.string ⟨#[]⟩] 78)))
 have B3:=hide (below0 (unhide B2) (Zaf w2 (.cells #[.int .i64 (x0:Int),.int .i64 (x1:Int),.int .i64 (x2:Int),.int .i64 0,.int .i64 0,.int .i64 0,.int .i64 0,.int .i64 0,.slice none 0 0,.string ⟨#[]⟩] 78)))
 have Y3:=hide (ZfJ w2 (.int .i64 (x0:Int)) (.int .i64 (x1:Int)) (.int .i64 (x2:Int)) (.int .i64 0) (.int .i64 0) (.int .i64 0) (.int .i64 0) (.int .i64 0) (.slice none 0 0) (.string ⟨#[]⟩))
 clear X2 B2
 iterate 7 (first|go_values|go_skip|go_guarded|go_step|go_upon|go_back|go_simp)
 generalize w2.alloc (.cells #[.int .i64 (x0:Int),.int .i64 (x1:Int),.int .i64 (x2:Int),.int .i64 0,.int .i64 0,.int .i64 0,.int .i64 0,.int .i64 0,.slice none 0 0,.string ⟨#[]⟩] 78)=w3 at*
 generalize w2.heap.size=g at*
 have m1:=(unhide Y3).at.1.2.1
 obtain⟨⟨k0,k1,k2⟩,k3,k4,k5,k6,k7,k8,k9⟩:=(unhide X3).at
 have f:=(unhide X3).frz
 go_wp2
 have q:=hide ((unhide X3).sets (.int .i64 0) (.int .i64 0) (.int .i64 0) (.int .i64 0) (.int .i64 0) (.int .i64 0) (.int .i64 0) (.int .i64 0) (.slice none 0 0) (.string ⟨#[]⟩))
 have b:=hide (ZfT (unhide B3) (Nat.le_refl _) (.int .i64 0) (.int .i64 0) (.int .i64 0) (.int .i64 0) (.int .i64 0) (.int .i64 0) (.int .i64 0) (.int .i64 0) (.slice none 0 0) (.string ⟨#[]⟩))
 exact bodyPost_ret (Zbw rfl rfl (unhide q)) rfl (ZdW (en:=3) (unhide HF) (unhide b))
theorem Zsh(s T:ByteArray)(x0 x1 x2:Nat)(w:World)(hs:T.size≤1048576)(hO:∀wx,Calls Tryz.prog 64 #[.string s] wx fun e w'=>e=.returned (.tuple #[.string T,.int .i64 ((0:Nat):Int)])∧Below wx.heap.size wx w')(h6:¬T.size<6)
  (hH:∀wx,Calls Tryz.prog 65 #[.string T] wx fun e w'=>e=.returned (.agg #[.int .i64 (x0:Int),.int .i64 (x1:Int),.int .i64 (x2:Int),.int .i64 0,.int .i64 0,.int .i64 0,.int .i64 0,.int .i64 0,.slice none 0 0,.string ⟨#[]⟩])∧Below wx.heap.size wx w') (h8:¬8≤x1)
  (hF:∀(o l k z h:Int) (xs:List Nat) (t:ByteArray) (en:Nat),Zte (x0:Int) (Zfb T) o l k z h xs t en→(en≠0→ZfL s 0 0 0 0 0 0 0 0 [] ⟨#[]⟩ en)∧(en=0→ZfL s (x0:Int) (x1:Int) (x2:Int) o l k z h xs t 0)):
  Calls Tryz.prog 30 #[.string s] w (DecG w s):=by
 have HO:=hide hO
 have HH:=hide hH
 have X0:=hide (ZfJ w (.int .i64 0) (.int .i64 0) (.int .i64 0) (.int .i64 0) (.int .i64 0) (.int .i64 0) (.int .i64 0) (.int .i64 0) (.slice none 0 0) (.string ⟨#[]⟩))
 have B0:=hide (Zaf w (.cells #[.int .i64 0,.int .i64 0,.int .i64 0,.int .i64 0,.int .i64 0,.int .i64 0,.int .i64 0,.int .i64 0,.slice none 0 0,.string ⟨#[]⟩] 78))
 have h6':¬((T.size:Int)<6):=by omega
 have h8':¬((8:Int)≤(x1:Int)):=by omega
 have hs6:(6:Int)≤(T.size:Int):=by omega
 have HF:=hide hF
 have HB:=hide (fun wx=>ZjO (x0:Int) (.int .i64 (x1:Int)) (.int .i64 (x2:Int)) (.int .i64 0) (.int .i64 0) (.int .i64 0) (.int .i64 0) (.int .i64 0) (.slice none 0 0) (.string ⟨#[]⟩) wx)
 have HR:=hide (fun wx=>Zxa (x0:Int) (.int .i64 0) (.int .i64 0) (.int .i64 0) (.int .i64 0) (.int .i64 0) (.slice none 0 0) (.string ⟨#[]⟩) (Zfb T) wx (by unfold Zfb;rw[ByteArray.size_extract];omega))
 have hrest:T.extract 6 T.size=Zfb T:=rfl
 clear h6 h8 hH hF hO hs
 generalize Zfb T=R at*
 generalize ZgI (x0:Int) (.int .i64 0) (.int .i64 0) (.int .i64 0) (.int .i64 0) (.int .i64 0) (.slice none 0 0) (.string ⟨#[]⟩)=V at*
 go_enter Tryz.func30,Tryz.ntmps30
 go_wp2_with fail
 refine(unhide HO _).mono ?_
 rintro e w1 ⟨rfl,hb1⟩
 have X1:=hide ((unhide X0).below hb1)
 have B1:=hide (below0 (unhide B0) hb1)
 clear hb1 X0 B0 HO
 go_wp2_with fail
 refine(unhide HH _).mono ?_
 rintro e w2 ⟨rfl,hb2⟩
 have X2:=hide ((unhide X1).below hb2)
 have B2:=hide (below0 (unhide B1) hb2)
 have hlt:=(unhide X2).lt
 clear hb2 X1 B1 HH
 have X3:=hide ((unhide X2).below (Zaf w2 (.cells #[.int .i64 (x0:Int),.int .i64 (x1:Int),.int .i64 (x2:Int),.int .i64 0,.int .i64 0,.int .i64 0,.int .i64 0,.int .i64 0,.slice none 0 0,.string ⟨#[]⟩] 78)))
 have B3:=hide (below0 (unhide B2) (Zaf w2 (.cells #[.int .i64 (x0:Int),.int .i64 (x1:Int),.int .i64 (x2:Int),.int .i64 0,.int .i64 0,.int .i64 0,.int .i64 0,.int .i64 0,.slice none 0 0,.string ⟨#[]⟩] 78)))
 have Y3:=hide (ZfJ w2 (.int .i64 (x0:Int)) (.int .i64 (x1:Int)) (.int .i64 (x2:Int)) (.int .i64 0) (.int .i64 0) (.int .i64 0) (.int .i64 0) (.int .i64 0) (.slice none 0 0) (.string ⟨#[]⟩))
 clear X2 B2
 iterate 7 (first|go_values|go_skip|go_guarded|go_step|go_upon|go_back|go_simp)
 generalize w2.alloc (.cells #[.int .i64 (x0:Int),.int .i64 (x1:Int),.int .i64 (x2:Int),.int .i64 0,.int .i64 0,.int .i64 0,.int .i64 0,.int .i64 0,.slice none 0 0,.string ⟨#[]⟩] 78)=w3 at*
 generalize w2.heap.size=g at*
 obtain⟨⟨k0,k1,k2⟩,k3,k4,k5,k6,k7,k8,k9⟩:=(unhide Y3).at
 go_wp2_with fail
 refine wp_region_any (by kernel_rfl) ?_
 change wpAny _ _ _ _ _ _ _ (World.drew _)
 refine wpAny_take (i:=2) (v:=?_) rfl (by kernel_rfl) (by kernel_rfl) (by kernel_rfl) (fun _ _ _ h=>h) (Or.inl ⟨by rfl,?f2⟩) ?_
 case f2=>(intro w;go_simp;try with_reducible rfl)
 refine wpAny_take (i:=3) (v:=?_) rfl (by kernel_rfl) (by kernel_rfl) (by kernel_rfl) (fun _ _ _ h=>h) (Or.inl ⟨by rfl,?f3⟩) ?_
 case f3=>(intro w;go_simp;try with_reducible rfl)
 refine wpAny_ready (rs:=[0]) (by kernel_rfl) (by simp) ?_
 refine AllReady.cons rfl (fun K hK=>?_) AllReady.nil
 go_simp
 refine hK _ _ ?_
 clear hK K k0 k1 k2 k3 k4 k5 k6 k7 k8 k9
 refine wpAny_ready (rs:=[1]) (by kernel_rfl) (by simp) ?_
 refine AllReady.cons rfl (fun K hK=>?_) AllReady.nil
 go_simp
 refine(unhide HB _).mono ?_
 rintro e w4 ⟨rfl,hb4⟩
 have b34:Below w3.heap.size w3 w4:=(Below.refl _ _).drew.trans hb4
 have X4:=hide ((unhide X3).below b34)
 have Y4:=hide ((unhide Y3).below b34)
 have B4:=hide (below0 (unhide B3) b34)
 clear hb4 b34 X3 Y3 B3 HB
 refine hK _ _ ?_
 clear hK K
 refine wpAny_ready (rs:=[4]) (by kernel_rfl) (by simp) ?_
 refine AllReady.cons rfl (fun K hK=>?_) AllReady.nil
 go_simp
 refine(unhide HR _).mono ?_
 rintro e w5 ⟨o,l,k,z,h,a,n,c,xs,t,en,rfl,hr,hna,hrd,hb5⟩
 have HNA:=hide (hna.mono (unhide B4).size)
 have X5:=hide ((unhide X4).below hb5)
 have Y5:=hide ((unhide Y4).below hb5)
 have B5:=hide (below0 (unhide B4) hb5)
 have R5:=hide hr
 have HEN:=hide (ZyM hrd)
 have HRD:=hide (unhide HF _ _ _ _ _ _ _ _ hrd)
 clear hb5 X4 Y4 B4 HR hr hna hrd HF
 refine hK _ _ ?_
 clear hK K
 refine wpAny_take (i:=5) (v:=?_) rfl (by kernel_rfl) (by kernel_rfl) (by kernel_rfl) (fun _ _ _ h=>h) (Or.inl ⟨by rfl,?f5⟩) ?_
 case f5=>(intro w;go_simp;try with_reducible rfl)
 refine wpAny_take (i:=6) (v:=?_) rfl (by kernel_rfl) (by kernel_rfl) (by kernel_rfl) (fun _ _ _ h=>h) (Or.inl ⟨by rfl,?f6⟩) ?_
 case f6=>(intro w;go_simp;try with_reducible rfl)
 refine wpAny_take (i:=7) (v:=?_) rfl (by kernel_rfl) (by kernel_rfl) (by kernel_rfl) (fun _ _ _ h=>h) (Or.inl ⟨by rfl,?f7⟩) ?_
 case f7=>(intro w;go_simp;try with_reducible rfl)
 refine wpAny_take (i:=8) (v:=?_) rfl (by kernel_rfl) (by kernel_rfl) (by kernel_rfl) (fun _ _ _ h=>h) (Or.inl ⟨by rfl,?f8⟩) ?_
 case f8=>(intro w;go_simp;try with_reducible rfl)
 obtain⟨⟨m0,m1,m2⟩,m3,m4,m5,m6,m7,m8,m9⟩:=(unhide Y5).at
 have mf:=(unhide Y5).frz
 refine wpAny_ready (rs:=[9]) (by kernel_rfl) (by simp) ?_
 refine AllReady.cons rfl (fun K hK=>?_) AllReady.nil
 go_simp
 refine hK _ _ ?_
 clear hK K
 refine wpAny_take (i:=10) (v:=?_) rfl (by kernel_rfl) (by kernel_rfl) (by kernel_rfl) (fun _ _ _ h=>h) (Or.inl ⟨by rfl,?f10⟩) ?_
 case f10=>(intro w;go_simp;try with_reducible rfl)
 refine wpAny_done (by kernel_rfl) ?_ _
 clear m0 m1 m2 m3 m4 m5 m6 m7 m8 m9 mf
 have Y6:=hide ((unhide Y5).setp (.int .i64 o) (.int .i64 l) (.int .i64 k) (.int .i64 z) (.int .i64 h) (.slice a n c) (.string t))
 have X6:=hide ((unhide X5).otherp (Nat.ne_of_lt hlt) (.int .i64 o) (.int .i64 l) (.int .i64 k) (.int .i64 z) (.int .i64 h) (.slice a n c) (.string t))
 have B6:=hide (ZAZ (unhide B5) (Nat.le_of_lt hlt) (.int .i64 o) (.int .i64 l) (.int .i64 k) (.int .i64 z) (.int .i64 h) (.slice a n c) (.string t))
 have R6:=hide ((unhide R5).otherP ((unhide Y5).apart (unhide R5)) (.int .i64 o) (.int .i64 l) (.int .i64 k) (.int .i64 z) (.int .i64 h) (.slice a n c) (.string t))
 clear X5 Y5 B5 R5
 change Exit.then _ _ _ _ (setP w5 g (.int .i64 o) (.int .i64 l) (.int .i64 k) (.int .i64 z) (.int .i64 h) (.slice a n c) (.string t))
 generalize setP w5 g (.int .i64 o) (.int .i64 l) (.int .i64 k) (.int .i64 z) (.int .i64 h) (.slice a n c) (.string t)=w6 at*
 obtain⟨⟨k0,k1,k2⟩,k3,k4,k5,k6,k7,k8,k9⟩:=(unhide X6).at
 have f:=(unhide X6).frz
 rcases(unhide HEN)with rfl|rfl|rfl
 ·obtain⟨⟨m0,m1,m2⟩,m3,m4,m5,m6,m7,m8,m9⟩:=(unhide Y6).at
  have HP:=hide ((unhide HRD).2 rfl)
  clear HRD HEN
  go_wp2
  have q:=hide ((unhide X6).sets (.int .i64 (x0:Int)) (.int .i64 (x1:Int)) (.int .i64 (x2:Int)) (.int .i64 o) (.int .i64 l) (.int .i64 k) (.int .i64 z) (.int .i64 h) (.slice a n c) (.string t))
  have b:=hide (ZfT (unhide B6) (Nat.le_refl _) (.int .i64 (x0:Int)) (.int .i64 (x1:Int)) (.int .i64 (x2:Int)) (.int .i64 o) (.int .i64 l) (.int .i64 k) (.int .i64 z) (.int .i64 h) (.slice a n c) (.string t))
  have r:=hide ((unhide R6).other10 ((unhide X6).apart (unhide R6)) (.int .i64 (x0:Int)) (.int .i64 (x1:Int)) (.int .i64 (x2:Int)) (.int .i64 o) (.int .i64 l) (.int .i64 k) (.int .i64 z) (.int .i64 h) (.slice a n c) (.string t))
  exact bodyPost_ret (Zbw rfl rfl (unhide q)) rfl ⟨_,_,_,o,l,k,z,h,a,n,c,xs,t,0,rfl,unhide r,unhide HNA,unhide HP,unhide b⟩
 ·have HP:=hide ((unhide HRD).1 (by decide))
  clear HRD HEN
  go_wp2
  have q:=hide ((unhide X6).sets (.int .i64 0) (.int .i64 0) (.int .i64 0) (.int .i64 0) (.int .i64 0) (.int .i64 0) (.int .i64 0) (.int .i64 0) (.slice none 0 0) (.string ⟨#[]⟩))
  have b:=hide (ZfT (unhide B6) (Nat.le_refl _) (.int .i64 0) (.int .i64 0) (.int .i64 0) (.int .i64 0) (.int .i64 0) (.int .i64 0) (.int .i64 0) (.int .i64 0) (.slice none 0 0) (.string ⟨#[]⟩))
  exact bodyPost_ret (Zbw rfl rfl (unhide q)) rfl (ZdW (en:=2) (unhide HP) (unhide b))
 ·have HP:=hide ((unhide HRD).1 (by decide))
  clear HRD HEN
  go_wp2
  have q:=hide ((unhide X6).sets (.int .i64 0) (.int .i64 0) (.int .i64 0) (.int .i64 0) (.int .i64 0) (.int .i64 0) (.int .i64 0) (.int .i64 0) (.slice none 0 0) (.string ⟨#[]⟩))
  have b:=hide (ZfT (unhide B6) (Nat.le_refl _) (.int .i64 0) (.int .i64 0) (.int .i64 0) (.int .i64 0) (.int .i64 0) (.int .i64 0) (.int .i64 0) (.int .i64 0) (.slice none 0 0) (.string ⟨#[]⟩))
  exact bodyPost_ret (Zbw rfl rfl (unhide q)) rfl (ZdW (en:=3) (unhide HP) (unhide b))
theorem ZqM(s:ByteArray)(w:World)(hs:s.size≤1048576):Calls Tryz.prog 30 #[.string s] w (DecG w s):=by
 rcases ZoW s with h0|h0|h0
 ·have hO:=fun wx=>Zlh s wx hs
  have hTs:=ZuU s
  obtain⟨T,hT⟩:∃T,openT s=T:=⟨_,rfl⟩
  rw[h0,hT]at hO
  rw[hT]at hTs
  by_cases h6:T.size<6
  ·exact Zqn s T w hO h6 (Zfc h0 hT (Zvl h6 rfl ZhP))
  ·have hH:=fun wx=>ZsG T (by omega) wx
   by_cases h8:8≤hdF T
   ·exact ZwV s T _ _ _ w hO h6 hH h8 (Zfc h0 hT (Zti h6 (.inl h8) rfl ZhP))
   ·refine Zsh s T _ _ _ w (by omega) hO h6 hH h8 fun o l k z h xs t en hp=>?_
    have:=ZyV h6 h8 hp
    exact⟨fun h=>Zfc h0 hT (this.1 h),fun h=>Zfc h0 hT (this.2 h)⟩
 ·exact Zk5 2 (.inl rfl) s w hs h0
 ·exact Zk5 4 (.inr rfl) s w hs h0
end Go.Proofs.YtlhhinlghhjghaaGreatDoor
