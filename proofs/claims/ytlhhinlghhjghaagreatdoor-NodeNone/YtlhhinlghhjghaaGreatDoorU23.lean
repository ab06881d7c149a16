/-
  Contract of Buffer.Put.
  Contracts of Buffer.All, bucketlineref07.Vecs.
  Plain mathematics of mixing packets: those at the places that are there ('selD'), the packet that they make ('mixD'); it may be, where they may ('mix_ok'). No condition.
-/
import Derived.Test.YtlhhinlghhjghaaGreatDoorU22
import Derived.Test.YtlhhinlghhjghaaGreatDoorU20
import Derived.Test.YtlhhinlghhjghaaGreatDoorU1
namespace Go.Proofs.YtlhhinlghhjghaaGreatDoor
open Go.RowKit Go.Sort
set_option linter.unusedVariables false
set_option linter.unusedSimpArgs false
set_option maxRecDepth 4000
set_option maxHeartbeats 8000000
def PKV.cop(p:PKV)(a2:Option Addr)(c2:Nat):PKV:=⟨p.o,p.l,p.k,p.z,p.h,⟨a2,p.r.n,c2,p.r.xs,p.r.s⟩⟩
def PutB(w w':World)(g B m:Nat)(v:Value)(ps:List PKV)(p:PKV)(e:Ending):Prop:=
 e=.returned (.bool (Zdm m (ps.map PKV.pd) p.pd))∧∃v' ps',BfAt w' g B m v' ps'∧ps'.map PKV.pd=bput m (ps.map PKV.pd) p.pd∧Tu (bfF g v) w w'∧MvB w v v'
theorem Zf2{ops:Array Oper}{o:Oper}{a:Act}{w:World}{K:Act→World→Prop}{Q:Exit→Act→World→Prop}{E:Prop}(hgd:o.guard=none)(s x:Operand)
  (ho:o.op=.call {callee:=.builtin .append,args:=#[s,x],argTypes:=#[53,53]}) (B:Nat) (v:Value) (ps:List PKV) (p:PKV) (hs:a.eval s=v) (hown:OwnP w B v ps) (b:Nat)
  (hx:a.eval x=.slice (some ⟨b,0,none⟩) 1 1) (hb:w.heap[b]? =some (.cells #[.int .i64 p.o,.int .i64 p.l,.int .i64 p.k,.int .i64 p.z,.int .i64 p.h,.slice p.r.a p.r.n p.r.c,.string p.r.s] 59 (0,0))) (hn:ps.length≤1000000) (hB:B≤w.heap.size)
  (h:∀g cap w',OwnP w' B (.slice (some ⟨g,0,none⟩) (ps.length+1) cap) (ps++[p])→w.grownBy w' v.ownBlock→(v.ownBlock=some g∨g=w.heap.size)→K (a.put o.dst (.slice (some ⟨g,0,none⟩) (ps.length+1) cap)) w'):
  if Region.wanted o (yielded ops a.tmps)=true then Oper.wp Tryz.prog o a w K Q else E:=by
 obtain⟨i0,hi,hz0,hz1,hz2⟩:=info_parts ZeO
 refine step_append_lies w hgd s x 53 ho B 59 i0 _ 7 80 Tryz.underlying53 hi hz0 hz1 hz2 rfl (by decide) v ps.length (cellsK ps) hs hown ⟨b,0,none⟩ 1 1 p.cells hx rfl
  (World.news_of_block hb) (Zd7 p) (by decide) (by unfold maxLen;omega) (by omega) hB _ rfl (fun g cap w' h2 h3 h4 _=>h g cap w' ?_ h3 h4)
 show w'.ownsRow B 59 7 _ (ps++[p]).length (cellsK (ps++[p]))
 rw[List.length_append,ZbI,show cellsK [p]=p.cells from List.append_nil _]
 exact h2
theorem Zon{w Y w5 X w6:World}{g B m:Nat}{v vY:Value}{ps psY:List PKV}{p:PKV}{a2:Option Addr}{c2 g2 cap:Nat}(hS:BfAt Y g B m vY psY)(htY:Tu (bfF g v) w Y)(hm:MvB w v vY)(hd5:Below Y.heap.size Y w5)(ho5:Own w5 Y.drew.heap.size (.slice a2 p.r.n c2) p.r.xs)
  (hX:Below w5.heap.size w5 X) (ho6:OwnP w6 B (.slice (some ⟨g2,0,none⟩) (psY.length+1) cap) (psY++[p.cop a2 c2])) (hg6:X.grownBy w6 vY.ownBlock) (hat:vY.ownBlock=some g2∨g2=X.heap.size)
  (hL:psY.map PKV.pd=leftD m (ps.map PKV.pd)) (hT:Zdm m (ps.map PKV.pd) p.pd=true) (hI:BInv m (ps.map PKV.pd)) (hsm:smalls p.r.xs):
  PutB w (w6.setCell ⟨g,1,none⟩ (.slice (some ⟨g2,0,none⟩) (psY.length+1) cap)) g B m v ps p (.returned (.bool true)):=by
 have hb:bput m (ps.map PKV.pd) p.pd=(psY++[p.cop a2 c2]).map PKV.pd:=by
  unfold bput
  rw[if_pos hT,List.map_append,hL]
  rfl
 have hSX:=(hS.below hd5).below hX
 have ht:Tu (fun j=>vY.ownBlock=some j) X w6:=Tu.of_gb hg6 fun j _ e=>e
 have hi2:=hI.put (p:=p.pd) hsm
 rw[hb]at hi2
 have hmv:MvB X vY (.slice (some ⟨g2,0,none⟩) (psY.length+1) cap):=by
  rcases hat with e|e
  ·exact .inl (by rw[e];rfl)
  ·refine .inr fun j hj=>?_
   obtain rfl:g2=j:=Option.some.inj hj
   omega
 have hown:OwnKs X B (psY++[p.cop a2 c2]):=hSX.rows.snoc ((ho5.below hX).mono (Nat.le_trans hS.lob (Nat.le_refl _)))
 obtain⟨r1,r2⟩:=hSX.puts ht ho6 (hown.tu ht fun j cur hc e=>hSX.words j cur hc (.inr e)) hi2 hmv
 refine⟨by rw[hT],_,_,r1,hb.symm,?_,?_⟩
 ·refine ZrM (htY.then (below0 hd5 hX)) r2 hm
 ·exact hm.trans (hmv.new (Nat.le_trans hd5.size hX.size)) htY.size
theorem Zsr(g B m:Nat)(v:Value)(ps:List PKV)(p:PKV)(w:World)(ht:Tab w)(h:BfAt w g B m v ps)(hr:∀w',Tu (bfF g v) w w'→RowAt w' p.r.a p.r.n p.r.xs)(hn:p.r.n≤10)(hs:p.r.s.size≤1000):
  Calls Tryz.prog 362 #[.pointer (some ⟨g,0,none⟩),p.val] w fun e w'=>PutB w w' g B m v ps p e:=by
 have hb0:=ZgM w p
 have hB:=h.below hb0
 have hln:=h.len
 have hx:BkA 59 (w.alloc (.cells #[.int .i64 p.o,.int .i64 p.l,.int .i64 p.k,.int .i64 p.z,.int .i64 p.h,.slice p.r.a p.r.n p.r.c,.string p.r.s] 59)) w.heap.size p.cells:=Zag 59 w p.cells
 have HTA0:=Zmg g B m v ps p _ (ht.below hb0) hB (hr _ (Tu.of_below hb0)) hn
 unfold PKV.val at HTA0⊢
 have HTA:=hide HTA0
 clear HTA0
 have hgw:=h.lt
 have HI:=hide h.inv
 have HSM:Hid (smalls p.r.xs):=hide (hr w (Tu.refl _ _)).2.1
 have HNB:Hid (¬bfF g v w.heap.size):=hide fun hf=>by
  rcases hf with e|e
  ·omega
  ·have:=(World.ownsRow.lt h.own _ e).2;omega
 have HR:=hide hr
 have HB0:=hide hb0
 generalize hW:w.alloc (.cells #[.int .i64 p.o,.int .i64 p.l,.int .i64 p.k,.int .i64 p.z,.int .i64 p.h,.slice p.r.a p.r.n p.r.c,.string p.r.s] 59)=W at*
 have HX:=hide hx
 have HS0:=hide hB
 obtain⟨q0,q1,q2,q3,q4,q5,q6⟩:PkAt W w.heap.size (.int .i64 p.o) (.int .i64 p.l) (.int .i64 p.k) (.int .i64 p.z) (.int .i64 p.h) (.slice p.r.a p.r.n p.r.c) (.string p.r.s):=⟨hx.at 0 rfl,hx.at 1 rfl,hx.at 2 rfl,hx.at 3 rfl,hx.at 4 rfl,hx.at 5 rfl,hx.at 6 rfl⟩
 have HBX:Hid (∀Y,Tu (bfF g v) W Y→PkAt Y w.heap.size (.int .i64 p.o) (.int .i64 p.l) (.int .i64 p.k) (.int .i64 p.z) (.int .i64 p.h) (.slice p.r.a p.r.n p.r.c) (.string p.r.s)):=hide fun Y hY=>by
  have hk:=(unhide HX).tu hY (unhide HNB)
  exact⟨hk.at 0 rfl,hk.at 1 rfl,hk.at 2 rfl,hk.at 3 rfl,hk.at 4 rfl,hk.at 5 rfl,hk.at 6 rfl⟩
 clear h hB hb0 hx hr ht
 go_enter Tryz.func362,Tryz.ntmps362
 go_wp2_with fail
 refine(unhide HTA).mono ?_
 rintro e w1 ⟨rfl,hb1⟩
 have HB1:=hide hb1
 clear HTA q0 q1 q2 q3 q4 q5 q6
 cases hT:Zdm m (ps.map PKV.pd) p.pd
 ·have HT:=hide hT
  clear hT hb1
  go_wp2
  go_ret
  have hbw:=below0 (unhide HB0) (unhide HB1)
  exact⟨by rw[unhide HT];rfl,v,ps,(unhide HS0).below (unhide HB1),by unfold bput;rw[if_neg (by rw[unhide HT];decide)],Tu.of_below hbw,MvB.refl _ _⟩
 have HT:=hide hT
 have hS1:=(unhide HS0).below hb1
 have HS1:=hide hS1
 obtain⟨d0,d1⟩:=hS1.cells (Below.refl _ _)
 obtain⟨a,c,hv, -, -, -⟩:=hS1.at
 have hm0:=(ZiJ hT).1
 clear hb1 hS1 hT
 by_cases hfull:ps.length=m
 ·have hps0:0<ps.length:=by omega
  obtain⟨gp,cp,hvv⟩:∃gp cp,v=.slice (some ⟨gp,0,none⟩) ps.length cp:=by
   rcases(unhide HS0).own.2 with⟨_,e⟩|⟨gp,cp,_,e,_⟩
   ·omega
   ·exact⟨gp,cp,e⟩
  subst hvv
  clear hv
  have hde:((ps.length:Int)==(m:Int))=true:=by rw[beq_iff_eq];omega
  have hgi:=(Zda (ps.map PKV.pd) ps.length hps0).1
  have hsD:BfAt w1.drew g B m (.slice (some ⟨gp,0,none⟩) ps.length cp) ps:=(unhide HS1).below (Below.refl _ _).drew
  have HTG:=hide (ZoJ g B m _ ps w1.drew hsD hps0)
  have HLf:Hid ((ps.eraseIdx (goesTo (ps.map PKV.pd) ps.length)).map PKV.pd=leftD m (ps.map PKV.pd)):=hide (by unfold leftD;rw[List.length_map,if_pos (by omega),Zlq])
  have HIL:Hid (BInv m ((ps.eraseIdx (goesTo (ps.map PKV.pd) ps.length)).map PKV.pd)):=hide (by
   rw[unhide HLf]
   have hI:=unhide HI
   exact⟨by have:=(ZnM (m:=m) hI.le hm0).1;omega,fun q hq=>hI.ok q (ZbS q hq),fun q hq r hr=>hI.alk q (ZbS q hq) r (ZbS r hr),fun q hq=>hI.sm q (ZbS q hq)⟩)
  have HDE:=hide (fun(wx:World) (ho:OwnP wx B (.slice (some ⟨gp,0,none⟩) ps.length cp) ps)=>Zus B gp cp (goesTo (ps.map PKV.pd) ps.length) ps wx ho hgi hln.2)
  have hgb:goesTo (ps.map PKV.pd) ps.length≤256:=by omega
  have HEL:Hid ((ps.eraseIdx (goesTo (ps.map PKV.pd) ps.length)).length=ps.length-1):=hide (List.length_eraseIdx_of_lt hgi)
  have HES:Hid (∀q∈ps.eraseIdx (goesTo (ps.map PKV.pd) ps.length),q∈ps):=hide fun q hq=>List.mem_of_mem_eraseIdx hq
  have HSD:=hide hsD
  clear hsD hgi hfull
  generalize goesTo (ps.map PKV.pd) ps.length=G at*
  generalize ps.eraseIdx G=es at*
  go_wp2
  go_region_held3 (fun w'=>w'.cell? ⟨g,0,none⟩=some (.int .i64 (m:Int))∧w'.cell? ⟨g,1,none⟩=some (.slice (some ⟨gp,0,none⟩) ps.length cp)) (go_keep) (fail)
  go_wp2_with fail
  refine(unhide HTG).mono ?_
  rintro e w2 ⟨rfl,hb2⟩
  have hS2:=(unhide HSD).below hb2
  have HS2:=hide hS2
  obtain⟨y0,y1⟩:=hS2.cells (Below.refl _ _)
  have HDD:=hide (unhide HDE w2 hS2.own)
  have HB2:=hide (show Below W.heap.size W w2 from below0 (below0 (unhide HB1) (Below.refl _ _).drew) hb2)
  clear hb2 hS2 HTG HSD HDE d0 d1
  go_wp2_with fail
  refine(unhide HDD).mono ?_
  rintro e w3 ⟨rfl,ho3,hg3⟩
  have ht3:Tu (fun j=>(Value.slice (some ⟨gp,0,none⟩) ps.length cp).ownBlock=some j) w2 w3:=Tu.of_gb hg3 fun j _ e=>e
  have hmv3:MvB w2 (.slice (some ⟨gp,0,none⟩) ps.length cp) (.slice (some ⟨gp,0,none⟩) (ps.length-1) cp):=.inl rfl
  have hkk:=(unhide HS2).blk.kept hg3 (fun e=>(unhide HS2).blk.neP (unhide HS2).own (by decide) e.symm)
  have y2:=hkk.at 1 rfl
  have yf:=hkk.frz 1
  have HPU:=hide ((unhide HS2).puts ht3 ho3 (((unhide HS2).rows.sub (unhide HES)).tu ht3 fun j cur hc e=>(unhide HS2).words j cur hc (.inr e)) (unhide HIL) hmv3)
  clear ho3 hg3 ht3 hkk HDD y0 y1
  go_wp2_with fail
  generalize hY:w3.setCell ⟨g,1,none⟩ (.slice (some ⟨gp,0,none⟩) (ps.length-1) cp)=Y at*
  obtain⟨hSY,htY⟩:=unhide HPU
  have HTY:=hide (htY.after (below0 (unhide HB0) (unhide HB2)))
  have HMV:Hid (MvB w (.slice (some ⟨gp,0,none⟩) ps.length cp) (.slice (some ⟨gp,0,none⟩) (ps.length-1) cp)):=hide (hmv3.new (below0 (unhide HB0) (unhide HB2)).size)
  have HS:=hide hSY
  have HCO0:=ZhQ p Y.drew ((unhide HR _ (unhide HTY)).below (Below.refl _ _).drew) (by omega) (by omega)
  unfold PKV.val at HCO0
  have HCO:=hide HCO0
  clear HCO0
  obtain⟨q0,q1,q2,q3,q4,q5,q6⟩:=unhide HBX Y (htY.after (unhide HB2))
  obtain⟨z0,zz1⟩:=hSY.cells (Below.refl _ _)
  have hesl:es.length=ps.length-1:=unhide HEL
  have HLN:Hid (es.length≤1000000):=hide (by omega)
  have HNE:Hid (some g≠(Value.slice (some ⟨gp,0,none⟩) (ps.length-1) cp).ownBlock):=hide fun e=>hSY.blk.neP hSY.own (by decide) e.symm
  have HL:=HLf
  clear hSY htY hY HPU hesl y2 yf
  go_region_law (first
   |(go_simp;go_at_call 363;refine(unhide HCO).mono ?_;rintro e w5 ⟨a2,c2,rfl,ho5,hb5⟩;have D5:=hide (show Below Y.heap.size Y w5 from below0 (Below.refl _ _).drew hb5);have hs5:=(unhide HS).below (unhide D5);have HS5:=hide hs5;have HO5:=hide ho5;have z1:=(hs5.cells (Below.refl _ _)).2;have hb6:Below w5.heap.size w5 (w5.alloc (.cells #[.int .i64 p.o,.int .i64 p.l,.int .i64 p.k,.int .i64 p.z,.int .i64 p.h,.slice a2 p.r.n c2,.string p.r.s] 59)):=(Below.refl _ _).alloc (Nat.le_refl _) _;have HB6:=hide hb6;have z2:=(hs5.cells hb6).2;have hnw:=heap_alloc_new w5 (.cells #[.int .i64 p.o,.int .i64 p.l,.int .i64 p.k,.int .i64 p.z,.int .i64 p.h,.slice a2 p.r.n c2,.string p.r.s] 59);have HNW:=hide hnw;have HBB:=hide (Nat.le_trans hs5.lob hb6.size);clear ho5 hb5 hs5 hb6 hnw)
   |(refine Zf2 (by rfl) _ _ (by rfl) B (.slice (some ⟨gp,0,none⟩) (ps.length-1) cp) es (p.cop a2 c2) (by rfl) ((unhide HS5).own.below (unhide HB6)) w5.heap.size (by rfl) (unhide HNW) (unhide HLN) (unhide HBB) ?_;intro g2 cap w6 ho6 hg6 hat;have HO6:=hide ho6;have HG6:=hide hg6;have HAT:=hide hat;have hk6:=((unhide HS5).below (unhide HB6)).blk.kept hg6 (unhide HNE);have u1:=hk6.at 1 rfl;have uf:=hk6.frz 1;clear ho6 hg6 hat hk6)
   |fail)
  all_goals go_wp2
  all_goals go_ret
  all_goals exact Zon (unhide HS) (unhide HTY) (unhide HMV) (unhide D5) (unhide HO5) (unhide HB6) (unhide HO6) (unhide HG6) (unhide HAT) (unhide HL) (unhide HT) (unhide HI) (unhide HSM)
 ·have hde:((ps.length:Int)==(m:Int))=false:=by rw[beq_eq_false_iff_ne];omega
  subst hv
  go_wp2
  go_region_held3 (fun w'=>w'.cell? ⟨g,0,none⟩=some (.int .i64 (m:Int))∧w'.cell? ⟨g,1,none⟩=some (.slice a ps.length c)) (go_keep) (fail)
  go_wp2_with fail
  have hSY:BfAt w1.drew g B m (.slice a ps.length c) ps:=(unhide HS1).below (Below.refl _ _).drew
  have hbY:Below W.heap.size W w1.drew:=below0 (unhide HB1) (Below.refl _ _).drew
  have htY:Tu (bfF g (.slice a ps.length c)) W w1.drew:=Tu.of_below hbY
  generalize hY:w1.drew=Y at*
  have HTY:=hide (htY.after (unhide HB0))
  have HMV:Hid (MvB w (.slice a ps.length c) (.slice a ps.length c)):=hide (MvB.refl _ _)
  have HS:=hide hSY
  have HCO0:=ZhQ p Y.drew ((unhide HR _ (unhide HTY)).below (Below.refl _ _).drew) (by omega) (by omega)
  unfold PKV.val at HCO0
  have HCO:=hide HCO0
  clear HCO0
  obtain⟨q0,q1,q2,q3,q4,q5,q6⟩:=unhide HBX Y htY
  obtain⟨z0,zz1⟩:=hSY.cells (Below.refl _ _)
  have HLN:Hid (ps.length≤1000000):=hide (by omega)
  have HNE:Hid (some g≠(Value.slice a ps.length c).ownBlock):=hide fun e=>hSY.blk.neP hSY.own (by decide) e.symm
  have HL:Hid (ps.map PKV.pd=leftD m (ps.map PKV.pd)):=hide (by unfold leftD;rw[List.length_map,if_neg (by omega)])
  clear hSY htY hbY hY d0 d1
  go_region_law (first
   |(go_simp;go_at_call 363;refine(unhide HCO).mono ?_;rintro e w5 ⟨a2,c2,rfl,ho5,hb5⟩;have D5:=hide (show Below Y.heap.size Y w5 from below0 (Below.refl _ _).drew hb5);have hs5:=(unhide HS).below (unhide D5);have HS5:=hide hs5;have HO5:=hide ho5;have z1:=(hs5.cells (Below.refl _ _)).2;have hb6:Below w5.heap.size w5 (w5.alloc (.cells #[.int .i64 p.o,.int .i64 p.l,.int .i64 p.k,.int .i64 p.z,.int .i64 p.h,.slice a2 p.r.n c2,.string p.r.s] 59)):=(Below.refl _ _).alloc (Nat.le_refl _) _;have HB6:=hide hb6;have z2:=(hs5.cells hb6).2;have hnw:=heap_alloc_new w5 (.cells #[.int .i64 p.o,.int .i64 p.l,.int .i64 p.k,.int .i64 p.z,.int .i64 p.h,.slice a2 p.r.n c2,.string p.r.s] 59);have HNW:=hide hnw;have HBB:=hide (Nat.le_trans hs5.lob hb6.size);clear ho5 hb5 hs5 hb6 hnw)
   |(refine Zf2 (by rfl) _ _ (by rfl) B (.slice a ps.length c) ps (p.cop a2 c2) (by rfl) ((unhide HS5).own.below (unhide HB6)) w5.heap.size (by rfl) (unhide HNW) (unhide HLN) (unhide HBB) ?_;intro g2 cap w6 ho6 hg6 hat;have HO6:=hide ho6;have HG6:=hide hg6;have HAT:=hide hat;have hk6:=((unhide HS5).below (unhide HB6)).blk.kept hg6 (unhide HNE);have u1:=hk6.at 1 rfl;have uf:=hk6.frz 1;clear ho6 hg6 hat hk6)
   |fail)
  all_goals go_wp2
  all_goals go_ret
  all_goals exact Zon (unhide HS) (unhide HTY) (unhide HMV) (unhide D5) (unhide HO5) (unhide HB6) (unhide HO6) (unhide HG6) (unhide HAT) (unhide HL) (unhide HT) (unhide HI) (unhide HSM)
theorem ZpB(ks:List PKV)(k:Nat)(hk:k<ks.length):ks.take k++[ks.getD k .dflt]=ks.take (k+1):=by
 rw[List.take_succ_eq_append_getElem hk]
 simp[List.getD_eq_getElem?_getD,List.getElem?_eq_getElem hk]
def OutK(w w':World)(ps:List PKV)(e:Ending):Prop:=∃b c us,e=.returned (.slice (some ⟨b,0,none⟩) ps.length c)∧OwnP w' w.heap.size (.slice (some ⟨b,0,none⟩) ps.length c) us∧OwnKs w' w.heap.size us∧us.map PKV.pd=ps.map PKV.pd∧Below w.heap.size w w'
theorem Zso(g B m:Nat)(v:Value)(ps:List PKV)(w:World)(h:BfAt w g B m v ps):
  Calls Tryz.prog 359 #[.pointer (some ⟨g,0,none⟩)] w fun e w'=>OutK w w' ps e:=by
 have hln:=h.len.2
 obtain⟨a,c,rfl,hP, -, -⟩:=h.at
 have hmk:=ZAx ps.length (by omega)
 have HM:=hide (ZA2 w ps.length (by omega) (Zeh ps.length []) (ZoV _))
 have hbm:Below w.heap.size w (w.alloc (.cells (madeCells #[.int .i64 0,.int .i64 0,.int .i64 0,.int .i64 0,.int .i64 0,.slice none 0 0,.string ⟨#[]⟩] (ps.length*7)) 59)):=(Below.refl _ _).alloc (Nat.le_refl _) _
 obtain⟨k0,k1⟩:=h.cells (Below.refl _ _)
 obtain⟨j0,j1⟩:=h.cells hbm
 have HBM:=hide hbm
 have HZ:=hide (show w.heap.size+1≤(w.alloc (.cells (madeCells #[.int .i64 0,.int .i64 0,.int .i64 0,.int .i64 0,.int .i64 0,.slice none 0 0,.string ⟨#[]⟩] (ps.length*7)) 59)).heap.size by rw[Zab];exact Nat.le_refl _)
 have Hh:=hide hP
 have HSH:Hid (∀i,i<ps.length→(ps.getD i .dflt).r.n≤1048576∧(ps.getD i .dflt).r.s.size≤1048576):=hide fun i hi=>by
  have h1:=(h.inv.get (i:=i) (by rw[List.length_map];exact hi)).1
  rw[ZqI hi]at h1
  have h2:=ZfM h1
  have h3:=(hP.2.1 i hi).1
  have h4:(ps.getD i .dflt).r.xs.length≤2:=h2
  have h5:=Zcx h1
  have h6:((ps.getD i .dflt).r.s.size:Int)=(ps.getD i .dflt).z:=h5.2.2.1
  have h7:(ps.getD i .dflt).z≤64:=h5.2.2.2.2.2
  omega
 clear h hP hbm
 go_enter Tryz.func359,Tryz.ntmps359
 go_wp2
 go_loopw [19] (fun i wr=> ∃us:List PKV,us.length≤ps.length∧i=.int .i64 us.length∧Hid (OwnP wr w.heap.size (.slice (some ⟨w.heap.size,0,none⟩) ps.length ps.length) (Zeh ps.length us))∧Hid (OwnKs wr (w.heap.size+1) us)∧Hid (us.map PKV.pd=(ps.take us.length).map PKV.pd)∧Hid (Below w.heap.size w wr)∧Hid (w.heap.size+1≤wr.heap.size)) (fun i _=>ps.length-(intOf i).toNat)
 case atStart=>exact⟨[],Nat.zero_le _,rfl,HM,hide (OwnKs.nil _ _),hide rfl,HBM,HZ⟩
 case round=>
  obtain⟨us,hk,rfl,HI,HU,HC,HB,HZ2⟩:=hrel
  clear HM HBM HZ
  by_cases hlt:us.length<ps.length
  ·obtain⟨b,off,rfl,hcl⟩:=((unhide Hh).below (unhide HB)).at hlt
   obtain⟨hc0,hc1,hc2,hc3,hc4,hc5,hc6⟩:=hcl us.length hlt
   have hlt':(us.length:Int)<(ps.length:Int):=by omega
   have hrow:=((unhide Hh).below (unhide HB)).2.1 us.length hlt
   have hsh:=unhide HSH us.length hlt
   have HTS:=hide (ZpB ps us.length hlt)
   generalize ps.getD us.length .dflt=p at*
   have hb1:=ZgM wr p
   have HCO0:=ZhQ p _ (hrow.below hb1) hsh.1 hsh.2
   unfold PKV.val at HCO0
   have HCO:=hide HCO0
   have HB1:=hide hb1
   obtain⟨hx0,hx1,hx2,hx3,hx4,hx5,hx6⟩:=Zdj wr (.int .i64 p.o) (.int .i64 p.l) (.int .i64 p.k) (.int .i64 p.z) (.int .i64 p.h) (.slice p.r.a p.r.n p.r.c) (.string p.r.s)
   clear hcl hrow hb1 HCO0 hsh
   go_wp2_with fail
   refine(unhide HCO).mono ?_
   rintro e w2 ⟨a2,c2,rfl,ho2,hb2⟩
   have hB2:=below0 (unhide HB1) hb2
   have hI:=(unhide HI).below hB2
   have hfl:=Zlb hk
   have hcg:=fun j hj=>Zfu (Zeh ps.length us) us.length j (by omega) hj
   have e0:=hI.cellAt ((hcg 0 (by decide)).trans rfl)
   have e1:=hI.cellAt ((hcg 1 (by decide)).trans rfl)
   have e2:=hI.cellAt ((hcg 2 (by decide)).trans rfl)
   have e3:=hI.cellAt ((hcg 3 (by decide)).trans rfl)
   have e4:=hI.cellAt ((hcg 4 (by decide)).trans rfl)
   have e5:=hI.cellAt ((hcg 5 (by decide)).trans rfl)
   have e6:=hI.cellAt ((hcg 6 (by decide)).trans rfl)
   rw[Nat.add_zero]at e0
   have hI':w2.ownsRow w.heap.size 59 7 (.slice (some ⟨w.heap.size,0,none⟩) ps.length ps.length) ps.length (cellsK (Zeh ps.length us)):=by
    have:w2.ownsRow w.heap.size 59 7 (.slice (some ⟨w.heap.size,0,none⟩) ps.length ps.length) (Zeh ps.length us).length (cellsK (Zeh ps.length us)):=hI
    rwa[hfl]at this
   have hfz:∀j,w2.frozen? ⟨w.heap.size,j,none⟩=false:=fun j=>hI'.frozenAt j
   have hs2:=hI.stored us.length (p.cop a2 c2)
   rw[ZoL _ hlt]at hs2
   have hZ:=Nat.le_trans (unhide HZ2) (unhide HB1).size
   have hu2:=(((unhide HU).below hB2).snoc (p:=p.cop a2 c2) (ho2.mono hZ))
   have HU2:=hide (hu2.setK (us.length*7) (p.cop a2 c2) (Nat.lt_succ_self _))
   have HC2:=hide (show(us++[p.cop a2 c2]).map PKV.pd=(ps.take (us++[p.cop a2 c2]).length).map PKV.pd by
    rw[List.length_append,List.length_singleton,←unhide HTS,List.map_append,List.map_append,unhide HC];rfl)
   have HS:=hide hs2
   have HB2:=hide (ZBk (below0 (unhide HB) hB2) (Nat.le_refl _) (us.length*7) (p.cop a2 c2))
   have HZ3:=hide (show w.heap.size+1≤(setK w2 w.heap.size (us.length*7) (p.cop a2 c2)).heap.size by
    rw[Zs6]
    have:=hB2.size
    have:=unhide HZ2
    omega)
   have HLE:=hide (show(us++[p.cop a2 c2]).length=us.length+1 by rw[List.length_append];rfl)
   clear HCO HB1 ho2 hb2 hB2 hI hI' hfl hcg hs2 hu2 hZ HI HB HU HC HZ2 HTS
   generalize (Zeh ps.length us).getD us.length .dflt=zz at*
   go_wp2
   go_roundw
   case rel=>exact⟨us++[p.cop a2 c2],by rw[unhide HLE];omega,by rw[unhide HLE];go_num,HS,HU2,HC2,HB2,HZ3⟩
   case measure=>simp[intOf];omega
  ·have hul:us.length=ps.length:=by omega
   rw[Zq5 hul]at HI
   rw[hul,List.take_length]at HC
   go_wp2
   go_ret
   exact⟨_,_,us,rfl,unhide HI,(unhide HU).mono (Nat.le_succ _),unhide HC,unhide HB⟩
end Go.Proofs.YtlhhinlghhjghaaGreatDoor
namespace Go.Proofs.YtlhhinlghhjghaaGreatDoor
open Go.RowKit
set_option linter.unusedVariables false
set_option linter.unusedSimpArgs false
set_option maxRecDepth 4000
set_option maxHeartbeats 8000000
variable {Q:List PD}{q:PD}
def selD(L:List PD)(ws:List Int):List PD:=ws.filterMap fun(i:Int)=>if 0≤i∧i<(L.length:Int)then some (L.getD i.toNat .dflt)else none
def vecX(Q:List PD):List Nat:=Q.foldl (fun a p=>xorL a p.xs) []
def txtX(Q:List PD):List Nat:=Q.foldl (fun a p=>xorL a (tx p.s)) []
def hopX:List PD→Int
 |[]=>0
 |p::Q=>Q.foldl (fun a q=>max a q.h) p.h
def mixL:List PD→Option PD
 |[]=>none
 |q::Q=>if (∀p∈Q,alkD q p=true)∧0<cnt (vecX (q::Q))∧hopX (q::Q)<15 then some ⟨q.o,q.l,q.k,q.z,IntKind.i64.wrap (hopX (q::Q)+1),vecX (q::Q),st (txtX (q::Q))⟩else none
def mixD(L:List PD)(ws:List Int):Option PD:=mixL (selD L ws)
theorem ZdX(q:PD)(Q:List PD):mixL (q::Q)=if (∀p∈Q,alkD q p=true)∧0<cnt (vecX (q::Q))∧hopX (q::Q)<15 then some ⟨q.o,q.l,q.k,q.z,IntKind.i64.wrap (hopX (q::Q)+1),vecX (q::Q),st (txtX (q::Q))⟩else none:=rfl
theorem Zgu:∀(Q:List PD) (a:Int),a≤Q.foldl (fun a q=>max a q.h) a∧(∀p∈Q,p.h≤Q.foldl (fun a q=>max a q.h) a)∧∀b,a≤b→(∀p∈Q,p.h≤b)→Q.foldl (fun a q=>max a q.h) a≤b
 |[],a=>⟨Int.le_refl _,(fun p hp=>by cases hp),fun b h _=>h⟩
 |q::Q,a=>by
  obtain⟨h1,h2,h3⟩:=Zgu Q (max a q.h)
  rw[List.foldl_cons]
  refine⟨by omega,fun p hp=>?_,fun b hb hp=>h3 b (by have:=hp q List.mem_cons_self;omega) fun p hq=>hp p (List.mem_cons_of_mem _ hq)⟩
  rcases List.mem_cons.1 hp with e|e
  ·rw[e];omega
  ·exact h2 p e
theorem Zyj{b:Int}(h:∀p∈q::Q,p.h≤b):hopX (q::Q)≤b:=(Zgu Q q.h).2.2 b (h q List.mem_cons_self) fun p hp=>h p (List.mem_cons_of_mem _ hp)
theorem Zok{p:PD}(h:p∈q::Q):p.h≤hopX (q::Q):=by
 rcases List.mem_cons.1 h with e|e
 ·rw[e];exact(Zgu Q q.h).1
 ·exact(Zgu Q q.h).2.1 p e
theorem ZqV{k:Int}{a b:List Nat}(ha:Za5 k a)(hb:Za5 k b):Za5 k (xorL a b):=by
 obtain⟨a1,a2,a3⟩:=ha
 obtain⟨b1,b2,b3⟩:=hb
 refine⟨by rw[Zae];omega,by rw[Zae];omega,fun i hi=>?_⟩
 rw[Zrl,a3 i hi,b3 i hi,Bool.xor_false]
theorem Zkd{k:Int}:∀(Q:List PD) (a:List Nat),Za5 k a→(∀p∈Q,Za5 k p.xs)→Za5 k (Q.foldl (fun a p=>xorL a p.xs) a)
 |[],a,ha,_=>ha
 |q::Q,a,ha,h=>by
  rw[List.foldl_cons]
  exact Zkd Q _ (ZqV ha (h q List.mem_cons_self)) fun p hp=>h p (List.mem_cons_of_mem _ hp)
theorem Zs5{m:Nat}:∀(Q:List PD) (a:List Nat),a.length=m→(∀p∈Q,p.s.size=m)→(Q.foldl (fun a p=>xorL a (tx p.s)) a).length=m
 |[],a,ha,_=>ha
 |q::Q,a,ha,h=>by
  rw[List.foldl_cons]
  refine Zs5 Q _ ?_ fun p hp=>h p (List.mem_cons_of_mem _ hp)
  rw[Zae,Zaa,ha,h q List.mem_cons_self,Nat.max_self]
theorem ZkS(a:List Nat):xorL [] a=a:=by rw[ZdN,ZgE]
theorem ZBi{r:PD}(hok:∀p∈q::Q,okD p=true)(h:mixL (q::Q)=some r):okD r=true∧r.h=hopX (q::Q)+1:=by
 rw[ZdX]at h
 by_cases hc:(∀p∈Q,alkD q p=true)∧0<cnt (vecX (q::Q))∧hopX (q::Q)<15
 ·rw[if_pos hc]at h
  obtain⟨h1,h2,h3⟩:=hc
  obtain rfl:=Option.some.inj h
  have hq:=Zcr.1 (hok q List.mem_cons_self)
  obtain⟨⟨hs,ho,hl,hh⟩,hv,hcn,hz⟩:=hq
  have hg:=Zok (q:=q) (Q:=Q) (p:=q) List.mem_cons_self
  have hwr:IntKind.i64.wrap (hopX (q::Q)+1)=hopX (q::Q)+1:=by rw[IntKind.wrap_i64];omega
  refine⟨Zcr.2 ⟨⟨hs,ho,hl,?_,?_⟩,?_,h2,?_⟩,hwr⟩
  ·show 0≤IntKind.i64.wrap (hopX (q::Q)+1)
   omega
  ·show IntKind.i64.wrap (hopX (q::Q)+1)≤15
   omega
  ·show Za5 q.k (vecX (q::Q))
   unfold vecX
   rw[List.foldl_cons,ZkS]
   refine Zkd Q _ hv fun p hp=>?_
   have h4:=(Zcx (hok p (List.mem_cons_of_mem _ hp))).1
   have h5:=h1 p hp
   unfold alkD at h5
   rw[decide_eq_true_eq]at h5
   rw[h5.2.2.1]
   exact h4
  ·show((st (txtX (q::Q))).size:Int)=q.z
   unfold txtX
   rw[Zb1,List.foldl_cons,ZkS,Zs5 (m:=q.s.size) Q _ (Zaa _) fun p hp=>?_]
   ·exact hz
   ·have h4:=(Zcx (hok p (List.mem_cons_of_mem _ hp))).2.2.1
    have h5:=h1 p hp
    unfold alkD at h5
    rw[decide_eq_true_eq]at h5
    have h6:=h5.2.2.2
    have h7:(p.s.size:Int)=(q.s.size:Int):=by rw[h4,←h6,←hz]
    omega
 ·rw[if_neg hc]at h;cases h
end Go.Proofs.YtlhhinlghhjghaaGreatDoor
