/-
  Contracts of Buffer.rows, degrees, toGo.
  Contract of Buffer.toGo: the first of the greatest degree.
  Contracts of Buffer.alike, takes.
  Contract of Buffer.takes.
  Contract of slices.Delete of one packet out of a slice of one's own.
-/
import Derived.Test.YtlhhinlghhjghaaGreatDoorU21
import Derived.Test.YtlhhinlghhjghaaGreatDoorU5
import Derived.WalkMore
import Derived.Deep.LoopGhost
import Derived.Deep.RegionLaw
import Derived.Lib.SliceRun
namespace Go.Proofs.YtlhhinlghhjghaaGreatDoor
open Go.RowKit Go.Sort
set_option linter.unusedVariables false
set_option linter.unusedSimpArgs false
set_option maxRecDepth 4000
set_option maxHeartbeats 8000000
variable {ps:List PKV}{i:Nat}
theorem ZAl{w:World}(h:KsIn w ps):RowsIn w (ps.map PKV.r):=fun r hr=>by
 obtain⟨p,hp,rfl⟩:=List.mem_map.1 hr
 exact h p hp
theorem ZAV(ps:List PKV):vecsL (ps.map PKV.r)=vecsD (ps.map PKV.pd):=by
 unfold vecsL vecsD
 rw[List.map_map,List.map_map]
 rfl
theorem rGet(hi:i<ps.length):(ps.map PKV.r).getD i .dflt=(ps.getD i .dflt).r:=by
 rw[List.getD_eq_getElem?_getD,List.getElem?_map,List.getElem?_eq_getElem hi,List.getD_eq_getElem?_getD,List.getElem?_eq_getElem hi]
 rfl
theorem ZoI(g B m:Nat)(v:Value)(ps:List PKV)(w:World)(h:BfAt w g B m v ps):
  Calls Tryz.prog 369 #[.pointer (some ⟨g,0,none⟩)] w fun e w'=> ∃v',e=.returned v'∧OwnW w' w.heap.size v' (ps.map PKV.r)∧Below w.heap.size w w':=by
 have hln:=h.len.2
 obtain⟨a,c,rfl,hP, -, -⟩:=h.at
 have hmk:=Zye ps.length (by omega)
 have hbm:Below w.heap.size w (w.alloc (.cells (madeCells #[.slice none 0 0] ps.length) 32)):=(Below.refl _ _).alloc (Nat.le_refl _) _
 obtain⟨k0,k1⟩:=h.cells (Below.refl _ _)
 obtain⟨j0,j1⟩:=h.cells hbm
 have Hh:=hide hP
 obtain⟨ts,hts⟩:∃ts,ts=ps.map PKV.r:=⟨_,rfl⟩
 have htl:ts.length=ps.length:=by rw[hts,List.length_map]
 have HM:=Zyb w ps.length (by omega)
 rw[←htl,←Zik,htl]at HM
 have HM:=hide HM
 have HBM:=hide hbm
 have HT:=hide hts
 have HTL:=hide htl
 rw[←hts]
 clear h hP hbm hts htl
 go_enter Tryz.func369,Tryz.ntmps369
 go_wp2
 go_loopw [17] (fun i wr=> ∃k:Nat,k≤ps.length∧i=.int .i64 k∧Hid (wr.ownsRow w.heap.size 32 1 (.slice (some ⟨w.heap.size,0,none⟩) ps.length ps.length) ps.length (ZfR ts k))∧Hid (Below w.heap.size w wr)) (fun i _=>ps.length-(intOf i).toNat)
 case atStart=>exact⟨0,Nat.zero_le _,rfl,HM,HBM⟩
 case round=>
  obtain⟨k,hk,rfl,HI,HB⟩:=hrel
  clear HM HBM
  by_cases hlt:k<ps.length
  ·obtain⟨b,off,rfl,hcl⟩:=((unhide Hh).below (unhide HB)).at hlt
   obtain⟨hc0,hc1,hc2,hc3,hc4,hc5,hc6⟩:=hcl k hlt
   have hlt':(k:Int)<(ps.length:Int):=by omega
   have htlen:=unhide HTL
   have hS:=ZiS ts k (by omega)
   rw[show ts.getD k .dflt=(ps.getD k .dflt).r from by rw[unhide HT];exact rGet hlt]at hS
   have hfk:(ZfR ts k)[k]? =some (.slice none 0 0):=by
    unfold ZfR
    have hl:((ts.take k).map fun r=>Value.slice r.a r.n r.c).length=k:=by simp;omega
    rw[List.getElem?_append_right (by omega),hl,Nat.sub_self,List.getElem?_replicate,if_pos (by omega)]
   clear htlen
   generalize ps.getD k .dflt=p at*
   have hb1:Below wr.heap.size wr (wr.alloc (.cells #[.int .i64 p.o,.int .i64 p.l,.int .i64 p.k,.int .i64 p.z,.int .i64 p.h,.slice p.r.a p.r.n p.r.c,.string p.r.s] 59)):=(Below.refl _ _).alloc (Nat.le_refl _) _
   have hI:=Zcg (unhide HI) hb1
   have hcell:=hI.cellAt k (by omega)
   rw[hfk]at hcell
   have hfz:=hI.frozenAt k
   have hs2:=(hI.stored k (.slice p.r.a p.r.n p.r.c)).1
   rw[hS]at hs2
   have hB2:=(below0 (unhide HB) hb1).setCell (p:=⟨w.heap.size,k,none⟩) (Nat.le_refl _) (.slice p.r.a p.r.n p.r.c)
   obtain⟨hx0,hx1,hx2,hx3,hx4,hx5,hx6⟩:=Zdj wr (.int .i64 p.o) (.int .i64 p.l) (.int .i64 p.k) (.int .i64 p.z) (.int .i64 p.h) (.slice p.r.a p.r.n p.r.c) (.string p.r.s)
   have HS:=hide hs2
   have HB2:=hide hB2
   clear hcl hI hs2 hB2 hb1 hS hfk HI HB
   go_wp2
   go_roundw
   case rel=>exact⟨k+1,by omega,by go_num,HS,HB2⟩
   case measure=>simp[intOf];omega
  ·obtain rfl:k=ps.length:=by omega
   have hI:=unhide HI
   rw[←unhide HTL,Zj4]at hI
   have HI2:=hide hI
   clear hI HI
   go_wp2
   go_ret
   exact⟨_,rfl,by rw[←unhide HTL];exact unhide HI2,unhide HB⟩
def ZeP(ps:List PKV):List Int:=ps.map fun p=>(cnt p.r.xs:Int)
theorem Zcq(ps:List PKV):(ZeP ps).length=ps.length:=by simp[ZeP]
theorem Zkf(hi:i<ps.length):(ZeP ps).getD i 0=(cnt (ps.getD i .dflt).r.xs:Int):=by
 unfold ZeP
 rw[List.getD_eq_getElem?_getD,List.getElem?_map,List.getElem?_eq_getElem hi,List.getD_eq_getElem?_getD,List.getElem?_eq_getElem hi]
 rfl
theorem ZtW(hi:i<ps.length):(ZeP ps).getD i 0=(degD (ps.map PKV.pd) i:Int):=by
 rw[Zkf hi]
 unfold degD
 rw[ZqI hi]
 rfl
theorem ZqB(g B m:Nat)(v:Value)(ps:List PKV)(w:World)(h:BfAt w g B m v ps):
  Calls Tryz.prog 370 #[.pointer (some ⟨g,0,none⟩)] w fun e w'=> ∃v',e=.returned v'∧OwnZ w' w.heap.size v' (ZeP ps)∧Below w.heap.size w w':=by
 have hln:=h.len.2
 obtain⟨a,c,rfl,hP, -, -⟩:=h.at
 have hmk:=ZeU ps.length (by omega)
 have hbm:Below w.heap.size w (w.alloc (.cells (madeCells #[.int .i64 0] ps.length) 3)):=(Below.refl _ _).alloc (Nat.le_refl _) _
 obtain⟨k0,k1⟩:=h.cells (Below.refl _ _)
 obtain⟨j0,j1⟩:=h.cells hbm
 have Hh:=hide hP
 have HM:=hide (Zfh w ps.length (by omega) (Za3 (ZeP ps) 0) (by rw[ZdV,Zcq]))
 have HBM:=hide hbm
 have HSH:Hid (∀i,i<ps.length→(ps.getD i .dflt).r.n≤1048576):=hide fun i hi=>by
  have h1:=(h.inv.get (i:=i) (by rw[List.length_map];exact hi)).1
  rw[ZqI hi]at h1
  have h2:=ZfM h1
  have h3:=(hP.2.1 i hi).1
  have h4:(ps.getD i .dflt).r.xs.length≤2:=h2
  omega
 clear h hP hbm
 go_enter Tryz.func370,Tryz.ntmps370
 go_wp2
 go_loopw [17] (fun i wr=> ∃k:Nat,k≤ps.length∧i=.int .i64 k∧Hid (OwnZ wr w.heap.size (.slice (some ⟨w.heap.size,0,none⟩) ps.length ps.length) (Za3 (ZeP ps) k))∧Hid (Below w.heap.size w wr)) (fun i _=>ps.length-(intOf i).toNat)
 case atStart=>exact⟨0,Nat.zero_le _,rfl,HM,HBM⟩
 case round=>
  obtain⟨k,hk,rfl,HI,HB⟩:=hrel
  clear HM HBM
  by_cases hlt:k<ps.length
  ·obtain⟨b,off,rfl,hcl⟩:=((unhide Hh).below (unhide HB)).at hlt
   obtain⟨hc0,hc1,hc2,hc3,hc4,hc5,hc6⟩:=hcl k hlt
   have hrow:=((unhide Hh).below (unhide HB)).2.1 k hlt
   have hrn:=unhide HSH k hlt
   have hlt':(k:Int)<(ps.length:Int):=by omega
   have hS:=ZdP (ZeP ps) k (by rw[Zcq];exact hlt)
   rw[Zkf hlt]at hS
   have hfl:=ZbQ (ZeP ps) k (by rw[Zcq];omega)
   rw[Zcq]at hfl
   generalize ps.getD k .dflt=p at*
   have hb1:Below wr.heap.size wr (wr.alloc (.cells #[.int .i64 p.o,.int .i64 p.l,.int .i64 p.k,.int .i64 p.z,.int .i64 p.h,.slice p.r.a p.r.n p.r.c,.string p.r.s] 59)):=(Below.refl _ _).alloc (Nat.le_refl _) _
   have HCO:=hide (Zbt p.r.a p.r.n p.r.c p.r.xs _ (hrow.below hb1) hrn)
   have hI:=(unhide HI).below hb1
   obtain⟨g1,cap1,e1,hg1, -,hcell,hfz⟩:=hI.at (by omega)
   rw[hfl]at e1
   simp only[Value.slice.injEq,Option.some.injEq,Addr.mk.injEq,and_true,true_and]at e1
   obtain⟨rfl,rfl⟩:=e1
   have hcell:=hcell k (by omega)
   have hfz:=hfz k
   have hs2:=hI.stored k (cnt p.r.xs:Int)
   rw[hS]at hs2
   have hB2:=(below0 (unhide HB) hb1).setCell (p:=⟨w.heap.size,k,none⟩) (Nat.le_refl _) (.int .i64 (cnt p.r.xs:Int))
   obtain⟨hx0,hx1,hx2,hx3,hx4,hx5,hx6⟩:=Zdj wr (.int .i64 p.o) (.int .i64 p.l) (.int .i64 p.k) (.int .i64 p.z) (.int .i64 p.h) (.slice p.r.a p.r.n p.r.c) (.string p.r.s)
   have HS:=hide hs2
   have HB2:=hide hB2
   clear hcl hI hs2 hB2 hb1 hS hfl HI HB hrow hrn hg1
   generalize (Za3 (ZeP ps) k).getD k 0=zz at*
   go_wp2_with (go_at_call 181;refine(unhide HCO).mono ?_;rintro e w2 ⟨rfl,hw2⟩;subst hw2)
   go_roundw
   case rel=>exact⟨k+1,by omega,by go_num,HS,HB2⟩
   case measure=>simp[intOf];omega
  ·obtain rfl:k=ps.length:=by omega
   have hI:=unhide HI
   rw[show Za3 (ZeP ps) ps.length=ZeP ps from by rw[←Zcq ps,ZeB]]at hI
   have HI2:=hide hI
   clear hI HI
   go_wp2
   go_ret
   exact⟨_,rfl,unhide HI2,unhide HB⟩
theorem ZoJ(g B m:Nat)(v:Value)(ps:List PKV)(w:World)(h:BfAt w g B m v ps)(h0:0<ps.length):
  Calls Tryz.prog 365 #[.pointer (some ⟨g,0,none⟩)] w fun e w'=>e=.returned (.int .i64 (goesTo (ps.map PKV.pd) ps.length:Int))∧Below w.heap.size w w':=by
 have hln:=h.len.2
 obtain⟨a,c,rfl,hP, -, -⟩:=h.at
 have HD:=hide (ZqB g B m _ ps w h)
 have HC:=hide (fun(w':World) (hb:Below w.heap.size w w')=>h.cells hb)
 have HP:=hide hP
 have HL:Hid (∀i,i<ps.length→(degD (ps.map PKV.pd) i:Int)≤(ps.getD 0 .dflt).k∧(ps.getD 0 .dflt).k≤128):=hide fun i hi=>by
  have:=h.inv.deg (i:=i) (by rw[List.length_map];exact hi)
  rw[ZqI h0]at this
  exact this
 have HW:Hid (∀(w1:World) (v1:Value),OwnZ w1 w.heap.size v1 (ZeP ps)→∃g1 cap1,v1=.slice (some ⟨g1,0,none⟩) ps.length cap1∧∀i,i<ps.length→w1.cell? ⟨g1,i,none⟩=some (.int .i64 (degD (ps.map PKV.pd) i:Int))):=hide fun w1 v1 ho1=>by
  obtain⟨g1,cap1,e1, -, -,hcw, -⟩:=ho1.at (by rw[Zcq];exact h0)
  rw[Zcq]at hcw e1
  exact⟨g1,cap1,e1,fun i hi=>by rw[hcw i hi,ZtW hi]⟩
 clear h hP
 generalize ps.map PKV.pd=L at*
 generalize ps.length=n at*
 go_enter Tryz.func365,Tryz.ntmps365
 go_wp2_with fail
 go_step3
 go_wp2_with fail
 refine(unhide HD).mono ?_
 rintro e w1 ⟨v1,rfl,ho1,hb1⟩
 obtain⟨g1,cap1,rfl,hcz⟩:=unhide HW w1 v1 ho1
 obtain⟨k0,k1⟩:=unhide HC w1 hb1
 obtain⟨b,off,rfl,hcl⟩:=((unhide HP).below hb1).at h0
 obtain⟨-, -,hk, -, -, -, -⟩:=hcl 0 h0
 rw[Nat.zero_mul,Nat.add_zero]at hk
 have HB1:=hide hb1
 have HCZ:=hide hcz
 have h0':(0:Int)<(n:Int):=by omega
 obtain⟨hk0,hk1⟩:=unhide HL 0 h0
 obtain⟨D,hD⟩:∃D:Nat,(ps.getD 0 .dflt).k=(D:Int):=⟨(ps.getD 0 .dflt).k.toNat,by omega⟩
 have hDb:D≤128:=by omega
 have HL2:Hid (∀j,j<n→degD L j≤D):=hide fun j hj=>by have:=(unhide HL j hj).1;omega
 rw[hD]at hk
 clear hcl HD HC HP HL ho1 hb1 hcz hk0 hk1 hD HW
 go_wp2
 go_step3
 go_wp2
 go_loop [4,5] (fun pl i=> ∃d:Nat,d≤128∧pl=.int .i64 0∧i=.int .i64 d∧Hid (∀j,j<n→degD L j≤d)) (fun _ i=>(intOf i).toNat)
 case atStart=>exact⟨D,hDb,rfl,rfl,HL2⟩
 case round=>
  obtain⟨d,hd,rfl,rfl,HLd⟩:=hrel
  clear HL2
  by_cases hd0:0<d
  ·have hd0':(0:Int)<(d:Int):=by omega
   go_wp2
   go_loop [4,22] (fun pl i=> ∃k:Nat,k≤n∧pl=.int .i64 0∧i=.int .i64 k∧Hid (∀j,j<k→degD L j≠d)) (fun _ i=>n-(intOf i).toNat)
   case atStart=>exact⟨0,Nat.zero_le _,rfl,rfl,hide (fun j hj=>by omega)⟩
   case round=>
    obtain⟨k,hkn,rfl,rfl,HN⟩:=hrel
    by_cases hlt:k<n
    ·have hlt':(k:Int)<(n:Int):=by omega
     have hc:=unhide HCZ k hlt
     by_cases he:degD L k=d
     ·have hde:((degD L k:Int)==(d:Int))=true:=by rw[beq_iff_eq];omega
      have HG:Hid (goesTo L n=k):=hide (ZhB hlt (fun j hj=>by rw[he];exact unhide HLd j hj) fun j hj=>by
       have h1:=unhide HLd j (by omega)
       have h2:=unhide HN j hj
       omega)
      clear he HLd HN
      go_wp2
      (try rw[Exit.noGoto_ret])
      go_ret
      exact⟨by rw[unhide HG];rfl,unhide HB1⟩
     ·have hde:((degD L k:Int)==(d:Int))=false:=by rw[beq_eq_false_iff_ne];omega
      have HN2:Hid (∀j,j<k+1→degD L j≠d):=hide fun j hj=>by
       by_cases e:j=k
       ·rw[e];exact he
       ·exact unhide HN j (by omega)
      clear he HN
      go_wp2
      go_round
      case rel=>exact⟨k+1,by omega,rfl,by go_num,HN2⟩
      case measure=>simp[intOf];omega
    ·have HL3:Hid (∀j,j<n→degD L j≤d-1):=hide fun j hj=>by
      have h1:=unhide HLd j hj
      have h2:=unhide HN j (by omega)
      omega
     clear HLd HN
     go_wp2
     go_round
     case rel=>exact⟨d-1,by omega,rfl,by go_num,HL3⟩
     case measure=>simp[intOf];omega
  ·obtain rfl:d=0:=by omega
   have HG:Hid (goesTo L n=0):=hide (ZhB h0 (fun j hj=>by have:=unhide HLd j hj;omega) fun j hj=>by omega)
   clear HLd
   go_wp2
   (try rw[Exit.noGoto_ret])
   go_ret
   exact⟨by rw[unhide HG];rfl,unhide HB1⟩
theorem ZgM(w:World)(p:PKV):Below w.heap.size w (w.alloc (.cells #[.int .i64 p.o,.int .i64 p.l,.int .i64 p.k,.int .i64 p.z,.int .i64 p.h,.slice p.r.a p.r.n p.r.c,.string p.r.s] 59)):=(Below.refl _ _).alloc (Nat.le_refl _) _
theorem Zg3(g B m:Nat)(v:Value)(ps:List PKV)(p:PKV)(w:World)(h:BfAt w g B m v ps):
  Calls Tryz.prog 367 #[.pointer (some ⟨g,0,none⟩),p.val] w fun e w'=>e=.returned (.bool (alkH (ps.map PKV.pd) p.pd))∧Below w.heap.size w w':=by
 unfold PKV.val
 have hln:=h.len.2
 have hb0:=ZgM w p
 have hB:=h.below hb0
 obtain⟨q0,q1,q2,q3,q4,q5,q6⟩:=Zdj w (.int .i64 p.o) (.int .i64 p.l) (.int .i64 p.k) (.int .i64 p.z) (.int .i64 p.h) (.slice p.r.a p.r.n p.r.c) (.string p.r.s)
 generalize hW:w.alloc (.cells #[.int .i64 p.o,.int .i64 p.l,.int .i64 p.k,.int .i64 p.z,.int .i64 p.h,.slice p.r.a p.r.n p.r.c,.string p.r.s] 59)=W at*
 obtain⟨a,c,rfl,hP, -, -⟩:=hB.at
 obtain⟨k0,k1⟩:=hB.cells (Below.refl _ _)
 have r1:=cell_regrown k1
 have s0:=cell_regrown q0
 have s1:=cell_regrown q1
 have s2:=cell_regrown q2
 have s3:=cell_regrown q3
 have s4:=cell_regrown q4
 have s5:=cell_regrown q5
 have s6:=cell_regrown q6
 have HB0:=hide hb0
 have hgq:Tryz.prog.eqGuardType Tryz.prog.depth 432=false:=by kernel_rfl
 have cP:=hide (Za6 (W:=W) (fun w' hb=>Zm0 p w'))
 unfold PKV.val at cP
 cases ps with
 |nil=>
  clear h hB hb0 hP k0 k1 q0 q1 q2 q3 q4 q5 q6 cP
  go_enter Tryz.func367,Tryz.ntmps367
  go_wp2_with fail
  refine wp_region_quiet_below (by kernel_rfl) (by kernel_rfl) ?_
  repeat (with_reducible refine wpQuiet_step (fun K hK=>?_);go_simp;first|(with_reducible refine hK _ ?_;clear hK K))
  refine wpQuiet_nil ?_
  intro w3 hw3
  obtain⟨⟨dq,osq⟩,hw3⟩:=hw3
  have B3:=hide (below0 (unhide HB0) (show Below W.heap.size W w3 by rw[hw3];exact below_regrown _ dq osq))
  clear hw3 dq osq
  go_wp2
  go_ret
  exact⟨rfl,unhide B3⟩
 |cons q qs=>
  obtain⟨b,off,rfl,hcl⟩:=hP.at (i:=0) (by simp)
  obtain⟨d0,d1,d2,d3,d4,d5,d6⟩:=hcl 0 (by simp)
  simp only[Nat.zero_mul,Nat.add_zero,List.getD_cons_zero]at d0 d1 d2 d3 d4 d5 d6
  have y0:=cell_regrown d0
  have y1:=cell_regrown d1
  have y2:=cell_regrown d2
  have y3:=cell_regrown d3
  have y4:=cell_regrown d4
  have y5:=cell_regrown d5
  have y6:=cell_regrown d6
  have cQ:=hide (Za6 (W:=W) (fun w' hb=>Zm0 q w'))
  unfold PKV.val at cQ
  have heq:=ZzL p.o p.l p.k p.z q.o q.l q.k q.z
  have hal:decide (p.o=q.o∧p.l=q.l∧p.k=q.k∧p.z=q.z)=alkH ((q::qs).map PKV.pd) p.pd:=by
   show _=alkD q.pd p.pd
   unfold alkD
   rw[decide_eq_decide]
   exact⟨fun h=>⟨h.1.symm,h.2.1.symm,h.2.2.1.symm,h.2.2.2.symm⟩,fun h=>⟨h.1.symm,h.2.1.symm,h.2.2.1.symm,h.2.2.2.symm⟩⟩
  rw[hal]at heq
  generalize alkH ((q::qs).map PKV.pd) p.pd=AL at*
  have hn0:0<(q::qs).length:=Nat.succ_pos _
  clear h hB hb0 hP k0 k1 q0 q1 q2 q3 q4 q5 q6 hcl d0 d1 d2 d3 d4 d5 d6 hal
  generalize (q::qs).length=n at*
  have hn1:(0:Int)<(n:Int):=by omega
  have hd:((n:Int)==0)=false:=by rw[beq_eq_false_iff_ne];omega
  go_enter Tryz.func367,Tryz.ntmps367
  go_wp2_with fail
  refine wp_region_quiet_below (by kernel_rfl) (by kernel_rfl) ?_
  repeat (with_reducible refine wpQuiet_step (fun K hK=>?_);go_simp;first|(with_reducible refine hK _ ?_;clear hK K)|(apply Exists.intro;apply And.intro;(intro _;(go_at_call 371;first|with_reducible exact unhide cP _ _|with_reducible exact unhide cQ _ _));with_reducible refine hK _ ?_;clear hK K))
  refine wpQuiet_nil ?_
  intro w3 hw3
  obtain⟨⟨dq,osq⟩,hw3⟩:=hw3
  have B3:=hide (below0 (unhide HB0) (show Below W.heap.size W w3 by rw[hw3];exact below_regrown _ dq osq))
  clear hw3 dq osq
  go_wp2
  go_ret
  exact⟨rfl,unhide B3⟩
theorem Zmg(g B m:Nat)(v:Value)(ps:List PKV)(p:PKV)(w:World)(ht:Tab w)(h:BfAt w g B m v ps)(hr:RowAt w p.r.a p.r.n p.r.xs)(hn:p.r.n≤10):
  Calls Tryz.prog 364 #[.pointer (some ⟨g,0,none⟩),p.val] w fun e w'=>e=.returned (.bool (Zdm m (ps.map PKV.pd) p.pd))∧Below w.heap.size w w':=by
 unfold PKV.val
 have hln:=h.len.2
 have hb0:=ZgM w p
 have hB:=h.below hb0
 have hrr:=hr.below hb0
 have htt:=ht.below hb0
 have hx:=Zdj w (.int .i64 p.o) (.int .i64 p.l) (.int .i64 p.k) (.int .i64 p.z) (.int .i64 p.h) (.slice p.r.a p.r.n p.r.c) (.string p.r.s)
 generalize hW:w.alloc (.cells #[.int .i64 p.o,.int .i64 p.l,.int .i64 p.k,.int .i64 p.z,.int .i64 p.h,.slice p.r.a p.r.n p.r.c,.string p.r.s] 59)=W at*
 obtain⟨q0,q1,q2,q3,q4,q5,q6⟩:=id hx
 obtain⟨k0, -⟩:=hB.cells (Below.refl _ _)
 have HB0:=hide hb0
 have HTK:Hid (Zdm m (ps.map PKV.pd) p.pd=(decide (0<m)&&okD p.pd&&alkH (ps.map PKV.pd) p.pd&&ZdM (vecsD (ps.map PKV.pd)) p.r.xs)):=hide rfl
 by_cases hm:0<m
 ·have hd:decide ((0:Int)<(m:Int))=true:=by simp;omega
  cases hok:okD p.pd
  ·have r0:=cell_regrown k0
   have s0:=cell_regrown q0
   have s1:=cell_regrown q1
   have s2:=cell_regrown q2
   have s3:=cell_regrown q3
   have s4:=cell_regrown q4
   have s5:=cell_regrown q5
   have s6:=cell_regrown q6
   have cC:=hide (Za6 (W:=W) (fun w' hb=>ZaR p.o p.l p.k p.z p.h p.r.a p.r.n p.r.c p.r.xs p.r.s w' (hrr.below hb) 1 (Zsp hok)))
   have HE:Hid (Zdm m (ps.map PKV.pd) p.pd=false):=hide (by rw[unhide HTK,hok];simp)
   clear h hr ht hB hrr htt hb0 hx q0 q1 q2 q3 q4 q5 q6 k0 hok HTK
   generalize Zdm m (ps.map PKV.pd) p.pd=T at*
   go_enter Tryz.func364,Tryz.ntmps364
   go_wp2_with fail
   refine wp_region_quiet_below (by kernel_rfl) (by kernel_rfl) ?_
   repeat (with_reducible refine wpQuiet_step (fun K hK=>?_);go_simp;first|(with_reducible refine hK _ ?_;clear hK K)|(apply Exists.intro;apply And.intro;(intro _;(go_at_call 72;exact unhide cC _ _));with_reducible refine hK _ ?_;clear hK K))
   refine wpQuiet_nil ?_
   intro w3 hw3
   obtain⟨⟨dq,osq⟩,hw3⟩:=hw3
   have B3:=hide (below0 (unhide HB0) (show Below W.heap.size W w3 by rw[hw3];exact below_regrown _ dq osq))
   clear hw3 dq osq
   go_wp2
   go_ret
   exact⟨by rw[unhide HE];rfl,unhide B3⟩
  ·cases hal:alkH (ps.map PKV.pd) p.pd
   ·have r0:=cell_regrown k0
    have s0:=cell_regrown q0
    have s1:=cell_regrown q1
    have s2:=cell_regrown q2
    have s3:=cell_regrown q3
    have s4:=cell_regrown q4
    have s5:=cell_regrown q5
    have s6:=cell_regrown q6
    have cC:=hide (Za6 (W:=W) (fun w' hb=>ZaR p.o p.l p.k p.z p.h p.r.a p.r.n p.r.c p.r.xs p.r.s w' (hrr.below hb) 0 (Zjh hok)))
    have cA:=Za6 (W:=W) (fun w' hb=>Zg3 g B m v ps p w' (hB.below hb))
    rw[hal]at cA
    unfold PKV.val at cA
    have cA:=hide cA
    have HE:Hid (Zdm m (ps.map PKV.pd) p.pd=false):=hide (by rw[unhide HTK,hal];simp)
    clear h hr ht hB hrr htt hb0 hx q0 q1 q2 q3 q4 q5 q6 k0 hok hal HTK
    generalize Zdm m (ps.map PKV.pd) p.pd=T at*
    go_enter Tryz.func364,Tryz.ntmps364
    go_wp2_with fail
    refine wp_region_quiet_below (by kernel_rfl) (by kernel_rfl) ?_
    repeat (with_reducible refine wpQuiet_step (fun K hK=>?_);go_simp;first|(with_reducible refine hK _ ?_;clear hK K)|(apply Exists.intro;apply And.intro;(intro _;first|(go_at_call 72;exact unhide cC _ _)|(go_at_call 367;exact unhide cA _ _));with_reducible refine hK _ ?_;clear hK K))
    refine wpQuiet_nil ?_
    intro w3 hw3
    obtain⟨⟨dq,osq⟩,hw3⟩:=hw3
    have B3:=hide (below0 (unhide HB0) (show Below W.heap.size W w3 by rw[hw3];exact below_regrown _ dq osq))
    clear hw3 dq osq
    go_wp2
    go_ret
    exact⟨by rw[unhide HE];rfl,unhide B3⟩
   ·have HC:=hide (fun wx (hb:Below W.heap.size W wx)=>ZaR p.o p.l p.k p.z p.h p.r.a p.r.n p.r.c p.r.xs p.r.s wx (hrr.below hb) 0 (Zjh hok))
    have HA:=(fun wx (hb:Below W.heap.size W wx)=>Zg3 g B m v ps p wx (hB.below hb))
    rw[hal]at HA
    unfold PKV.val at HA
    have HA:=hide HA
    have HR:=hide (fun wx (hb:Below W.heap.size W wx)=>ZoI g B m v ps wx (hB.below hb))
    have HF:=hide (fun wx a1 c1 (hb:Below W.heap.size W wx) (hv:VecsAt wx a1 ps.length (vecsD (ps.map PKV.pd)))=>Zut a1 ps.length c1 (vecsD (ps.map PKV.pd)) p.r.a p.r.n p.r.c p.r.xs wx (htt.below hb) hv hB.inv.fit (hrr.below hb) (by omega) (by omega))
    have HV:Hid (∀wx v1 B1,Below W.heap.size W wx→OwnW wx B1 v1 (ps.map PKV.r)→∃a1 c1,v1=.slice a1 ps.length c1∧VecsAt wx a1 ps.length (vecsD (ps.map PKV.pd))):=hide fun wx v1 B1 hb ho=>by
     obtain⟨a1,c1,e,hv⟩:=ho.vecs (ZAl (hB.rows.ks.below hb))
     rw[List.length_map]at e hv
     rw[ZAV]at hv
     exact⟨a1,c1,e,hv⟩
    have HQ:=hide (fun wx (hb:Below W.heap.size W wx)=>show _∧_ from⟨(hB.cells hb).1,hx.below hb⟩)
    have HE:Hid (Zdm m (ps.map PKV.pd) p.pd=ZdM (vecsD (ps.map PKV.pd)) p.r.xs):=hide (by rw[unhide HTK,hal,hok,decide_eq_true hm];rfl)
    clear h hr ht hB hrr htt hb0 hx hok hal HTK
    generalize Zdm m (ps.map PKV.pd) p.pd=T at*
    generalize ZdM (vecsD (ps.map PKV.pd)) p.r.xs=FR at*
    go_enter Tryz.func364,Tryz.ntmps364
    go_wp2_with fail
    go_region_held3 (fun w'=>w'.cell? ⟨g,0,none⟩=some (.int .i64 (m:Int))∧w'.cell? ⟨w.heap.size,0,none⟩=some (.int .i64 p.o)∧w'.cell? ⟨w.heap.size,1,none⟩=some (.int .i64 p.l)∧w'.cell? ⟨w.heap.size,2,none⟩=some (.int .i64 p.k)∧w'.cell? ⟨w.heap.size,3,none⟩=some (.int .i64 p.z)∧w'.cell? ⟨w.heap.size,4,none⟩=some (.int .i64 p.h)∧w'.cell? ⟨w.heap.size,5,none⟩=some (.slice p.r.a p.r.n p.r.c)∧w'.cell? ⟨w.heap.size,6,none⟩=some (.string p.r.s)) (go_keep) (first
     |(go_at_call 72;refine(unhide HC _ (Below.refl _ _).drew).mono ?_;rintro e w1 ⟨rfl,hb1⟩;have D1:=hide (show Below W.heap.size W w1 from below0 (Below.refl _ _).drew hb1);obtain⟨u0,t0,t1,t2,t3,t4,t5,t6⟩:=unhide HQ w1 (unhide D1);clear hb1)
     |(go_at_call 367;refine(unhide HA _ (unhide D1)).mono ?_;rintro e w2 ⟨rfl,hb2⟩;have D2:=hide (below0 (unhide D1) hb2);obtain⟨u0,t0,t1,t2,t3,t4,t5,t6⟩:=unhide HQ w2 (unhide D2);clear hb2)
     |(go_at_call 369;refine(unhide HR _ (unhide D2)).mono ?_;rintro e w3 ⟨v3,rfl,ho3,hb3⟩;have D3:=hide (below0 (unhide D2) hb3);obtain⟨a3,c3,rfl,hv3⟩:=unhide HV w3 v3 _ (unhide D3) ho3;have HV3:=hide hv3;obtain⟨u0,t0,t1,t2,t3,t4,t5,t6⟩:=unhide HQ w3 (unhide D3);clear hb3 ho3 hv3)
     |(go_at_call 368;refine(unhide HF _ a3 c3 (unhide D3) (unhide HV3)).mono ?_;rintro e w4 ⟨rfl,hb4⟩;have D4:=hide (below0 (unhide D3) hb4);obtain⟨u0,t0,t1,t2,t3,t4,t5,t6⟩:=unhide HQ w4 (unhide D4);clear hb4))
    all_goals go_wp2
    all_goals go_ret
    all_goals exact⟨by rw[unhide HE];rfl,below0 (unhide HB0) (unhide D4)⟩
 ·obtain rfl:m=0:=by omega
  have r0:=cell_regrown k0
  have HE:Hid (Zdm 0 (ps.map PKV.pd) p.pd=false):=hide (by rw[unhide HTK];rfl)
  clear h hr ht hB hrr htt hb0 hx q0 q1 q2 q3 q4 q5 q6 k0 HTK
  generalize Zdm 0 (ps.map PKV.pd) p.pd=T at*
  go_enter Tryz.func364,Tryz.ntmps364
  go_wp2_with fail
  refine wp_region_quiet_below (by kernel_rfl) (by kernel_rfl) ?_
  repeat (with_reducible refine wpQuiet_step (fun K hK=>?_);go_simp;first|(with_reducible refine hK _ ?_;clear hK K))
  refine wpQuiet_nil ?_
  intro w3 hw3
  obtain⟨⟨dq,osq⟩,hw3⟩:=hw3
  have B3:=hide (below0 (unhide HB0) (show Below W.heap.size W w3 by rw[hw3];exact below_regrown _ dq osq))
  clear hw3 dq osq
  go_wp2
  go_ret
  exact⟨by rw[unhide HE];rfl,unhide B3⟩
theorem Zqm(w:World)(ty:TypeId)(g o c:Nat)(hc:∀j,j<7→(w.cell? ⟨g,o+j,none⟩).isSome=true)(hf:∀j,j<7→w.frozen? ⟨g,o+j,none⟩=false):
  (Builtin.clear_ #[53] ty #[.slice (some ⟨g,o,none⟩) 1 c]).run Tryz.prog w=.ok (.tuple #[]) (w.setCells g o zK.cells):=by
 have hst:=run_storeCells_cells (P:=Tryz.prog) g o zK.cells 0 w (fun j hj=>by rw[Nat.add_zero];exact hc j hj) (fun j hj=>by rw[Nat.add_zero];exact hf j hj) (Zd7 zK)
 simp only[Nat.add_zero]at hst
 have hzc:(Builtin.zeroCells (Value.agg #[.int .i64 0,.int .i64 0,.int .i64 0,.int .i64 0,.int .i64 0,.slice none 0 0,.string ⟨#[]⟩]).cells 1).toList=zK.cells:=by
  simp[Builtin.zeroCells,Value.cells]
  rfl
 simp[Builtin.clear_,run_underlying Tryz.underlying53,hzc,hst]
theorem Zhd(ps:List PKV)(i:Nat)(hi:i≤ps.length):(cellsK ps).take (i*7)=cellsK (ps.take i)∧(cellsK ps).drop (i*7)=cellsK (ps.drop i):=by
 have e:cellsK ps=cellsK (ps.take i)++cellsK (ps.drop i):=by rw[←ZbI,List.take_append_drop]
 have hl:(cellsK (ps.take i)).length=i*7:=by rw[ZaJ,List.length_take,Nat.min_eq_left hi]
 rw[e]
 exact⟨by rw[←hl];exact List.take_left,by rw[←hl];exact List.drop_left⟩
theorem ZzH{w:World}{B g cap:Nat}(h:OwnP w B (.slice (some ⟨g,0,none⟩) ps.length cap) ps){i:Nat}(hi:i<ps.length):
  OwnP ((w.drew.setCells g (i*7) (cellsK (ps.drop (i+1)))).setCells g ((ps.length-1)*7) zK.cells) B (.slice (some ⟨g,0,none⟩) (ps.length-1) cap) (ps.eraseIdx i)∧
   w.grownBy ((w.drew.setCells g (i*7) (cellsK (ps.drop (i+1)))).setCells g ((ps.length-1)*7) zK.cells) (some g):=by
 have hgb:w.grownBy ((w.drew.setCells g (i*7) (cellsK (ps.drop (i+1)))).setCells g ((ps.length-1)*7) zK.cells) (some g):=
  gb_trans (gb_trans (Zl8 (Zdw w _)) (Zbf g _ _ w.drew) (.inl rfl)) (Zbf g _ _ _) (.inl rfl)
 refine⟨?_,hgb⟩
 rcases h.2 with⟨e,_⟩|⟨g',cap',cur,e,hb,hg,hn,hm,hsz,ht⟩
 ·cases e
 simp only[Value.slice.injEq,Option.some.injEq,Addr.mk.injEq,and_true,true_and]at e
 obtain⟨rfl,rfl⟩:=e
 have hle:=List.length_eraseIdx_of_lt hi
 obtain⟨c1,h1,h2,h3⟩:=ZaM g 59 (cellsK (ps.drop (i+1))) (i*7) w.drew cur hg
 obtain⟨c2,j1,j2,j3⟩:=ZaM g 59 zK.cells ((ps.length-1)*7) _ c1 h1
 refine⟨by rw[ZaJ],.inr ⟨g,cap,c2,by rw[hle],hb,j1,by omega,hm,by rw[j2,h2,hsz],?_⟩⟩
 have hld:(cellsK (ps.drop (i+1))).length=(ps.length-(i+1))*7:=by rw[ZaJ,List.length_drop]
 have hel:cellsK (ps.eraseIdx i)=(cellsK ps).take (i*7)++cellsK (ps.drop (i+1)):=by
  rw[List.eraseIdx_eq_take_drop_succ,ZbI,(Zhd ps i (by omega)).1]
 have hlt:((cellsK ps).take (i*7)).length=i*7:=by rw[List.length_take,ZaJ];omega
 rw[hel,hle]
 apply List.ext_getElem?
 intro j
 by_cases hj:j<(ps.length-1)*7
 ·rw[List.getElem?_take,if_pos hj,Array.getElem?_toList,j3 j (by omega),if_neg (by omega),h3 j (by omega),hld]
  by_cases hji:j<i*7
  ·rw[if_neg (by omega),List.getElem?_append_left (by omega),List.getElem?_take,if_pos hji,←ht,List.getElem?_take,if_pos (by omega),Array.getElem?_toList]
  ·rw[if_pos (by omega),List.getElem?_append_right (by omega),hlt]
 ·rw[List.getElem?_eq_none (by rw[List.length_take];omega),List.getElem?_eq_none (by rw[List.length_append,hlt,hld];omega)]
theorem Zus(B g cap i:Nat)(ps:List PKV)(w:World)(h:OwnP w B (.slice (some ⟨g,0,none⟩) ps.length cap) ps)(hi:i<ps.length)(hl:ps.length≤256):
  Calls Tryz.prog 366 #[.slice (some ⟨g,0,none⟩) ps.length cap,.int .i64 (i:Int),.int .i64 ((i:Int)+1)] w fun e w'=>e=.returned (.slice (some ⟨g,0,none⟩) (ps.length-1) cap)∧OwnP w' B (.slice (some ⟨g,0,none⟩) (ps.length-1) cap) (ps.eraseIdx i)∧w.grownBy w' (some g):=by
 obtain⟨i0,hi0,hz0,hz1,hz2⟩:=info_parts ZeO
 have HE:=hide (ZzH h hi)
 rcases h.2 with⟨e,_⟩|⟨g',cap',cur,e,hb,hg,hn,hm,hsz,ht⟩
 ·cases e
 simp only[Value.slice.injEq,Option.some.injEq,Addr.mk.injEq,and_true,true_and]at e
 obtain⟨rfl,rfl⟩:=e
 have hm:cap≤9223372036854775807:=by simpa [maxLen]using hm
 obtain⟨news,hnews⟩:∃news,news=cellsK (ps.drop (i+1)):=⟨_,rfl⟩
 have hlen:news.length=(ps.length-(i+1))*7:=by rw[hnews,ZaJ,List.length_drop]
 have hcl:∀t,t<cap*7→(w.cell? ⟨g,t,none⟩).isSome=true∧w.frozen? ⟨g,t,none⟩=false:=fun t hlt=>by
  refine⟨?_,by simp[World.frozen?,hg]⟩
  rw[cell_of_row w g _ _ _ _ hg,Array.getElem?_eq_getElem (by omega)]
  rfl
 have hget:∀t u,news[t]? =some u→w.cell? ⟨g,(i+1)*7+t,none⟩=some u:=fun t u hu=>by
  refine h.cellAt ?_
  rw[hnews,←(Zhd ps (i+1) (by omega)).2,List.getElem?_drop]at hu
  exact hu
 obtain⟨A,hA,hsrc⟩:∃A:Addr,(if cap=i+1 then some (⟨g,0,none⟩:Addr)else some ⟨g,(i+1)*7,none⟩)=some A∧Hid (∀t u,news[t]? =some u→w.drew.cell? (A.add t)=some u):=by
  by_cases hc:cap=i+1
  ·refine⟨⟨g,0,none⟩,by simp[hc],fun t u hu=>?_⟩
   have h0:news.length=0:=by rw[hlen];omega
   rw[List.length_eq_zero_iff.1 h0]at hu
   simp at hu
  ·refine⟨⟨g,(i+1)*7,none⟩,by simp[hc],fun t u hu=>?_⟩
   rw[Addr.add_lit]
   exact hget t u hu
 have s1:Hid (news.length=(ps.length-(i+1))*7):=hlen
 have s2:Hid (∀u∈news,u.oneCell'=true):=by rw[hnews];exact ZpW _
 have s3:Hid (∀t,t<news.length→(w.drew.cell? ⟨g,0+i*7+t,none⟩).isSome=true∧w.drew.frozen? ⟨g,0+i*7+t,none⟩=false):=by
  intro t hlt
  rw[hlen]at hlt
  rw[Nat.zero_add]
  exact hcl _ (by omega)
 obtain⟨W1,hW1⟩:∃W1,W1=w.drew.setCells g (0+i*7) news:=⟨_,rfl⟩
 have hbl:∃c1,W1.heap[g]? =some (.cells c1 59 (0,0))∧c1.size=cur.size:=by
  obtain⟨c1,q1,q2, -⟩:=ZaM g 59 news (0+i*7) w.drew cur hg
  exact⟨c1,by rw[hW1];exact q1,q2⟩
 obtain⟨c1,q1,q2⟩:=hbl
 have hclr:∀ty,(Builtin.clear_ #[53] ty #[.slice (some ⟨g,(ps.length-1)*7,none⟩) 1 (cap-(ps.length-1))]).run Tryz.prog W1=.ok (.tuple #[]) (W1.setCells g ((ps.length-1)*7) zK.cells):=fun ty=>
  Zqm W1 ty g _ _ (fun j hj=>by rw[cell_of_row W1 g _ _ _ _ q1,Array.getElem?_eq_getElem (by omega)];rfl) (fun j hj=>by simp[World.frozen?,q1])
 have hE:=unhide HE
 rw[←hnews,←Nat.zero_add (i*7),←hW1]at hE
 have HE2:=hide hE
 have hW:Hid (W1=w.drew.setCells g (0+i*7) news):=hide hW1
 clear hW1 hnews hlen hcl hget h hE HE hb hg hsz ht q1 q2 c1 cur hz0 hz2
 generalize ps.eraseIdx i=es at*
 generalize ps.length=n at*
 obtain⟨N,rfl⟩:∃N,n=N+1:=⟨n-1,by omega⟩
 simp only[Nat.add_sub_cancel,Nat.add_sub_add_right]at*
 have hkk:i+(N-i)=N:=by omega
 have hic:i≤cap:=by omega
 have hjc:i+1≤cap:=by omega
 have hp0:(0:Int)≤(i:Int)+1:=by omega
 have hp1:(i:Int)+1≤(N:Int)+1:=by omega
 have hp2:((i:Int)+1).toNat=i+1:=by omega
 have hp3:(i:Int)≤(i:Int)+1:=by omega
 have hpe:((i:Int)==(i:Int)+1)=false:=by rw[beq_eq_false_iff_ne];omega
 have hcN:¬cap=N:=by omega
 go_enter Tryz.func366,Tryz.ntmps366
 go_wp2_with fail
 go_region_law (refine step_append_room rfl (.tmp 22) (.tmp 25) 53 rfl 59 i0 7 Tryz.underlying53 hi0 hz1 g 0 i cap (by simp[Act.eval,Act.put]) A (N-i) (cap-(i+1)) news (by simp[Act.eval,Act.put]) s1.out hsrc.out s2.out (by omega) s3.out ?_;rw[←hW.out])
 go_wp2
 go_ret
 exact⟨rfl,unhide HE2⟩
end Go.Proofs.YtlhhinlghhjghaaGreatDoor
