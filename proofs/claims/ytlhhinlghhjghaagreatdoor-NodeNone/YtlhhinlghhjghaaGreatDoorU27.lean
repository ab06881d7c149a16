/-
  Contracts of recode.bare, alike, farthest, mixed. Conditions: at most 300 packets whose rows have at most 10 words and 1000 bytes.
  Contract of recode.mixed; what Mix makes, case by case ('mix_case'). Conditions: at most 300 packets whose rows have at most 10 words and 1000 bytes.
  What chapter 18's Choose and Mix make of all that a relay keeps is 'emitD'. No condition.
  Draws in memory: a block of two cells ('Bk2'), draws of which some were used ('DrAt'). Contracts of supply[uint64].take (of the first one), Draws.Next, Below, Used, New. Conditions: lists of at most 2^20 draws, at most 2^40 used.
-/
import Derived.Test.YtlhhinlghhjghaaGreatDoorU26
import Derived.Test.YtlhhinlghhjghaaGreatDoorU25
import Derived.Test.YtlhhinlghhjghaaGreatDoorU16
import Derived.Test.YtlhhinlghhjghaaGreatDoorU24
import Derived.Test.YtlhhinlghhjghaaGreatDoorU2
import Derived.Below
import Derived.Laws.Rows
import Derived.Laws.MakeOwn
import Derived.OwnWalk
import Derived.Deep.RegionHeld
import Derived.BigQuiet
namespace Go.Proofs.YtlhhinlghhjghaaGreatDoor
open Go.RowKit Go.Sort
set_option linter.unusedVariables false
set_option linter.unusedSimpArgs false
set_option maxRecDepth 4000
set_option maxHeartbeats 8000000
variable {ps:List PKV}
theorem ZxE{X:World}{tmps:Array Value}{g:Nat}{o l k z h:Int}{a:Option Addr}{n c:Nat}{s:ByteArray}(ht:tmps.getD 2 undef=.pointer (some ⟨g,0,none⟩))(hk:PkB X g (.int .i64 o) (.int .i64 l) (.int .i64 k) (.int .i64 z) (.int .i64 h) (.slice a n c) (.string s)):
  (results Tryz.f263 tmps).run Tryz.prog X=.ok (.agg #[.int .i64 o,.int .i64 l,.int .i64 k,.int .i64 z,.int .i64 h,.slice a n c,.string s]) X:=by
 obtain⟨r0,r1,r2,r3,r4,r5,r6⟩:=hk.at
 have ht':tmps[2]?.getD undef=.pointer (some ⟨g,0,none⟩):=by simpa using ht
 simp[results,Tryz.results263,go_sem,ht',r0,r1,r2,r3,r4,r5,r6]
theorem Zjw(o l k z hp:Int)(a:Option Addr)(n c:Nat)(s:ByteArray)(w:World):
  Calls Tryz.prog 263 #[.agg #[.int .i64 o,.int .i64 l,.int .i64 k,.int .i64 z,.int .i64 hp,.slice a n c,.string s]] w fun e w'=>e=.returned (.agg #[.int .i64 o,.int .i64 l,.int .i64 k,.int .i64 z,.int .i64 0,.slice none 0 0,.string ⟨#[]⟩])∧Below w.heap.size w w':=by
 have hx1:=(ZaG w (.int .i64 o) (.int .i64 l) (.int .i64 k) (.int .i64 z) (.int .i64 hp) (.slice a n c) (.string s)).below ((Below.refl _ _).alloc (Nat.le_refl _) (.cells #[.int .i64 0,.int .i64 0,.int .i64 0,.int .i64 0,.int .i64 0,.slice none 0 0,.string ⟨#[]⟩] 59))
 have hx2:=ZaG (w.alloc (.cells #[.int .i64 o,.int .i64 l,.int .i64 k,.int .i64 z,.int .i64 hp,.slice a n c,.string s] 59)) (.int .i64 0) (.int .i64 0) (.int .i64 0) (.int .i64 0) (.int .i64 0) (.slice none 0 0) (.string ⟨#[]⟩)
 rw[Zab]at hx2
 have hb0:Below w.heap.size w ((w.alloc (.cells #[.int .i64 o,.int .i64 l,.int .i64 k,.int .i64 z,.int .i64 hp,.slice a n c,.string s] 59)).alloc (.cells #[.int .i64 0,.int .i64 0,.int .i64 0,.int .i64 0,.int .i64 0,.slice none 0 0,.string ⟨#[]⟩] 59)):=Zel (Below.refl _ w) (Below.refl _ _)
 generalize hW:(w.alloc (.cells #[.int .i64 o,.int .i64 l,.int .i64 k,.int .i64 z,.int .i64 hp,.slice a n c,.string s] 59)).alloc (.cells #[.int .i64 0,.int .i64 0,.int .i64 0,.int .i64 0,.int .i64 0,.slice none 0 0,.string ⟨#[]⟩] 59)=W at*
 obtain⟨q0,q1,q2,q3,q4,q5,q6⟩:=hx1.at
 obtain⟨y0,y1,y2,y3,y4,y5,y6⟩:=hx2.at
 have gz:=hx2.frz
 have HX2:=hide hx2
 have HB0:=hide hb0
 clear hx1 hx2 hb0
 go_enter Tryz.func263,Tryz.ntmps263
 go_wp2
 exact bodyPost_ret (ZxE (g:=w.heap.size+1) (X:=set7 W (w.heap.size+1) (.int .i64 o) (.int .i64 l) (.int .i64 k) (.int .i64 z) (.int .i64 0) (.slice none 0 0) (.string ⟨#[]⟩)) rfl ((unhide HX2).sets _ _ _ _ _ _ _)) rfl ⟨rfl,Zbd (unhide HB0) (Nat.le_succ _) _ _ _ _ _ _ _⟩
def allK(ps:List PKV):Bool:=ps.all fun p=>alkD (ps.getD 0 .dflt).pd p.pd
theorem Zuj(q p:PKV):TB (alkD q.pd p.pd) (Zwo p.o p.l p.k p.z 0 [] ⟨#[]⟩ q.o q.l q.k q.z 0 [] ⟨#[]⟩):=by
 unfold TB alkD Zwo
 rw[decide_eq_true_iff]
 show(q.o=p.o∧q.l=p.l∧q.k=p.k∧q.z=p.z)↔_
 constructor
 ·rintro⟨h1,h2,h3,h4⟩
  exact⟨⟨⟨h1.symm,h2.symm,h3.symm,h4.symm,rfl⟩,rfl⟩,rfl⟩
 ·intro h
  exact⟨h.1.1.1.symm,h.1.1.2.1.symm,h.1.1.2.2.1.symm,h.1.1.2.2.2.1.symm⟩
theorem Zig(ps:List PKV)(k:Nat)(hk:k<ps.length):ps.take (k+1)=ps.take k++[ps.getD k .dflt]:=by
 rw[List.take_succ_eq_append_getElem hk]
 simp[List.getD_eq_getElem?_getD,List.getElem?_eq_getElem hk]
theorem Zdg(a:Option Addr)(n c:Nat)(ps:List PKV)(w:World)(ht:Tab w)(h:PksAt w a n ps)(h0:0<n)(hn:n≤1048576):
  Calls Tryz.prog 260 #[.slice a n c] w fun e w'=>e=.returned (.bool (allK ps))∧Below w.heap.size w w':=by
 obtain rfl:=h.1
 obtain⟨b,off,rfl,hcl⟩:=h.at h0
 obtain⟨c0,c1,c2,c3,c4,c5,c6⟩:=hcl 0 h0
 simp only[Nat.zero_mul,Nat.add_zero]at c0 c1 c2 c3 c4 c5 c6
 have h0':(0:Int)<(ps.length:Int):=by omega
 have Hh:=hide h
 have HT:=hide ht
 unfold allK
 generalize ps.getD 0 .dflt=q at*
 have HBR:=hide (Zjw q.o q.l q.k q.z q.h q.r.a q.r.n q.r.c q.r.s w)
 clear h hcl ht
 go_enter Tryz.func260,Tryz.ntmps260
 go_wp2_with (go_at_call 263;refine(unhide HBR).mono ?_;rintro e w1 ⟨rfl,hb1⟩;have HB1:=hide hb1;clear hb1)
 have hpk:=ZaG w1 (.int .i64 q.o) (.int .i64 q.l) (.int .i64 q.k) (.int .i64 q.z) (.int .i64 0) (.slice none 0 0) (.string ⟨#[]⟩)
 have hb2:Below w1.heap.size w1 (w1.alloc (.cells #[.int .i64 q.o,.int .i64 q.l,.int .i64 q.k,.int .i64 q.z,.int .i64 0,.slice none 0 0,.string ⟨#[]⟩] 59)):=(Below.refl _ _).alloc (Nat.le_refl _) _
 generalize hW:w1.alloc (.cells #[.int .i64 q.o,.int .i64 q.l,.int .i64 q.k,.int .i64 q.z,.int .i64 0,.slice none 0 0,.string ⟨#[]⟩] 59)=W at*
 have HPK:=hide hpk
 have HBW:=hide (below0 (unhide HB1) hb2)
 clear hpk hb2 hW HB1 HBR c0 c1 c2 c3 c4 c5 c6
 go_loopw [12] (fun i wr=> ∃m:Nat,m≤ps.length∧i=.int .i64 m∧Hid (∀p∈ps.take m,alkD q.pd p.pd=true)∧Hid (Below W.heap.size W wr)) (fun i _=>ps.length-(intOf i).toNat)
 case atStart=>exact⟨0,Nat.zero_le _,rfl,hide (fun p hp=>by rw[List.take_zero]at hp;cases hp),hide (Below.refl _ _)⟩
 case round=>
  obtain⟨m,hm,rfl,HA,HB⟩:=hrel
  by_cases hlt:m<ps.length
  ·have hbw:=(unhide HBW).trans ((unhide HB).mono (unhide HBW).size)
   obtain⟨b',off',e,hcl⟩:=((unhide Hh).below hbw).at hlt
   simp only[Option.some.injEq,Addr.mk.injEq,and_true]at e
   obtain⟨rfl,rfl⟩:=e
   obtain⟨c0,c1,c2,c3,c4,c5,c6⟩:=hcl m hlt
   have hlt':(m:Int)<(ps.length:Int):=by omega
   have HTK:=hide (Zig ps m hlt)
   have HMM:=hide (show ps.getD m .dflt∈ps from by rw[List.getD_eq_getElem?_getD,List.getElem?_eq_getElem hlt];exact List.getElem_mem hlt)
   clear hcl
   generalize ps.getD m .dflt=p at*
   have hpp:=ZaG wr (.int .i64 p.o) (.int .i64 p.l) (.int .i64 p.k) (.int .i64 p.z) (.int .i64 p.h) (.slice p.r.a p.r.n p.r.c) (.string p.r.s)
   have hb3:Below wr.heap.size wr (wr.alloc (.cells #[.int .i64 p.o,.int .i64 p.l,.int .i64 p.k,.int .i64 p.z,.int .i64 p.h,.slice p.r.a p.r.n p.r.c,.string p.r.s] 59)):=(Below.refl _ _).alloc (Nat.le_refl _) _
   have hqq:=((unhide HPK).below (unhide HB)).below hb3
   generalize hW2:wr.alloc (.cells #[.int .i64 p.o,.int .i64 p.l,.int .i64 p.k,.int .i64 p.z,.int .i64 p.h,.slice p.r.a p.r.n p.r.c,.string p.r.s] 59)=w2 at*
   have htw:=(unhide HT).below (below0 hbw hb3)
   have cB:=Za6 (W:=w2) (fun w' hbx=>Zjw p.o p.l p.k p.z p.h p.r.a p.r.n p.r.c p.r.s w')
   have cS:=Za6 (W:=w2) (fun w' hbx=>Zld p.o p.l p.k p.z 0 none 0 0 [] ⟨#[]⟩ q.o q.l q.k q.z 0 none 0 0 [] ⟨#[]⟩ w' (htw.below hbx) (ZbT _) (ZbT _) (by omega) (by omega) (alkD q.pd p.pd) (Zuj q p))
   obtain⟨x0,x1,x2,x3,x4,x5,x6⟩:=hpp.at
   obtain⟨y0,y1,y2,y3,y4,y5,y6⟩:=hqq.at
   have k0:=cell_regrown x0
   have k1:=cell_regrown x1
   have k2:=cell_regrown x2
   have k3:=cell_regrown x3
   have k4:=cell_regrown x4
   have k5:=cell_regrown x5
   have k6:=cell_regrown x6
   have l0:=cell_regrown y0
   have l1:=cell_regrown y1
   have l2:=cell_regrown y2
   have l3:=cell_regrown y3
   have l4:=cell_regrown y4
   have l5:=cell_regrown y5
   have l6:=cell_regrown y6
   have HB3:=hide (below0 (unhide HB) hb3)
   clear hpp hqq hb3 htw hbw x0 x1 x2 x3 x4 x5 x6 y0 y1 y2 y3 y4 y5 y6
   cases hv:alkD q.pd p.pd
   ·rw[hv]at cS
    have HE:Hid ((ps.all fun p=>alkD q.pd p.pd)=false):=hide (by rw[List.all_eq_false];exact⟨p,unhide HMM,by rw[hv];decide⟩)
    clear HTK HMM HA hv
    go_wp2_with fail
    refine wp_region_quiet_below (by kernel_rfl) (by kernel_rfl) ?_
    repeat (with_reducible refine wpQuiet_step (fun K hK=>?_);go_simp;first|(with_reducible refine hK _ ?_;clear hK K)|(apply Exists.intro;apply And.intro;(intro _;first|(go_at_call 263;exact cB _ _)|(go_at_call 229;exact cS _ _));with_reducible refine hK _ ?_;clear hK K))
    refine wpQuiet_nil ?_
    intro _ hw'
    obtain⟨⟨dq,osq⟩,hw''⟩:=hw'
    subst hw''
    have HBR:=hide (below0 (unhide HB3) (below_regrown w2 dq osq))
    clear cB cS k0 k1 k2 k3 k4 k5 k6 l0 l1 l2 l3 l4 l5 l6
    generalize grow (redrawn w2 dq) osq=w3 at*
    go_wp2
    go_ret
    exact⟨by rw[unhide HE];rfl,(unhide HBW).trans ((unhide HBR).mono (unhide HBW).size)⟩
   ·rw[hv]at cS
    have HE:Hid (∀p∈ps.take (m+1),alkD q.pd p.pd=true):=hide (fun x hx=>by
     rw[unhide HTK,List.mem_append,List.mem_singleton]at hx
     rcases hx with hx|rfl
     ·exact unhide HA x hx
     ·exact hv)
    clear HTK HMM HA hv
    go_wp2_with fail
    refine wp_region_quiet_below (by kernel_rfl) (by kernel_rfl) ?_
    repeat (with_reducible refine wpQuiet_step (fun K hK=>?_);go_simp;first|(with_reducible refine hK _ ?_;clear hK K)|(apply Exists.intro;apply And.intro;(intro _;first|(go_at_call 263;exact cB _ _)|(go_at_call 229;exact cS _ _));with_reducible refine hK _ ?_;clear hK K))
    refine wpQuiet_nil ?_
    intro _ hw'
    obtain⟨⟨dq,osq⟩,hw''⟩:=hw'
    subst hw''
    have HBR:=hide (below0 (unhide HB3) (below_regrown w2 dq osq))
    clear cB cS k0 k1 k2 k3 k4 k5 k6 l0 l1 l2 l3 l4 l5 l6
    generalize grow (redrawn w2 dq) osq=w3 at*
    go_wp2
    go_roundw
    case rel=>exact⟨m+1,by omega,by go_num,HE,HBR⟩
    case measure=>simp[intOf];omega
  ·have hke:ps.take m=ps:=List.take_of_length_le (by omega)
   rw[hke]at HA
   have HE:Hid ((ps.all fun p=>alkD q.pd p.pd)=true):=hide (List.all_eq_true.2 (unhide HA))
   go_wp2
   go_ret
   exact⟨by rw[unhide HE];rfl,(unhide HBW).trans ((unhide HB).mono (unhide HBW).size)⟩
def hopT(ps:List PKV)(m:Nat):Int:=(ps.take m).foldl (fun a p=>max a p.h) (ps.getD 0 .dflt).h
theorem Zr4{m:Nat}(h:m<ps.length):hopT ps (m+1)=max (hopT ps m) (ps.getD m .dflt).h:=by
 unfold hopT
 rw[Zig ps m h,List.foldl_append]
 rfl
theorem ZvR(h:0<ps.length):hopT ps ps.length=hopX (ps.map PKV.pd):=by
 cases ps with
 |nil=>simp at h
 |cons p Q=>
  unfold hopT
  rw[List.take_length]
  show(p::Q).foldl _ p.h=(Q.map PKV.pd).foldl _ p.h
  rw[List.foldl_cons,List.foldl_map,Int.max_self]
  rfl
theorem Zk1(a:Option Addr)(n c:Nat)(ps:List PKV)(w:World)(h:PksAt w a n ps)(h0:0<n)(hn:n≤1048576):
  Calls Tryz.prog 261 #[.slice a n c] w fun e w'=>e=.returned (.int .i64 (hopX (ps.map PKV.pd)))∧Below w.heap.size w w':=by
 obtain rfl:=h.1
 obtain⟨b,off,rfl,hcl⟩:=h.at h0
 obtain⟨c0,c1,c2,c3,c4,c5,c6⟩:=hcl 0 h0
 simp only[Nat.zero_mul,Nat.add_zero]at c0 c1 c2 c3 c4 c5 c6
 have h0':(0:Int)<(ps.length:Int):=by omega
 have Hh:=hide h
 have HE:=hide (ZvR h0)
 have HH0:=hide (show(ps.getD 0 .dflt).h=hopT ps 0 from rfl)
 have hmax:=Zfl
 generalize ps.getD 0 .dflt=q at*
 clear h hcl
 go_enter Tryz.func261,Tryz.ntmps261
 go_wp2
 go_loopw [3,12] (fun hv i wr=> ∃m:Nat,m≤ps.length∧i=.int .i64 m∧hv=.int .i64 (hopT ps m)∧Hid (Below w.heap.size w wr)) (fun _ i _=>ps.length-(intOf i).toNat)
 case atStart=>exact⟨0,Nat.zero_le _,rfl,by rw[unhide HH0],hide (Below.refl _ _)⟩
 case round=>
  obtain⟨m,hm,rfl,rfl,HB⟩:=hrel
  clear c0 c1 c2 c3 c4 c5 c6 HH0
  by_cases hlt:m<ps.length
  ·obtain⟨b',off',e,hcl⟩:=((unhide Hh).below (unhide HB)).at hlt
   simp only[Option.some.injEq,Addr.mk.injEq,and_true]at e
   obtain⟨rfl,rfl⟩:=e
   obtain⟨c0,c1,c2,c3,c4,c5,c6⟩:=hcl m hlt
   have hlt':(m:Int)<(ps.length:Int):=by omega
   have HS:=hide (Zr4 hlt)
   clear hcl
   generalize ps.getD m .dflt=p at*
   have HB3:=hide (show Below w.heap.size w (wr.alloc (.cells #[.int .i64 p.o,.int .i64 p.l,.int .i64 p.k,.int .i64 p.z,.int .i64 p.h,.slice p.r.a p.r.n p.r.c,.string p.r.s] 59)) from below0 (unhide HB) ((Below.refl _ _).alloc (Nat.le_refl _) _))
   go_wp2
   go_roundw
   case rel=>exact⟨m+1,by omega,by go_num,by rw[unhide HS],HB3⟩
   case measure=>simp[intOf];omega
  ·obtain rfl:m=ps.length:=by omega
   rw[unhide HE]
   go_wp2
   go_ret
   exact⟨rfl,unhide HB⟩
def rowsK(ps:List PKV):List RV:=ps.map PKV.r
theorem ZaK(ps:List PKV):(rowsK ps).length=ps.length:=by simp[rowsK]
theorem ZkQ{i:Nat}(hi:i<ps.length):(rowsK ps).getD i .dflt=(ps.getD i .dflt).r:=by
 unfold rowsK
 rw[List.getD_eq_getElem?_getD,List.getElem?_map,List.getElem?_eq_getElem hi,List.getD_eq_getElem?_getD,List.getElem?_eq_getElem hi]
 rfl
theorem KsIn.rows{w:World}(h:KsIn w ps):RowsIn w (rowsK ps):=fun r hr=>by
 obtain⟨p,hp,rfl⟩:=List.mem_map.1 hr
 exact h p hp
theorem ZiO(h:ZqS ps){p:PKV}(hp:p∈ps):p.r.n≤10∧p.r.s.size≤1000:=by
 obtain⟨i,hi,rfl⟩:=List.mem_iff_getElem.1 hp
 have:=h i
 rwa[List.getD_eq_getElem?_getD,List.getElem?_eq_getElem hi]at this
theorem shortP_rows(h:∀p∈ps,p.r.n≤10∧p.r.s.size≤1000):shortR (rowsK ps):=ZwY fun r hr=>by
 obtain⟨p,hp,rfl⟩:=List.mem_map.1 hr
 exact h p hp
theorem Zs7(ps:List PKV):vecX (ps.map PKV.pd)=vecL (rowsK ps):=by
 unfold vecX vecL rowsK
 rw[List.foldl_map,List.foldl_map]
 rfl
theorem ZrX(ps:List PKV):txtX (ps.map PKV.pd)=sumL ((rowsK ps).map fun r=>r.s):=by
 unfold txtX sumL rowsK
 rw[List.foldl_map,List.map_map,List.foldl_map]
 rfl
theorem Zxd{us:List PKV}(h:0<us.length):mixL (us.map PKV.pd)=if allK us=true∧0<cnt (vecL (rowsK us))∧hopX (us.map PKV.pd)<15 then some ⟨(us.getD 0 .dflt).o,(us.getD 0 .dflt).l,(us.getD 0 .dflt).k,(us.getD 0 .dflt).z,IntKind.i64.wrap (hopX (us.map PKV.pd)+1),vecL (rowsK us),st (sumL ((rowsK us).map fun r=>r.s))⟩else none:=by
 cases us with
 |nil=>simp at h
 |cons p Q=>
  rw[←Zs7,←ZrX]
  rw[List.map_cons,ZdX]
  have e:(∀r∈Q.map PKV.pd,alkD p.pd r=true)↔allK (p::Q)=true:=by
   unfold allK
   rw[List.all_eq_true]
   constructor
   ·intro h1 x hx
    rcases List.mem_cons.1 hx with rfl|hx
    ·exact Zi1 _
    ·exact h1 _ (List.mem_map_of_mem hx)
   ·intro h1 x hx
    obtain⟨y,hy,rfl⟩:=List.mem_map.1 hx
    exact h1 y (List.mem_cons_of_mem _ hy)
  simp only[e]
  rfl
theorem Zse(a:Option Addr)(n c:Nat)(ps:List PKV)(w:World)(h:PksAt w a n ps)(hk:KsIn w ps)(hs:∀p∈ps,p.r.n≤10∧p.r.s.size≤1000)(hn:n≤300):
  Calls Tryz.prog 262 #[.slice a n c] w fun e w'=> ∃v,e=.returned (.agg #[v,.string (st (sumL ((rowsK ps).map fun r=>r.s)))])∧Own w' w.heap.size v (vecL (rowsK ps))∧Below w.heap.size w w':=by
 obtain rfl:=h.1
 have hb0:=(Below.refl w.heap.size w).alloc (Nat.le_refl _) (.cells #[.slice none 0 0,.string ⟨#[]⟩] 57)
 have hX:=Zd0 w (.slice none 0 0) (.string ⟨#[]⟩)
 have hsz:(w.alloc (.cells #[.slice none 0 0,.string ⟨#[]⟩] 57)).heap.size=w.heap.size+1:=by simp
 have hP:=h.below hb0
 have hK:=hk.below hb0
 generalize hWW:w.alloc (.cells #[.slice none 0 0,.string ⟨#[]⟩] 57)=W at*
 have HP:=hide hP
 have HK:=hide hK
 have HX:=hide hX
 have HB0:=hide hb0
 have HSZ:=hide hsz
 have HS:=hide (shortP_rows hs)
 have hmk:=Zoo ps.length (by omega) W
 rw[hsz]at hmk
 have hmd:=Zm1 W ps.length (by omega) (filR (rowsK ps) 0) (by rw[Zg1,ZaK])
 have hbm:Below W.heap.size W (W.alloc (.cells (madeCells #[.slice none 0 0,.string ⟨#[]⟩] (ps.length*2)) 57)):=(Below.refl _ _).alloc (Nat.le_refl _) _
 rw[hsz]at hmd
 have HM:=hide hmd
 have HBM:=hide hbm
 generalize hW2:W.alloc (.cells (madeCells #[.slice none 0 0,.string ⟨#[]⟩] (ps.length*2)) 57)=W2 at*
 clear h hk hs hb0 hX hP hK hmd hbm hsz
 go_enter Tryz.func262,Tryz.ntmps262
 go_wp2
 clear hWW hW2 hmk
 go_loopw [11] (fun i wr=> ∃k:Nat,k≤ps.length∧i=.int .i64 k∧Hid (OwnS wr (w.heap.size+1) (.slice (some ⟨w.heap.size+1,0,none⟩) ps.length ps.length) (filR (rowsK ps) k))∧Hid (Below W.heap.size W wr)) (fun i _=>ps.length-(intOf i).toNat)
 case atStart=>exact⟨0,Nat.zero_le _,rfl,HM,HBM⟩
 case round=>
  obtain⟨k,hk,rfl,HI,HB⟩:=hrel
  clear HM HBM
  by_cases hlt:k<ps.length
  ·obtain⟨b,off,rfl,hcl⟩:=((unhide HP).below (unhide HB)).at hlt
   obtain⟨c0,c1,c2,c3,c4,c5,c6⟩:=hcl k hlt
   have hlt':(k:Int)<(ps.length:Int):=by omega
   have hS:=Zhj (rowsK ps) k (by rw[ZaK];exact hlt)
   rw[ZkQ hlt]at hS
   clear hcl
   generalize ps.getD k .dflt=p at*
   have hb3:Below wr.heap.size wr (wr.alloc (.cells #[.int .i64 p.o,.int .i64 p.l,.int .i64 p.k,.int .i64 p.z,.int .i64 p.h,.slice p.r.a p.r.n p.r.c,.string p.r.s] 59)):=(Below.refl _ _).alloc (Nat.le_refl _) _
   have hpp:=ZaG wr (.int .i64 p.o) (.int .i64 p.l) (.int .i64 p.k) (.int .i64 p.z) (.int .i64 p.h) (.slice p.r.a p.r.n p.r.c) (.string p.r.s)
   obtain⟨x0,x1,x2,x3,x4,x5,x6⟩:=hpp.at
   have hI:=(unhide HI).below hb3
   have HB3:=hide (below0 (unhide HB) hb3)
   generalize hw3:wr.alloc (.cells #[.int .i64 p.o,.int .i64 p.l,.int .i64 p.k,.int .i64 p.z,.int .i64 p.h,.slice p.r.a p.r.n p.r.c,.string p.r.s] 59)=w3 at*
   have hfl:(filR (rowsK ps) k).length=ps.length:=by rw[Zev _ _ (by rw[ZaK];exact hk),ZaK]
   have hcg:=Zbv (filR (rowsK ps) k) k (by omega)
   have hcell0:=hI.cellAt hcg.1
   have hcell1:=hI.cellAt hcg.2
   have hI':w3.ownsRow (w.heap.size+1) 57 2 (.slice (some ⟨w.heap.size+1,0,none⟩) ps.length ps.length) ps.length (cellsR (filR (rowsK ps) k)):=by
    have:w3.ownsRow (w.heap.size+1) 57 2 (.slice (some ⟨w.heap.size+1,0,none⟩) ps.length ps.length) (filR (rowsK ps) k).length (cellsR (filR (rowsK ps) k)):=hI
    rwa[hfl]at this
   have hfz0:=hI'.frozenAt (k*2)
   have hfz1:=hI'.frozenAt (k*2+1)
   have hs2:=hI.stored k p.r
   rw[hS]at hs2
   have HS2:=hide hs2
   have hge:W.heap.size≤w.heap.size+1:=by have:=unhide HSZ;omega
   have HB2:=hide (((unhide HB3).setCell (p:=⟨w.heap.size+1,k*2,none⟩) hge (.slice p.r.a p.r.n p.r.c)).setCell (p:=⟨w.heap.size+1,k*2+1,none⟩) hge (.string p.r.s))
   clear hI hI' hs2 hS hcg hfl HI HB hpp hb3 HB3
   generalize (filR (rowsK ps) k).getD k .dflt=z at*
   go_wp2
   go_roundw
   case rel=>exact⟨k+1,by omega,by go_num,HS2,HB2⟩
   case measure=>simp[intOf];omega
  ·obtain rfl:k=ps.length:=by omega
   have hI:=unhide HI
   rw[show filR (rowsK ps) ps.length=rowsK ps from by rw[←ZaK ps,Zi9]]at hI
   have hin:=(unhide HK).rows.below (unhide HB)
   obtain⟨hr1,hm1,hc1,hd1⟩:=hI.at' hin
   have HC:=hide (Zy7 (some ⟨w.heap.size+1,0,none⟩) ps.length ps.length (rowsK ps) wr hr1 (unhide HS) (by omega) hc1 hd1)
   have HX1:=hide ((unhide HX).below (unhide HB))
   have HB1:=hide ((unhide HB0).trans ((unhide HB).mono (by have:=unhide HSZ;omega)))
   have hz1:w.heap.size+1≤wr.heap.size:=by have h1:=unhide HSZ;have h2:=(unhide HB).size;omega
   clear hin hr1 hm1 hc1 hd1 HB HX HB0 HSZ HS HP HK hI HI
   go_wp2_with (go_at_call 300;refine(unhide HC).mono ?_;rintro e w3 ⟨v,rfl,ho3,hb3⟩;obtain⟨a2,m2,c2,rfl⟩:∃a m c,v=Value.slice a m c:=(by obtain⟨a,c,e,_⟩:=ho3.row;exact⟨a,_,c,e⟩);obtain⟨⟨x0,x1⟩,f0,f1⟩:=(unhide HX1).below hb3;have HB3:=hide (below0 (unhide HB1) hb3);have HO3:=hide ho3;clear ho3 hb3 HC)
   have y1:=World.cell?_setCell_same (w3.setCell ⟨w.heap.size,0,none⟩ (.slice a2 m2 c2)) ⟨w.heap.size,1,none⟩ (.string (st (sumL ((rowsK ps).map fun r=>r.s)))) ((World.cell?_setCell_other (h:=by simp) ..).trans x1)
   have y0:((w3.setCell ⟨w.heap.size,0,none⟩ (.slice a2 m2 c2)).setCell ⟨w.heap.size,1,none⟩ (.string (st (sumL ((rowsK ps).map fun r=>r.s))))).cell? ⟨w.heap.size,0,none⟩=some (.slice a2 m2 c2):=
    (World.cell?_setCell_other (h:=by simp) ..).trans (World.cell?_setCell_same _ _ _ x0)
   exact bodyPost_ret (v:=.agg #[.slice a2 m2 c2,.string (st (sumL ((rowsK ps).map fun r=>r.s)))]) (by simp[results,Tryz.results262,go_sem,y0,y1]) rfl
    ⟨_,rfl,(((unhide HO3).other (g:=w.heap.size) 0 _ (by omega)).other (g:=w.heap.size) 1 _ (by omega)).mono (by omega),((unhide HB3).setCell (Nat.le_refl _) _).setCell (Nat.le_refl _) _⟩
theorem ZuZ{b n:Nat}(h:b<n):placeN (b:Int) n=b:=by
 have h1:(b:Int).tmod n=b:=by
  rw[←Int.ofNat_tmod,Nat.mod_eq_of_lt h]
 have h2:((b:Int)+n).tmod n=b:=by
  have h3:((b:Int)+n)=((b+n:Nat):Int):=by omega
  rw[h3,←Int.ofNat_tmod,Nat.add_mod_right,Nat.mod_eq_of_lt h]
 unfold placeN
 rw[h1,h2]
 omega
theorem Ztn(ps:List PKV):Zaw (rowsK ps)=vecsD (ps.map PKV.pd):=by
 unfold Zaw rowsK vecsD
 rw[List.map_map,List.map_map]
 rfl
theorem ZyX{b:Nat}{t:Int}(hb:b<ps.length):mixD (ps.map PKV.pd) (Zdt (rowsK ps) (b:Int) t)=emitD (ps.map PKV.pd) b t:=by
 unfold Zdt emitD
 rw[ZaK,if_neg (by omega),ZuZ hb,Ztn,List.length_map]
def Zfk(t:Int):Int:=min (max t (-1099511627776)) 1099511627776
theorem Zu8(t:Int): -1099511627776≤Zfk t∧Zfk t≤1099511627776:=by unfold Zfk;omega
end Go.Proofs.YtlhhinlghhjghaaGreatDoor
namespace Go.Proofs.YtlhhinlghhjghaaGreatDoor
open Go.RowKit
set_option linter.unusedVariables false
set_option linter.unusedSimpArgs false
set_option maxRecDepth 4000
set_option maxHeartbeats 8000000
variable {L:List Nat}{g B n N:Nat}{T:TypeId}{v0 v1:Value}{w w':World}
def Bk2(T:TypeId)(w:World)(g:Nat)(v0 v1:Value):Prop:=w.heap[g]? =some (.cells #[v0,v1] T (0,0))
theorem ZyZ(T:TypeId)(w:World)(v0 v1:Value):Bk2 T (w.alloc (.cells #[v0,v1] T)) w.heap.size v0 v1:=by
 show(w.heap.push _)[w.heap.size]? =_
 simp
theorem Bk2.lt(h:Bk2 T w g v0 v1):g<w.heap.size:=(Array.getElem?_eq_some_iff.1 h).1
theorem Bk2.belowB(h:Bk2 T w g v0 v1)(hb:Below B w w')(hg:g<B):Bk2 T w' g v0 v1:=(hb.block g hg).trans h
theorem Bk2.at0(h:Bk2 T w g v0 v1):w.cell? ⟨g,0,none⟩=some v0:=by
 unfold Bk2 at h
 rw[cell_of_row w g _ _ _ _ h];rfl
theorem Bk2.at1(h:Bk2 T w g v0 v1):w.cell? ⟨g,1,none⟩=some v1:=by
 unfold Bk2 at h
 rw[cell_of_row w g _ _ _ _ h];rfl
theorem Bk2.frz(h:Bk2 T w g v0 v1)(i:Nat):w.frozen? ⟨g,i,none⟩=false:=by
 unfold Bk2 at h
 simp[World.frozen?,h]
theorem Bk2.set0(h:Bk2 T w g v0 v1)(u:Value):Bk2 T (w.setCell ⟨g,0,none⟩ u) g u v1:=heap_setCell_same w g 0 _ _ u h
theorem Bk2.set1(h:Bk2 T w g v0 v1)(u:Value):Bk2 T (w.setCell ⟨g,1,none⟩ u) g v0 u:=heap_setCell_same w g 1 _ _ u h
theorem Bk2.drew(h:Bk2 T w g v0 v1):Bk2 T w.drew g v0 v1:=h
theorem Bk2.apart{a:Option Addr}{c:Nat}{i:Int}(h:Bk2 T w g (.slice a n c) (.int .i64 i)){a':Option Addr}{m:Nat}{xs:List Nat}(hr:RowAt w a' m xs):
  m=0∨∀ad,a'=some ad→some ad.block≠some g:=by
 by_cases hm:m=0
 ·exact .inl hm
 ·refine .inr fun ad ha hg=>?_
  obtain⟨b',off,hab,hc⟩:=hr.at (i:=0) (by omega)
  rw[ha]at hab
  obtain rfl:=Option.some.inj hab
  have h0:=hc 0 (by omega)
  simp only[Option.some.injEq]at hg
  subst hg
  unfold Bk2 at h
  rw[Nat.add_zero,cell_of_row w b' _ _ _ _ h]at h0
  match off,h0 with
  |0,h0=>simp at h0
  |1,h0=>simp at h0
  |k+2,h0=>simp at h0
theorem RowAt.belowB{a:Option Addr}{xs:List Nat}(h:RowAt w a n xs)(hb:Below B w w')(hB:n=0∨∀ad,a=some ad→ad.block<B):RowAt w' a n xs:=by
 refine⟨h.1,h.2.1,?_⟩
 rcases h.2.2 with h0|⟨b,off,rfl,hc⟩
 ·exact .inl h0
 ·rcases hB with h0|hB
  ·exact .inl h0
  ·exact .inr ⟨b,off,rfl,fun i hi=>(hb.cell (p:=⟨b,off+i,none⟩) (hB ⟨b,off,none⟩ rfl)).trans (hc i hi)⟩
def DrAt(w:World)(g B:Nat)(L:List Nat)(N:Nat):Prop:=
 g<B∧smalls L∧∃a n c,Bk2 245 w g (.slice a n c) (.int .i64 (N:Int))∧n≤c∧c≤1048576∧RowAt w a n (L.drop N)∧(n=0∨∀ad,a=some ad→ad.block<B∧∃cur,w.heap[ad.block]? =some (.cells cur 69 (0,0)))
theorem DrAt.below(h:DrAt w g B L N)(hb:Below B w w'):DrAt w' g B L N:=by
 obtain⟨h1,h2,a,n,c,h3,h4,h5,h6,h7⟩:=h
 exact⟨h1,h2,a,n,c,h3.belowB hb h1,h4,h5,h6.belowB hb (h7.imp id fun k ad e=>(k ad e).1),h7.imp id fun k ad e=>⟨(k ad e).1,(k ad e).2.imp fun cur hc=>(hb.block _ (k ad e).1).trans hc⟩⟩
theorem DrAt.lt(h:DrAt w g B L N):g<w.heap.size:=by
 obtain⟨h1,h2,a,n,c,h3,h4,h5,h6,h7⟩:=h
 exact h3.lt
theorem ZnE:Tryz.prog.underlying 32=some (.slice (Tryz.prog.elem 32)):=by kernel_rfl
theorem ZqQ:Tryz.prog.elem 32=69:=by kernel_rfl
theorem Zyl(w:World):(sizeOf 69).run Tryz.prog w=.ok 1 w:=by kernel_rfl
theorem ZzT:(Tryz.prog.info? 69).map (·.size)=some 1:=by kernel_rfl
theorem ZtC(b off n c:Nat)(hc:n+1≤c):∃a',(n=0∨a'=some ⟨b,off+1,none⟩)∧∀w:World,
  (Instr.sliceAt 32 (.slice (some ⟨b,off,none⟩) (n+1) c) (some (.int .i64 1)) none none).run Tryz.prog w=.ok (.slice a' n (c-1)) w:=by
 refine⟨if c=1 then some ⟨b,off,none⟩else some ⟨b,off+1,none⟩,?_,fun w=>?_⟩
 ·by_cases h:c=1
  ·exact .inl (by omega)
  ·exact .inr (by rw[if_neg h])
 ·rw[run_sliceAt_slice _ _ _ _ _ _ ZnE,run_slice_l _ _ _ _ _ ZnE _ _ (by omega) (by omega),ZqQ,Zyl]
  simp[Result.andThen,sliced,Addr.add]
theorem Zsq(b off n c:Nat)(w:World):
  (Instr.sliceAt 32 (.slice (some ⟨b,off,none⟩) n c) none (some (.int .i64 0)) none).run Tryz.prog w=.ok (.slice (some ⟨b,off,none⟩) 0 c) w:=by
 rw[run_sliceAt_slice _ _ _ _ _ _ ZnE,run_slice_h _ _ _ _ _ ZnE _ _ (by omega) (by omega),ZqQ,Zyl]
 simp[Result.andThen,sliced,Addr.add]
theorem Zq3(g b off n c:Nat)(u:Value)(x:Nat)(w:World)(h:Bk2 245 w g (.slice (some ⟨b,off,none⟩) (n+1) c) u)(hc:n+1≤c)(hx:w.cell? ⟨b,off,none⟩=some (.int .u64 (x:Int))):
  Calls Tryz.prog 248 #[.pointer (some ⟨g,0,none⟩),.int .i64 0] w fun e w'=>e=.returned (.int .u64 (x:Int))∧∃a',(n=0∨a'=some ⟨b,off+1,none⟩)∧Bk2 245 w' g (.slice a' n (c-1)) u∧w.grownBy w' (some g):=by
 obtain⟨a',ha',hs1⟩:=ZtC b off n c hc
 have hs2:=Zsq b off (n+1) c
 have hcp:∀(ty:TypeId) (wx:World),(Builtin.copy_ #[32,32] ty #[.slice a' n (c-1),.slice (some ⟨b,off,none⟩) 0 c]).run Tryz.prog wx=.ok (goInt 0) wx:=
  fun ty wx=>run_copy_none wx 32 32 ty 69 _ _ _ _ _ _ Tryz.underlying32 ZzT (Nat.min_eq_left (Nat.zero_le _))
 have h0:=h.at0
 have hf:=h.frz 0
 have H:=hide h
 have hcp:=hcp 3
 clear h
 go_enter Tryz.func248,Tryz.ntmps248
 go_wp2_with fail
 go_region_held (fun w'=>w'.cell? ⟨g,0,none⟩=some (.slice (some ⟨b,off,none⟩) (n+1) c)) (go_keep) (fail)
 go_wp2
 go_ret
 exact⟨rfl,a',ha',((unhide H).set0 _).drew,Zl8 (Zad _ _ _ _)⟩
theorem DrAt.open(h:DrAt w g B L N)(hN:N<L.length):
  ∃b off n c,Bk2 245 w g (.slice (some ⟨b,off,none⟩) (n+1) c) (.int .i64 (N:Int))∧n+1≤c∧c≤1048576∧n=L.length-(N+1)∧(b<B∧∃cur,w.heap[b]? =some (.cells cur 69 (0,0)))∧∀i,i<n+1→w.cell? ⟨b,off+i,none⟩=some (.int .u64 ((L.getD (N+i) 0:Nat):Int)):=by
 obtain⟨h1,h2,a,n,c,h3,h4,h5,h6,h7⟩:=h
 have hl:n=L.length-N:=by rw[←h6.1,List.length_drop]
 obtain⟨b,off,rfl,hc⟩:=h6.at (i:=0) (by omega)
 obtain⟨m,rfl⟩:∃m,n=m+1:=⟨n-1,by omega⟩
 refine⟨b,off,m,c,h3,h4,h5,by omega,?_,fun i hi=>?_⟩
 ·rcases h7 with h7|h7
  ·omega
  ·exact h7 _ rfl
 ·rw[hc i hi]
  simp[List.getD_eq_getElem?_getD,List.getElem?_drop]
theorem DrAt.close{a':Option Addr}{b off c:Nat}(hg:g<B)(hs:smalls L)(hB:Bk2 245 w g (.slice a' n c) (.int .i64 ((N+1:Nat):Int)))(hc:n≤c)(hc2:c≤1048576)(hn:n=L.length-(N+1))
  (ha:n=0∨a'=some ⟨b,off+1,none⟩) (hb:b<B∧∃cur,w.heap[b]? =some (.cells cur 69 (0,0))) (hcell:∀i,i<n+1→w.cell? ⟨b,off+i,none⟩=some (.int .u64 ((L.getD (N+i) 0:Nat):Int))):DrAt w g B L (N+1):=by
 refine⟨hg,hs,a',n,c,hB,hc,hc2,⟨by rw[List.length_drop];omega,fun x hx=>hs x (List.mem_of_mem_drop hx),?_⟩,?_⟩
 ·rcases ha with h0|rfl
  ·exact .inl h0
  ·refine .inr ⟨b,off+1,rfl,fun i hi=>?_⟩
   rw[show off+1+i=off+(i+1) by omega,hcell (i+1) (by omega)]
   simp[List.getD_eq_getElem?_getD,List.getElem?_drop,show N+(i+1)=N+1+i by omega]
 ·rcases ha with h0|rfl
  ·exact .inl h0
  ·exact .inr fun ad e=>by rw[←Option.some.inj e];exact hb
theorem Zj0(g B:Nat)(L:List Nat)(N:Nat)(w:World)(h:DrAt w g B L N)(hN:N≤1099511627776):
  Calls Tryz.prog 221 #[.pointer (some ⟨g,0,none⟩)] w fun e w'=>e=.returned (.int .u64 ((Zbg L (N+1):Nat):Int))∧DrAt w' g B L (N+1)∧w.grownBy w' (some g):=by
 by_cases hlt:N<L.length
 ·have hgB:=h.1
  have hsm:=h.2.1
  obtain⟨b,off,n,c,hb,hc,hc2,hn,hbB,hcell⟩:=h.open hlt
  have hx:=hcell 0 (by omega)
  rw[Nat.add_zero,Nat.add_zero,←Zvp hlt]at hx
  have hbg:b≠g:=by
   intro e
   subst e
   have h0:=hx
   unfold Bk2 at hb
   rw[cell_of_row w b _ _ _ _ hb]at h0
   match off,h0 with
   |0,h0=>simp at h0
   |1,h0=>simp at h0
   |k+2,h0=>simp at h0
  have hT:=Zq3 g b off n c (.int .i64 ((N+1:Nat):Int)) (Zbg L (N+1)) (w.setCell ⟨g,1,none⟩ (.int .i64 ((N+1:Nat):Int))) (hb.set1 _) hc (by rw[World.cell?_setCell_other _ _ _ _ (fun e=>hbg (congrArg Addr.block e).symm)];exact hx)
  have h0:=hb.at0
  have h1:=hb.at1
  have hf:=hb.frz 1
  have h2:(w.setCell ⟨g,1,none⟩ (.int .i64 ((N+1:Nat):Int))).cell? ⟨g,0,none⟩=some (.slice (some ⟨b,off,none⟩) (n+1) c):=(hb.set1 _).at0
  have HC:=hide (fun i hi=>(World.cell?_setCell_other w ⟨g,1,none⟩ ⟨b,off+i,none⟩ (.int .i64 ((N+1:Nat):Int)) (fun e=>hbg (congrArg Addr.block e).symm)).trans (hcell i hi))
  have HT:=hide hT
  have HB:=hide hb
  clear hT hcell hx hb h
  go_enter Tryz.func221,Tryz.ntmps221
  go_wp2_with (go_at_call 248;refine(unhide HT).mono ?_;rintro e w1 ⟨rfl,a',ha',hB1,hg1⟩)
  go_ret
  refine⟨rfl,DrAt.close hgB hsm hB1 (by omega) (by omega) hn ha' ⟨hbB.1,hbB.2.imp fun cur hc=>(hg1.block b (by simpa using(Array.getElem?_eq_some_iff.1 hc).1) (fun e=>hbg (Option.some.inj e))).trans ((Below.heap_setCell _ _ _ _ (fun e=>hbg e)).trans hc)⟩ (fun i hi=>hg1.cell (unhide HC i hi) (fun e=>hbg (Option.some.inj e))),gb_trans (Zad _ _ _ _) hg1 (.inl rfl)⟩
 ·obtain⟨hgB,hsm,a,n,c,hb,hc,hc2,hrow,hbl⟩:=h
  have hn0:n=0:=by rw[←hrow.1,List.length_drop];omega
  subst hn0
  have hcl:DrAt (w.setCell ⟨g,1,none⟩ (.int .i64 ((N+1:Nat):Int))) g B L (N+1):=
   ⟨hgB,hsm,a,0,c,hb.set1 _,hc,hc2,⟨by rw[List.length_drop];omega,fun x hx=>hsm x (List.mem_of_mem_drop hx),.inl rfl⟩,.inl rfl⟩
  have HE:=hide (Zub (L:=L) (n:=N+1) (by omega))
  have h0:=hb.at0
  have h1:=hb.at1
  have hf:=hb.frz 1
  have h2:(w.setCell ⟨g,1,none⟩ (.int .i64 ((N+1:Nat):Int))).cell? ⟨g,0,none⟩=some (.slice a 0 c):=(hb.set1 _).at0
  have h3:(w.setCell ⟨g,1,none⟩ (.int .i64 ((N+1:Nat):Int))).cell? ⟨g,1,none⟩=some (.int .i64 ((N+1:Nat):Int)):=(hb.set1 _).at1
  have HD:=hide hcl
  clear hcl hrow hbl hb
  go_enter Tryz.func221,Tryz.ntmps221
  go_wp2
  go_ret
  refine⟨ZaE ?_,unhide HD,Zad _ _ _ _⟩
  rw[unhide HE,IntKind.wrap_u64]
  omega
theorem Zwh(x n:Nat)(h1:1≤n)(h2:n≤9223372036854775807):(x:Int).tmod (n:Int)=((x%n:Nat):Int)∧x%n≤9223372036854775807:=by
 have:=Nat.mod_lt x h1
 exact⟨by rw[Int.tmod_eq_emod_of_nonneg (by omega)];simp,by omega⟩
theorem Zky(g B:Nat)(L:List Nat)(N n:Nat)(w:World)(h:DrAt w g B L N)(hN:N≤1099511627776)(h1:1≤n)(h2:n≤9223372036854775807):
  Calls Tryz.prog 227 #[.pointer (some ⟨g,0,none⟩),.int .i64 (n:Int)] w fun e w'=>e=.returned (.int .i64 ((Zbg L (N+1)%n:Nat):Int))∧DrAt w' g B L (N+1)∧w.grownBy w' (some g):=by
 have HX:=hide (Zj0 g B L N w h hN)
 have hx:=ZmW h.2.1 (N+1)
 clear h
 generalize Zbg L (N+1)=x at*
 obtain⟨hr,hl⟩:=Zwh x n h1 h2
 generalize x%n=y at*
 go_enter Tryz.func227,Tryz.ntmps227
 go_wp2_with (go_at_call 221;refine(unhide HX).mono ?_;rintro e w1 ⟨rfl,hD,hG⟩)
 go_ret
 exact⟨rfl,hD,hG⟩
theorem ZBb:(Tryz.prog.info? 69).map (fun i=>(i.zero,i.size,i.bytes))=some (some (.int .u64 0),1,8):=by kernel_rfl
theorem ZxY(n:Nat)(hn:n≤1048576)(wx:World):(Instr.makeSlice 32 (.int .i64 (n:Int)) (.int .i64 (n:Int))).run Tryz.prog wx=.ok (.slice (some ⟨wx.heap.size,0,none⟩) n n) (wx.alloc (.cells (madeCells #[.int .u64 0] n) 69)):=by
 obtain⟨i0,hi0,hz0,hzs,hzb⟩:=info_parts ZBb
 have:=run_make (P:=Tryz.prog) wx 32 69 i0 (.int .u64 0) Tryz.underlying32 hi0 hz0 .i64 .i64 (n:Int) (n:Int) (by omega) (Int.le_refl _) (by rw[hzb];omega) (by omega)
 rw[hzs]at this
 simpa [Value.cells]using this
theorem ZA5(a:Option Addr)(n c:Nat)(xs:List Nat)(w:World)(h:RowAt w a n xs)(ty:TypeId):∃w2,(Builtin.copy_ #[32,32] ty #[.slice (some ⟨w.heap.size,0,none⟩) n n,.slice a n c]).run Tryz.prog (w.alloc (.cells (madeCells #[.int .u64 0] n) 69))=.ok (goInt n) w2∧
  RowAt w2 (some ⟨w.heap.size,0,none⟩) n xs∧Below w.heap.size w w2∧(n=0∨∃cur,w2.heap[w.heap.size]? =some (.cells cur 69 (0,0))):=by
 have hb0:Below w.heap.size w (w.alloc (.cells (madeCells #[.int .u64 0] n) 69)):=(Below.refl _ _).alloc (Nat.le_refl _) _
 by_cases h0:n=0
 ·subst h0
  refine⟨_,run_copy_none _ 32 32 ty 69 _ _ _ _ _ _ Tryz.underlying32 ZzT (Nat.min_eq_left (Nat.zero_le _)),⟨h.1,h.2.1,.inl rfl⟩,hb0,.inl rfl⟩
 ·obtain⟨b,off,rfl,hc⟩:=h.at (i:=0) (by omega)
  have hl:(cellsU xs).length=n:=by rw[Zc9];exact h.1
  have hcell:∀j,j<n→(w.alloc (.cells (madeCells #[.int .u64 0] n) 69)).cell? ⟨w.heap.size,0+j,none⟩=some (.int .u64 0):=by
   intro j hj
   rw[World.cell?_alloc_at _ _ _ _ rfl,←Array.getElem?_toList,toList_madeCells_one,List.getElem?_replicate,if_pos (by omega)]
  refine⟨(w.alloc (.cells (madeCells #[.int .u64 0] n) 69)).setCells w.heap.size 0 (cellsU xs),?_,?_,?_,.inr ?_⟩
  ·have:=run_copy_cells (P:=Tryz.prog) (w.alloc (.cells (madeCells #[.int .u64 0] n) 69)) 32 32 ty 69 w.heap.size 0 n n ⟨b,off,none⟩ n c (cellsU xs) Tryz.underlying32 ZzT (by rw[hl];exact(Nat.min_self n).symm) (h.below hb0).news
    (fun j hj=>by rw[hl]at hj;rw[hcell j hj];rfl) (fun j hj=>by unfold World.frozen?;rw[heap_alloc_new];simp) (Zh6 xs)
   rw[hl]at this
   exact this
  ·refine⟨h.1,h.2.1,.inr ⟨_,0,rfl,fun i hi=>?_⟩⟩
   have:=World.cell?_setCells_in w.heap.size (cellsU xs) 0 (w.alloc (.cells (madeCells #[.int .u64 0] n) 69)) (fun j hj=>by rw[hl]at hj;rw[hcell j hj];rfl) i (by rw[hl];exact hi)
   rw[this]
   have h5:=ZdZ xs i (by rw[h.1];exact hi)
   rw[List.getElem?_eq_getElem (by rw[hl];exact hi)]at h5
   exact h5
  ·exact hb0.trans (Zat (Zbf w.heap.size (cellsU xs) 0 _) hb0.size (fun k hk=>by rw[←Option.some.inj hk];exact Nat.le_refl _))
  ·obtain⟨cur',h1,_⟩:=ZaM w.heap.size 69 (cellsU xs) 0 _ _ (heap_alloc_new w (.cells (madeCells #[.int .u64 0] n) 69))
   exact⟨cur',h1⟩
theorem ZAa(a:Option Addr)(n c:Nat)(xs:List Nat)(w:World)(h:RowAt w a n xs)(hn:n≤1048576):
  Calls Tryz.prog 81 #[.slice a n c] w fun e w'=> ∃g,e=.returned (.pointer (some ⟨g,0,none⟩))∧w.heap.size≤g∧DrAt w' g w'.heap.size xs 0∧Below w.heap.size w w':=by
 obtain⟨w2,hcp,hr,hb,hty⟩:=ZA5 a n c xs w h 3
 have HTY:=hide hty
 have hmk:=ZxY n hn w
 have HR:=hide hr
 have HB:=hide hb
 clear h hr hb hty
 go_enter Tryz.func81,Tryz.ntmps81
 go_wp2
 go_ret
 have hB:=unhide HB
 refine⟨w2.heap.size,rfl,hB.size,⟨by rw[Zab];omega,(unhide HR).2.1,some ⟨w.heap.size,0,none⟩,n,n,ZyZ _ _ _ _,Nat.le_refl _,hn,?_,(unhide HTY).imp id fun hty ad e=>⟨?_,?_⟩⟩,hB.alloc hB.size _⟩
 ·exact Zbu (unhide HR) _
 ·rw[←Option.some.inj e,Zab]
  have:=hB.size
  show w.heap.size<_
  omega
 ·obtain⟨cur,hc⟩:=hty
  rw[←Option.some.inj e]
  refine⟨cur,?_⟩
  show(w2.heap.push _)[w.heap.size]? =_
  rw[Array.getElem?_push_lt (Array.getElem?_eq_some_iff.1 hc).1]
  exact(Array.getElem?_eq_getElem _).symm.trans hc
end Go.Proofs.YtlhhinlghhjghaaGreatDoor
