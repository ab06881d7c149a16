/-
  Slices of rows of words in memory: what can be read ('VecsAt'), and what is the call's own, each row in a block of its own ('OwnV'). Contracts of echelon.add, own, by and its closure, Reduce: for rows of at most 2^20 words, in every world that holds the table of math/bits.
  Contract of slices.Insert at [][]uint64, one row put into a slice of the call's own: at its end, in place, in new memory. For at most 2^20 rows.
  Slices of rows of the call's own, each row in a block of its own ('OwnV'): what one store, one row more, another call leaves of them. Contracts of echelon.In, of insert's closure and of slices.IndexFunc over it.
  Contracts of echelon.Add and of bucketlineref03.Reduce, Same, bucketlinelaw03.Few: for rows of at most 2^20 words.
  Contracts of bucketlineref03.Same, Add, Basis, Rank and of bucketlinelaw03.Few: for rows of at most 2^20 words.
  Slices of the rows' vectors, of one's own.
-/
import Derived.Test.YtlhhinlghhjghaaGreatDoorU9
import Derived.Test.YtlhhinlghhjghaaGreatDoorU1
import Derived.Test.YtlhhinlghhjghaaGreatDoorU2
import Derived.Lib.Overlaps
import Derived.Lib.AppendZerosOnto
import Derived.Lib.AppendZeros
import Derived.Laws.Externs
import Derived.Laws.IdiomCopy
import Derived.Laws.NewBlocks
import Derived.Deep.RegionLaw
import Derived.Laws.MakeOwn
import Derived.Lib.QuietBelow
namespace Go.Proofs.YtlhhinlghhjghaaGreatDoor
open Go.RowKit
set_option linter.unusedVariables false
set_option linter.unusedSimpArgs false
set_option maxRecDepth 4000
set_option maxHeartbeats 8000000
variable {rs:List (List Nat)}{xs:List Nat}{vs:List Value}{n B:Nat}{a:Option Addr}{u v:Value}{w w':World}
def Turned(w w':World)(u v:Value):Prop:=w.grownBy w' u.ownBlock∧(v.ownBlock=u.ownBlock∨∀k,v.ownBlock=some k→w.heap.size≤k)
def Dis(u v:Value):Prop:=u.ownBlock=none∨u.ownBlock≠v.ownBlock
theorem Dis.symm(h:Dis u v):Dis v u:=by
 rcases h with h|h
 ·by_cases e:v.ownBlock=none
  ·exact .inl e
  ·exact .inr (by rw[h];exact e)
 ·exact .inr fun e=>h e.symm
theorem Zvu(B:Nat)(a:Option Addr)(c:Nat)(xs:List Nat)(a':Option Addr)(m c':Nat)(ys:List Nat)(w:World)(ho:Own w B (.slice a xs.length c) xs)(hB:B≤w.heap.size)(h':RowAt w a' m ys)
  (hap:m=0∨∀ad,a'=some ad→some ad.block≠(Value.slice a xs.length c).ownBlock) (hn:xs.length≤1048576) (hm:m≤1048576):
  Calls Tryz.prog 326 #[.slice a xs.length c,.slice a' m c'] w fun e w'=> ∃v,e=.returned v∧Own w' B v (xorL xs ys)∧Turned w w' (.slice a xs.length c) v:=by
 obtain rfl:m=ys.length:=h'.1.symm
 have hr:RowAt w a xs.length xs:=by
  obtain⟨a1,c1,e,hr⟩:=ho.row
  simp only[Value.slice.injEq]at e
  rw[e.1];exact hr
 by_cases hsw:xs.length<ys.length
 ·have hge:((xs.length:Int)<(ys.length:Int)):=by omega
  have HX:=hide (Zet a xs.length c xs a' ys.length c' ys w hr h' hn hm)
  clear hr h' hap
  go_enter Tryz.func326,Tryz.ntmps326
  go_wp2_with (go_at_call 299;refine(unhide HX).mono ?_;rintro e w1 ⟨v,rfl,ho1,hb⟩)
  go_ret
  exact⟨_,rfl,ho1.mono hB,Zai hb _,.inr fun k hk=>(ho1.lt hk).1⟩
 ·have hge:¬((xs.length:Int)<(ys.length:Int)):=by omega
  go_enter Tryz.func326,Tryz.ntmps326
  go_wp2
  go_loopw [17] (fun i wr=> ∃k:Nat,k≤ys.length∧i=.int .i64 k∧Hid (Own wr B (.slice a xs.length c) (Zdd xs ys k))∧Hid (w.grownBy wr (Value.slice a xs.length c).ownBlock)) (fun i _=>ys.length-(intOf i).toNat)
  case atStart=>exact⟨0,Nat.zero_le _,rfl,hide (by rw[ZcN];exact ho),hide (Zdq _ _)⟩
  case round=>
   obtain⟨k,hk,rfl,HO,HB⟩:=hrel
   by_cases hlt:k<ys.length
   ·obtain⟨b',off',rfl,hc'⟩:=(h'.kept (unhide HB) hap).at hlt
    have hkn:k<xs.length:=by omega
    obtain⟨g,cap,he,hBg,hgs,hcg,hfg⟩:=(unhide HO).at (by rw[Zac];omega)
    rw[Zac]at he
    simp only[Value.slice.injEq,true_and]at he
    obtain⟨rfl,rfl⟩:=he
    have hcell':=hc' k hlt
    have hcell:=hcg k (by rw[Zac];omega)
    have hfz:=hfg k
    rw[Zbm xs ys k k (by omega),if_neg (by omega)]at hcell
    have hxo:=u64_xor_nat (xs.getD k 0) (ys.getD k 0) (ho.1.get k) (h'.2.1.get k)
    have R:=hide (Zhn ho.1 h'.2.1 hkn hBg (unhide HO) (Below.refl B _)).1
    have RG:=hide (fun u=>gb_trans (unhide HB) (Zad _ g k u) (.inl rfl))
    generalize xs.getD k 0=x at*
    generalize ys.getD k 0=y at*
    clear hc' hcg hfg h' HO hr ho hap
    go_wp2
    go_roundw
    case rel=>exact⟨k+1,by omega,by go_num,R,hide (unhide RG _)⟩
    case measure=>simp[intOf];omega
   ·have hke:k=ys.length:=by omega
    subst hke
    rw[ZdQ xs ys (by omega)]at HO
    clear hr h' hap ho
    go_wp2
    go_ret
    exact⟨_,rfl,unhide HO,unhide HB,.inl rfl⟩
theorem ZxK(w:World):RowAt w none 0 []:=⟨rfl,(fun _ h=>by cases h),.inl rfl⟩
theorem Zr8(a:List Nat):xorL a []=a:=by
 apply ZaZ
 ·rw[Zae];simp
 ·intro i _;rw[Zau];simp
theorem ZxY(a:Option Addr)(n c:Nat)(xs:List Nat)(w:World)(h:RowAt w a n xs)(hn:n≤1048576):
  Calls Tryz.prog 301 #[.slice a n c] w fun e w'=> ∃v,e=.returned v∧Own w' w.heap.size v xs∧Below w.heap.size w w':=by
 have hx:=Zet a n c xs none 0 0 [] w h (ZxK w) hn (by omega)
 rw[Zr8]at hx
 have HX:=hide hx
 clear hx h
 go_enter Tryz.func301,Tryz.ntmps301
 go_wp2_with (go_at_call 299;refine(unhide HX).mono ?_;rintro e w1 ⟨v,rfl,ho1,hb⟩)
 go_ret
 exact⟨_,rfl,ho1,hb⟩
def ByAt(w:World)(lo p:Nat)(a:Option Addr)(n c:Nat):Prop:=lo≤p∧w.cell? ⟨p,0,none⟩=some (.slice a n c)
theorem ByAt.below{lo p:Nat}{c:Nat}(h:ByAt w lo p a n c)(hb:Below w.heap.size w w'):ByAt w' lo p a n c:=
 ⟨h.1,(hb.cell (World.block_lt_of_cell? w _ h.2)).trans h.2⟩
theorem ZAt(a:Option Addr)(n c:Nat)(w:World):
  Calls Tryz.prog 302 #[.slice a n c] w fun e w'=>e=.returned (.func (.func 325) #[] #[.pointer (some ⟨w.heap.size,0,none⟩)])∧
   ByAt w' w.heap.size w.heap.size a n c∧Below w.heap.size w w':=by
 have hmf:∀(fn:Fn) (first cap:Array Value) (w:World),(Instr.makeFunc fn first cap).run Tryz.prog w=.ok (.func fn first cap) w:=fun _ _ _ _=>rfl
 go_enter Tryz.func302,Tryz.ntmps302
 go_wp2
 go_ret
 refine⟨rfl,⟨Nat.le_refl _,?_⟩,(Below.refl _ _).alloc (Nat.le_refl _) _⟩
 rw[World.cell?_alloc_at _ _ _ _ rfl];rfl
theorem Turned.after{w1 w2:World}(hb:Below w.heap.size w w1)(h:Turned w1 w2 u v):Turned w w2 u v:=
 ⟨gb_trans (Zai hb _) h.1 (.inl rfl),h.2.imp id fun k j hj=>Nat.le_trans hb.size (k j hj)⟩
theorem Turned.same(w:World)(u:Value):Turned w w u u:=⟨Zdq _ _,.inl rfl⟩
theorem Turned.below(h:Turned w w' u v)(ho:Own w B u xs)(hB:B≤w.heap.size):Below B w w':=Zat h.1 hB fun k hk=>(ho.lt hk).1
theorem ZsQ(xs:List Nat)(k j:Nat):getB (xs.take k) j=(decide (j<64*k)&&getB xs j):=by
 unfold getB
 rw[List.getD_eq_getElem?_getD,List.getD_eq_getElem?_getD,List.getElem?_take]
 by_cases h:j/64<k
 ·rw[if_pos h,show decide (j<64*k)=true by simp;omega];simp
 ·rw[if_neg h,show decide (j<64*k)=false by simp;omega];simp
theorem Zt3{ys:List Nat}(hx:smalls xs)(hy:smalls ys){k:Nat}(hk:k=xs.length∨ys.length≤k):getI xs (firstI (ys.take k))=getI xs (firstI ys):=by
 rcases hk with rfl|hk
 ·have hz:smalls (ys.take xs.length):=fun x h=>hy x (List.mem_of_mem_take h)
  have hb:∀j,(val (ys.take xs.length)).testBit j=(decide (j<64*xs.length)&&(val ys).testBit j):=fun j=>by rw[ZaM hz,ZaM hy,ZsQ]
  have hxo:∀j,64*xs.length≤j→(val xs).testBit j=false:=fun j hj=>by rw[ZaM hx,Zbl xs j hj]
  rw[ZjB hx hz,ZjB hx hy]
  by_cases h0:val (ys.take xs.length)=0
  ·rw[h0]
   by_cases h1:val ys=0
   ·rw[h1]
   ·have h2:64*xs.length≤Ech.low (val ys):=by
     rcases Nat.lt_or_ge (Ech.low (val ys)) (64*xs.length)with h3|h3
     ·have h4:=hb (Ech.low (val ys))
      rw[h0,Ech.low_bit h1,decide_eq_true h3]at h4
      simp at h4
     ·exact h3
    rw[hxo _ h2];simp
  ·have h1:=Ech.low_bit h0
   rw[hb]at h1
   have h2:Ech.low (val (ys.take xs.length))<64*xs.length:=by
    rcases Nat.lt_or_ge (Ech.low (val (ys.take xs.length))) (64*xs.length)with h3|h3
    ·exact h3
    ·rw[decide_eq_false (by omega)]at h1;simp at h1
   rw[decide_eq_true h2,Bool.true_and]at h1
   have h3:Ech.low (val ys)=Ech.low (val (ys.take xs.length)):=Ech.low_unique h1 fun j hj=>by
    have h4:=Ech.low_none h0 hj
    rw[hb,decide_eq_true (by omega),Bool.true_and]at h4
    exact h4
   rw[h3,decide_eq_true (Ech.ne_of_bit h1),decide_eq_true h0]
 ·rw[List.take_of_length_le hk]
theorem Zrp(B lo p:Nat)(a:Option Addr)(c:Nat)(xs:List Nat)(a':Option Addr)(m c':Nat)(ys:List Nat)(w:World)(ht:Tab w)(ho:Own w B (.slice a xs.length c) xs)(hB:B≤w.heap.size)(h':RowAt w a' m ys)
  (hby:ByAt w lo p a' m c') (hmc:m≤c') (hap:m=0∨∀ad,a'=some ad→some ad.block≠(Value.slice a xs.length c).ownBlock) (hn:xs.length≤1048576) (hm:m≤1048576):
  Calls Tryz.prog 325 #[.slice a xs.length c,.pointer (some ⟨p,0,none⟩)] w fun e w'=> ∃v,e=.returned v∧Own w' B v (ZcX xs ys)∧Turned w w' (.slice a xs.length c) v:=by
 have hr:RowAt w a xs.length xs:=by
  obtain⟨a1,c1,e,hr⟩:=ho.row
  simp only[Value.slice.injEq]at e
  rw[e.1];exact hr
 have hml:=h'.1
 obtain⟨k,hkm,hkx,hmin⟩:∃k:Nat,k≤m∧(k=xs.length∨ys.length≤k)∧(if (xs.length:Int)<(m:Int)then(xs.length:Int)else(m:Int))=(k:Int):=by
  by_cases hlt:xs.length<m
  ·exact⟨xs.length,by omega,.inl rfl,by rw[if_pos (by omega)]⟩
  ·exact⟨m,Nat.le_refl _,.inr (by omega),by rw[if_neg (by omega)]⟩
 have hmin2:∀(ts:Array TypeId) (t:TypeId) (w:World),(Builtin.min_ ts t #[.int .i64 (m:Int),.int .i64 (xs.length:Int)]).run Tryz.prog w=.ok (.int .i64 (k:Int)) w:=fun ts t w=>by rw[run_min_int2,hmin]
 clear hmin
 have hsl:=Zle a' m c' k (by omega)
 have hcut:=Zt3 hr.2.1 h'.2.1 hkx
 have hrk:=h'.take hkm
 have hfl:=Zkm hrk.2.1
 rw[hrk.1]at hfl
 have HF:=hide (Zc0 a' k c' (ys.take k) w ht hrk (by omega))
 have HG:=hide (ZiY a xs.length c xs (firstI (ys.take k)) w hr hn (by omega))
 have hq:=hby.2
 have hE:ZcX xs ys=if getI xs (firstI ys)=true then xorL xs ys else xs:=rfl
 rw[←hcut]at hE
 clear hcut hrk hkx
 cases hget:getI xs (firstI (ys.take k))with
 |false=>
  rw[hget]at HG hE
  rw[if_neg (by decide)]at hE
  rw[hE]
  have HO:=hide ho
  clear ho h' hr hby hE hget hap
  generalize firstI (ys.take k)=f at*
  go_enter Tryz.func325,Tryz.ntmps325
  go_wp2_with fail
  refine(unhide HF).mono ?_
  rintro e w1 ⟨rfl,hw⟩
  obtain rfl:=hw.symm
  go_wp2_with (go_at_call 253;refine(unhide HG).mono ?_;rintro e w1 ⟨rfl,d,rfl⟩)
  go_ret
  have hb:Below w.heap.size w (w.drewN d):=below_drewN (Below.refl _ _) d
  exact⟨_,rfl,(unhide HO).below hb,(Turned.same _ _).after hb⟩
 |true=>
  rw[hget]at HG hE
  rw[if_pos rfl]at hE
  rw[hE]
  clear hE hget hr
  have HX:=hide (fun w1 (hb:Below w.heap.size w w1)=>Zvu B a c xs a' m c' ys w1 (ho.below hb) (Nat.le_trans hB hb.size) (h'.below hb) hap hn hm)
  have HP:=hide (fun w1 (hb:Below w.heap.size w w1)=>(hby.below hb).2)
  clear ho h' hby hap
  generalize firstI (ys.take k)=f at*
  go_enter Tryz.func325,Tryz.ntmps325
  go_wp2_with fail
  refine(unhide HF).mono ?_
  rintro e w1 ⟨rfl,hw⟩
  obtain rfl:=hw.symm
  go_wp2_with fail
  refine(unhide HG).mono ?_
  rintro e w1 ⟨rfl,d,hw⟩
  have hb:Below w.heap.size w w1:=by rw[hw];exact below_drewN (Below.refl _ _) d
  have hp:=unhide HP w1 hb
  have HX1:=hide (unhide HX w1 hb)
  have HB:=hide hb
  clear hw hb HX HP HG HF hq ht
  go_wp2_with (go_at_call 326;refine(unhide HX1).mono ?_;rintro e w2 ⟨v,rfl,ho2,ht2⟩)
  go_ret
  exact⟨_,rfl,ho2,ht2.after (unhide HB)⟩
def Caps(w:World)(a:Option Addr)(n:Nat):Prop:=∀b off i ai k ci,a=some ⟨b,off,none⟩→i<n→w.cell? ⟨b,off+i,none⟩=some (.slice ai k ci)→k≤ci
def VecsAt(w:World)(a:Option Addr)(n:Nat)(rs:List (List Nat)):Prop:=
 rs.length=n∧(n=0∨∃b off,a=some ⟨b,off,none⟩∧∀i,i<n→∃ai ci,w.cell? ⟨b,off+i,none⟩=some (.slice ai (rs.getD i []).length ci)∧RowAt w ai (rs.getD i []).length (rs.getD i []))∧Caps w a n
theorem VecsAt.cap{b off i k ci:Nat}{ai:Option Addr}(h:VecsAt w (some ⟨b,off,none⟩) n rs)(hi:i<n)(hc:w.cell? ⟨b,off+i,none⟩=some (.slice ai k ci)):k≤ci:=h.2.2 b off i ai k ci rfl hi hc
theorem VecsAt.at(h:VecsAt w a n rs){i:Nat}(hi:i<n):
  ∃b off,a=some ⟨b,off,none⟩∧∀i,i<n→∃ai ci,w.cell? ⟨b,off+i,none⟩=some (.slice ai (rs.getD i []).length ci)∧RowAt w ai (rs.getD i []).length (rs.getD i []):=by
 rcases h.2.1 with h0|h0
 ·omega
 ·exact h0
theorem VecsAt.below(h:VecsAt w a n rs)(hb:Below w.heap.size w w'):VecsAt w' a n rs:=by
 refine⟨h.1,?_,fun b off i ai k ci e hi hc=>?_⟩
 ·rcases h.2.1 with h0|⟨b,off,rfl,hc⟩
  ·exact .inl h0
  ·refine .inr ⟨b,off,rfl,fun i hi=>?_⟩
   obtain⟨ai,ci,h1,h2⟩:=hc i hi
   exact⟨ai,ci,(hb.cell (World.block_lt_of_cell? w _ h1)).trans h1,h2.below hb⟩
 ·obtain⟨b2,off2,e2,hc2⟩:=h.at hi
  rw[e]at e2
  simp only[Option.some.injEq,Addr.mk.injEq,and_true]at e2
  obtain⟨rfl,rfl⟩:=e2
  obtain⟨a2,c2,h1,h2⟩:=hc2 i hi
  have h3:=(hb.cell (World.block_lt_of_cell? w _ h1)).trans h1
  exact h.2.2 b off i ai k ci e hi (by rw[h1,←h3,hc])
theorem ZfO(a:Option Addr)(n c:Nat)(rs:List (List Nat))(a':Option Addr)(m c':Nat)(xs:List Nat)(w:World)(ht:Tab w)(h:VecsAt w a n rs)(hf:Fit 1048576 rs)(h':RowAt w a' m xs)(hn:n≤1048576)(hm:m≤1048576):
  Calls Tryz.prog 266 #[.slice a n c,.slice a' m c'] w fun e w'=> ∃v,e=.returned v∧Own w' w.heap.size v (reduceL rs xs)∧Below w.heap.size w w':=by
 have hmf:∀(fn:Fn) (first cap:Array Value) (w:World),(Instr.makeFunc fn first cap).run Tryz.prog w=.ok (.func fn first cap) w:=fun _ _ _ _=>rfl
 obtain rfl:m=xs.length:=h'.1.symm
 have HOW:=hide (ZxY a' _ c' xs w h' hm)
 have hxs:=h'.2.1
 clear h'
 go_enter Tryz.func266,Tryz.ntmps266
 go_wp2_with fail
 refine(unhide HOW).mono ?_
 rintro e w1 ⟨v,rfl,ho,hb⟩
 obtain⟨a1,c1,rfl,_⟩:=ho.row
 go_wp2
 go_loopw [5,12] (fun r i wr=> ∃k:Nat,k≤n∧i=.int .i64 k∧∃a1 c1,r=.slice a1 (reduceL (rs.take k) xs).length c1∧Hid (Own wr w.heap.size (.slice a1 (reduceL (rs.take k) xs).length c1) (reduceL (rs.take k) xs))∧Hid (Below w.heap.size w wr)) (fun _ i _=>n-(intOf i).toNat)
 case atStart=>exact⟨0,Nat.zero_le _,rfl,a1,c1,rfl,hide ho,hide hb⟩
 case round=>
  obtain⟨k,hk,rfl,a2,c2,rfl,HO,HB⟩:=hrel
  clear ho hb HOW
  by_cases hlt:k<n
  ·have hB:=unhide HB
   obtain⟨b,off,rfl,hc⟩:=(h.below hB).at hlt
   obtain⟨ai,ci,hcell,hrow⟩:=hc k hlt
   have hrow0:RowAt w ai (rs.getD k []).length (rs.getD k []):=by
    obtain⟨b2,off2,e2,hc2⟩:=h.at hlt
    simp only[Option.some.injEq,Addr.mk.injEq,and_true]at e2
    obtain⟨rfl,rfl⟩:=e2
    obtain⟨ai2,ci2,g1,g2⟩:=hc2 k hlt
    have:=(hB.cell (World.block_lt_of_cell? w _ g1)).trans g1
    rw[hcell]at this
    simp only[Option.some.injEq,Value.slice.injEq,true_and]at this
    rw[this.1];exact g2
   have hlk:=(hf.getD k).2
   have hrs:=Zao (hf.take k) hxs hm
   have HE:=hide (Zml (v:=xs) (show k<rs.length by rw[h.1];exact hlt))
   have hcap:=(h.below hB).cap hlt hcell
   have HBY:=hide (ZAt ai (rs.getD k []).length ci wr)
   have hlo:=hrow0.lt
   have HR:=hide hrow
   clear hc hrow hrow0 h
   generalize rs.getD k []=y at*
   generalize reduceL (rs.take k) xs=r at*
   go_wp2_with fail
   refine(unhide HBY).mono ?_
   rintro e w2 ⟨rfl,hby,hb2⟩
   have ho2:=(unhide HO).below hb2
   have hB2:=below0 hB hb2
   have HS:=hide (Zrp w.heap.size _ _ a2 c2 r ai y.length ci y w2 (ht.below hB2) ho2 hB2.size ((unhide HR).below hb2) hby hcap (hlo.imp id fun hlo ad e e2=>by have:=hlo ad e;have:=(ho2.lt e2.symm).1;omega) hrs.2 hlk)
   have HO2:=hide ho2
   have HB2:=hide hB2
   clear hby hb2 ho2 hB2 HO HB HBY HR hB
   go_wp2_with fail
   refine(unhide HS).mono ?_
   rintro e w3 ⟨v,rfl,ho3,ht3⟩
   have hB3:=(unhide HB2).trans (ht3.below (unhide HO2) (unhide HB2).size)
   obtain⟨a3,c3,rfl,_⟩:=ho3.row
   rw[←unhide HE]
   rw[←unhide HE]at ho3
   have HO3:=hide ho3
   have HB3:=hide hB3
   clear ho3 hB3 ht3 HS HO2 HB2
   go_wp2
   go_roundw
   case rel=>exact⟨k+1,by omega,by go_num,a3,c3,rfl,HO3,HB3⟩
   case measure=>simp[intOf];omega
  ·have hke:reduceL (rs.take k) xs=reduceL rs xs:=Zok (by rw[h.1];omega)
   rw[hke]at HO
   rw[hke]
   clear h hke
   go_wp2
   go_ret
   exact⟨_,rfl,unhide HO,unhide HB⟩
theorem ZeO:(Tryz.prog.info? 32).map (fun i=>(i.zero,i.size,i.bytes))=some (some (.slice none 0 0),1,24):=by kernel_rfl
theorem Zrz(w:World):(sizeOf 32).run Tryz.prog w=.ok 1 w:=by
 obtain⟨i0,hi,_,hz,_⟩:=info_parts ZeO
 simp[sizeOf,typeInfo,hi,hz]
structure OwnV(w:World)(B:Nat)(v:Value)(vs:List Value)(rs:List (List Nat)):Prop where
 top:w.ownsRow B 32 1 v rs.length vs
 rows:∀i u,vs[i]? =some u→Own w B u (rs.getD i [])
 apart:vs.Pairwise Dis
theorem OwnV.len(h:OwnV w B v vs rs):vs.length=rs.length:=by simpa using h.top.1
theorem OwnV.nil(w:World)(B:Nat):OwnV w B (.slice none 0 0) [] []:=⟨World.ownsRow_nil _ _ _ _,(fun i u h=>by simp at h),.nil⟩
theorem ZkG{B':Nat}{cs:List Value}(h:w.ownsRow B 32 1 v n cs)(k:Own w B' u xs):Dis u v:=by
 rcases h.2 with⟨rfl,_⟩|⟨g,cap,cur,rfl,hb,hg,_⟩
 ·by_cases e:u.ownBlock=none
  ·exact .inl e
  ·exact .inr e
 ·rcases k.2.2 with⟨rfl,_⟩|⟨g',cap',cur',rfl,hb',hg',_⟩
  ·exact .inl rfl
  ·right
   intro e
   simp only[Value.ownBlock,Option.some.injEq]at e
   rw[e]at hg'
   rw[hg]at hg'
   simp at hg'
theorem OwnV.dis(h:OwnV w B v vs rs){i:Nat}{u:Value}(hu:vs[i]? =some u):Dis u v:=ZkG h.top (h.rows i u hu)
theorem Zcf{e:TypeId}{cs:List Value}(h:w.ownsRow B e 1 v n cs)(hb:Below w.heap.size w w'):w'.ownsRow B e 1 v n cs:=
 h.kept (Zai hb none) (by cases hv:v.ownBlock<;>simp)
theorem OwnV.below(h:OwnV w B v vs rs)(hb:Below w.heap.size w w'):OwnV w' B v vs rs:=
 ⟨Zcf h.top hb,fun i u hu=>(h.rows i u hu).below hb,h.apart⟩
theorem OwnV.vecs(h:OwnV w B v vs rs):∃a c,v=.slice a rs.length c∧VecsAt w a rs.length rs:=by
 have hl:=h.len
 rcases h.top.2 with⟨rfl,h0⟩|⟨g,cap,cur,rfl,hb,hg,hnc,hcm,hcs,ht⟩
 ·exact⟨none,0,by rw[h0],rfl,.inl h0,fun _ _ _ _ _ _ e=>by cases e⟩
 ·have hcell:∀i (hi:i<vs.length),w.cell? ⟨g,i,none⟩=some vs[i]:=fun i hi=>by
   rw[cell_of_row w g i _ _ _ hg,←Array.getElem?_toList,←List.getElem?_eq_getElem hi,←ht,List.getElem?_take_of_lt (by omega)]
  refine⟨_,cap,rfl,rfl,.inr ⟨g,0,rfl,fun i hi=>?_⟩,fun b off i ai k ci e hi hc=>?_⟩
  ·have hiv:i<vs.length:=by omega
   obtain⟨a,c,e,hr⟩:=(h.rows i vs[i] (List.getElem?_eq_getElem hiv)).row
   refine⟨a,c,?_,hr⟩
   rw[Nat.zero_add,hcell i hiv,e]
  ·simp only[Option.some.injEq,Addr.mk.injEq,and_true]at e
   obtain⟨rfl,rfl⟩:=e
   have hiv:i<vs.length:=by omega
   have ho:=h.rows i vs[i] (List.getElem?_eq_getElem hiv)
   rw[Nat.zero_add,hcell i hiv]at hc
   rw[Option.some.inj hc]at ho
   exact ho.cap
theorem ZpK(r:List Nat)(p i:Nat)(C:List (List Nat))(hp:p≤C.length):(Zge r p C).getD i []=if i<p then C.getD i []else if i=p then r else C.getD (i-1) []:=by
 unfold Zge
 have hl:(C.take p).length=p:=by rw[List.length_take];omega
 rw[List.getD_eq_getElem?_getD]
 split
 ·rename_i h1
  rw[List.getElem?_append_left (by omega),List.getElem?_take_of_lt h1,List.getD_eq_getElem?_getD]
 ·rename_i h1
  rw[List.getElem?_append_right (by omega),hl]
  split
  ·rename_i h2;subst h2;simp
  ·rename_i h2
   rw[show i-p=(i-p-1)+1 by omega,List.getElem?_cons_succ,List.getElem?_drop,List.getD_eq_getElem?_getD,show p+(i-p-1)=i-1 by omega]
theorem OwnV.insert{p:Nat}{s rv:Value}{r:List Nat}(h:OwnV w B v vs rs)(hr:Own w B rv r)(hd:∀u∈vs,Dis u rv)(hp:p≤rs.length)
  (htop:w'.ownsRow B 32 1 s (rs.length+1) (vs.take p++rv::vs.drop p)) (hg:w.grownBy w' v.ownBlock):OwnV w' B s (vs.take p++rv::vs.drop p) (Zge r p rs):=by
 have hl:=h.len
 have hlt:(vs.take p).length=p:=by rw[List.length_take];omega
 refine⟨by rw[ZdU r p rs hp];exact htop,fun i u hu=>?_,?_⟩
 ·rw[ZpK r p i rs hp]
  by_cases h1:i<p
  ·rw[if_pos h1]
   rw[List.getElem?_append_left (by omega),List.getElem?_take_of_lt h1]at hu
   exact(h.rows i u hu).kept hg (h.dis hu)
  ·rw[if_neg h1]
   rw[List.getElem?_append_right (by omega),hlt]at hu
   by_cases h2:i=p
   ·subst h2
    rw[if_pos rfl]
    simp at hu
    subst hu
    exact hr.kept hg (ZkG h.top hr)
   ·rw[if_neg h2]
    rw[show i-p=(i-p-1)+1 by omega,List.getElem?_cons_succ,List.getElem?_drop,show p+(i-p-1)=i-1 by omega]at hu
    exact(h.rows (i-1) u hu).kept hg (h.dis hu)
 ·refine(List.Perm.pairwise_iff (fun h=>Dis.symm h) (List.perm_middle (a:=rv) (l₁:=vs.take p) (l₂:=vs.drop p))).2 ?_
  rw[List.take_append_drop]
  exact List.pairwise_cons.2 ⟨fun u hu=>(hd u hu).symm,h.apart⟩
theorem ZtQ(a:Option Addr)(n c:Nat)(rs:List (List Nat))(a':Option Addr)(m c':Nat)(xs:List Nat)(w:World)(ht:Tab w)(h:VecsAt w a n rs)(hf:Fit 1048576 rs)(h':RowAt w a' m xs)(hn:n≤1048576)(hm:m≤1048576):
  Calls Tryz.prog 283 #[.slice a n c,.slice a' m c'] w fun e w'=>e=.returned (.bool (decide (firstI (reduceL rs xs)<0)))∧Below w.heap.size w w':=by
 have HR:=hide (ZfO a n c rs a' m c' xs w ht h hf h' hn hm)
 have hl:=(Zao hf h'.2.1 (by rw[h'.1];exact hm)).2
 clear h h' hf
 generalize reduceL rs xs=r at*
 go_enter Tryz.func283,Tryz.ntmps283
 go_wp2_with fail
 refine(unhide HR).mono ?_
 rintro e w1 ⟨v,rfl,ho,hb⟩
 obtain⟨a1,c1,rfl,hr⟩:=ho.row
 have HF:=hide (Zc0 a1 r.length c1 r w1 (ht.below hb) hr hl)
 clear ho hr HR
 go_wp2_with (go_at_call 267;refine(unhide HF).mono ?_;rintro e w2 ⟨rfl,rfl⟩)
 go_ret
 exact⟨rfl,hb⟩
theorem Zu7(w:World)(n:Nat)(hn:n≤1048576)(rs:List (List Nat))(hrs:rs=List.replicate n []):
  OwnV (w.alloc (.cells (madeCells #[.slice none 0 0] n) 32)) w.heap.size (.slice (some ⟨w.heap.size,0,none⟩) n n) (List.replicate n (.slice none 0 0)) rs:=by
 subst hrs
 refine⟨⟨by simp,.inr ⟨w.heap.size,n,madeCells #[.slice none 0 0] n,by simp,Nat.le_refl _,heap_alloc_new w _,by simp,by unfold maxLen;omega,by simp[size_madeCells],?_⟩⟩,fun i u hu=>?_,?_⟩
 ·rw[toList_madeCells_one,List.take_of_length_le (by simp)]
 ·rw[List.getElem?_replicate]at hu
  split at hu
  ·rename_i hi
   obtain rfl:=Option.some.inj hu
   rw[List.getD_eq_getElem?_getD,List.getElem?_replicate,if_pos hi]
   exact Own.nil _ _
  ·cases hu
 ·refine List.pairwise_replicate.2 (.inr (.inl rfl))
end Go.Proofs.YtlhhinlghhjghaaGreatDoor
namespace Go.Proofs.YtlhhinlghhjghaaGreatDoor
open Go.RowKit Go.Sort
set_option linter.unusedVariables false
set_option linter.unusedSimpArgs false
set_option maxRecDepth 4000
set_option maxHeartbeats 8000000
variable {rs:List (List Nat)}{vs:List Value}{B:Nat}{v:Value}{w w':World}
theorem OwnV.push{s rv:Value}{r:List Nat}(h:OwnV w B v vs rs)(hr:Own w B rv r)(hd:∀u∈vs,Dis u rv)
  (htop:w'.ownsRow B 32 1 s (rs.length+1) (vs++[rv])) (hg:w.grownBy w' v.ownBlock):OwnV w' B s (vs++[rv]) (rs++[r]):=by
 have hl:=h.len
 have e1:vs.take rs.length++rv::vs.drop rs.length=vs++[rv]:=by rw[List.take_of_length_le (by omega),List.drop_of_length_le (by omega)]
 have e2:Zge r rs.length rs=rs++[r]:=by unfold Zge;simp
 have:=h.insert (p:=rs.length) hr hd (Nat.le_refl _) (by rw[e1];exact htop) hg
 rwa[e1,e2]at this
theorem Zmf{ops:Array Oper}{rest:List Oper}{o:Oper}{act:Act}{Q:Exit→Act→World→Prop}(hgd:o.guard=none)(s x:Operand)
  (ho:o.op=.call {callee:=.builtin .append,args:=#[s,x],argTypes:=#[298,298]}) (B:Nat) (v:Value) (vs:List Value) (rs:List (List Nat)) (bv:Value) (r:List Nat)
  (hs:act.eval s=v) (hx:act.eval x=.slice (some ⟨w.heap.size,0,none⟩) 1 1) (h:OwnV w B v vs rs) (hB:B≤w.heap.size) (hr:Own w B bv r) (hd:∀u∈vs,Dis u bv) (hn:rs.length≤1048576)
  (hK:∀s' w',OwnV w' B s' (vs++[bv]) (rs++[r])→w.grownBy w' v.ownBlock→wpList Tryz.prog ops Q rest (act.put o.dst s') w'):wpList Tryz.prog ops Q (o::rest) act (w.alloc (.cells #[bv] 32)):=by
 obtain⟨i0,hi,hz0,hz1,hz2⟩:=info_parts ZeO
 have hb:Below w.heap.size w (w.alloc (.cells #[bv] 32)):=(Below.refl _ _).alloc (Nat.le_refl _) _
 have h1:=h.below hb
 have hone:bv.oneCell'=true:=by
  obtain⟨a,c,e,_⟩:=hr.row
  rw[e];rfl
 refine wpList_append_own _ hgd s x 298 ho B 32 i0 (.slice none 0 0) 1 24 Tryz.underlying298 hi hz0 hz1 hz2 rfl (by decide) v rs.length vs hs h1.top ⟨w.heap.size,0,none⟩ 1 1 [bv] hx rfl (fun j u hj=>?_)
  (fun u hu=>by rw[List.mem_singleton.1 hu];exact hone) (by unfold maxLen;omega) (by omega) (Nat.le_trans hB hb.size) ?_
 ·match j with
  |0=>
   have hc:(w.alloc (.cells #[bv] 32)).cell? ⟨w.heap.size,0,none⟩=some bv:=by rw[World.cell?_alloc_at _ _ _ _ rfl];rfl
   simpa [Addr.add,hc]using hj
  |j+1=>simp at hj
 ·intro v' w' hown hgrow _
  exact hK v' w' (h1.push (hr.below hb) hd hown hgrow) (gb_trans (Zai hb _) hgrow (.inl rfl))
theorem Zru{u:Value}{xs ys:List Nat}(h:Own w B u xs)(k:Own w' w.heap.size v ys):Dis u v:=by
 by_cases hu:u.ownBlock=none
 ·exact .inl hu
 ·right
  intro e
  obtain⟨b,hb⟩:=Option.ne_none_iff_exists'.1 hu
  have h1:=(h.lt hb).2
  have h2:=(k.lt (by rw[←e];exact hb)).1
  omega
theorem OwnV.dis_new{bv:Value}{ys:List Nat}(h:OwnV w B v vs rs)(k:Own w' w.heap.size bv ys):∀u∈vs,Dis u bv:=by
 intro u hu
 obtain⟨i,hi,rfl⟩:=List.getElem_of_mem hu
 exact Zru (h.rows i _ (List.getElem?_eq_getElem hi)) k
theorem OwnV.shape(h:OwnV w B v vs rs):∃a c,v=.slice a rs.length c:=by
 obtain⟨a,c,e,_⟩:=h.vecs
 exact⟨a,c,e⟩
def vecsL(rs:List RV):List (List Nat):=rs.map fun r=>r.xs
def OwnW(w:World)(B:Nat)(v:Value)(ts:List RV):Prop:=w.ownsRow B 32 1 v ts.length (ts.map fun r=>.slice r.a r.n r.c)
theorem OwnW.vecs{ts:List RV}(h:OwnW w B v ts)(hr:RowsIn w ts):∃a c,v=.slice a ts.length c∧VecsAt w a ts.length (vecsL ts):=by
 have h':w.ownsRow B 32 1 v ts.length (ts.map fun r=>.slice r.a r.n r.c):=h
 rcases h.2 with⟨rfl,h0⟩|⟨g,cap,cur,rfl,hb,hg,hn,hm,hsz,ht⟩
 ·exact⟨none,0,by rw[h0],by simp[vecsL],.inl h0,fun b off i ai k ci e=>by cases e⟩
 ·have hcell:∀i,i<ts.length→w.cell? ⟨g,0+i,none⟩=some (.slice (ts.getD i .dflt).a (ts.getD i .dflt).n (ts.getD i .dflt).c):=fun i hi=>by
   rw[Nat.zero_add,h'.cellAt i (by omega),List.getElem?_map,List.getElem?_eq_getElem hi,List.getD_eq_getElem?_getD,List.getElem?_eq_getElem hi]
   rfl
  have hxs:∀i,i<ts.length→(vecsL ts).getD i []=(ts.getD i .dflt).xs:=fun i hi=>by
   unfold vecsL
   rw[List.getD_eq_getElem?_getD,List.getElem?_map,List.getElem?_eq_getElem hi,List.getD_eq_getElem?_getD,List.getElem?_eq_getElem hi]
   rfl
  refine⟨_,cap,rfl,by simp[vecsL],.inr ⟨g,0,rfl,fun i hi=>?_⟩,fun b off i ai k ci e hi hc=>?_⟩
  ·have hri:=hr.get hi
   rw[hxs i hi]
   refine⟨(ts.getD i .dflt).a,(ts.getD i .dflt).c,?_,?_⟩
   ·rw[hri.1.1];exact hcell i hi
   ·rw[hri.1.1];exact hri.1
  ·simp only[Option.some.injEq,Addr.mk.injEq,and_true]at e
   obtain⟨rfl,rfl⟩:=e
   rw[hcell i hi]at hc
   simp only[Option.some.injEq,Value.slice.injEq]at hc
   have:=(hr.get hi).2
   omega
theorem ZtB{ts:List RV}(hr:RowsIn w ts)(hs:shortR ts):Fit 1048576 (vecsL ts):=fun b hb=>by
 obtain⟨r,hm,rfl⟩:=List.mem_map.1 hb
 obtain⟨i,hi,rfl⟩:=List.mem_iff_getElem.1 hm
 have h1:=hr _ (List.getElem_mem hi)
 have h2:=hs i
 rw[List.getD_eq_getElem?_getD,List.getElem?_eq_getElem hi]at h2
 simp only[Option.getD_some]at h2
 exact⟨h1.1.2.1,by rw[h1.1.1];omega⟩
def ZfP(ts:List RV)(k:Nat):List Value:=(ts.take k).map (fun r=>Value.slice r.a r.n r.c)++List.replicate (ts.length-k) (.slice none 0 0)
theorem ZiD(ts:List RV):ZfP ts 0=List.replicate ts.length (.slice none 0 0):=by simp[ZfP]
theorem Zkc(ts:List RV):ZfP ts ts.length=ts.map fun r=>Value.slice r.a r.n r.c:=by simp[ZfP]
theorem Zii(ts:List RV)(k:Nat)(hk:k<ts.length):(ZfP ts k).set k (.slice (ts.getD k .dflt).a (ts.getD k .dflt).n (ts.getD k .dflt).c)=ZfP ts (k+1):=by
 unfold ZfP
 have hl:((ts.take k).map fun r=>Value.slice r.a r.n r.c).length=k:=by simp;omega
 rw[List.set_append_right _ _ (by omega),hl,Nat.sub_self,List.take_succ_eq_append_getElem hk,List.map_append,List.append_assoc,show ts.length-k=(ts.length-(k+1))+1 by omega,List.replicate_succ,List.set_cons_zero]
 simp[List.getD_eq_getElem?_getD,List.getElem?_eq_getElem hk]
theorem ZxF(n:Nat)(hn:n≤1048576)(wx:World):(Instr.makeSlice 298 (.int .i64 (n:Int)) (.int .i64 (n:Int))).run Tryz.prog wx=.ok (.slice (some ⟨wx.heap.size,0,none⟩) n n) (wx.alloc (.cells (madeCells #[.slice none 0 0] n) 32)):=by
 obtain⟨i0,hi0,hz0,hzs,hzb⟩:=info_parts ZeO
 have:=run_make (P:=Tryz.prog) wx 298 32 i0 (.slice none 0 0) Tryz.underlying298 hi0 hz0 .i64 .i64 (n:Int) (n:Int) (by omega) (Int.le_refl _) (by rw[hzb];omega) (by omega)
 rw[hzs]at this
 simpa [Value.cells]using this
theorem Zxe(w:World)(n:Nat)(hn:n≤1048576):
  (w.alloc (.cells (madeCells #[.slice none 0 0] n) 32)).ownsRow w.heap.size 32 1 (.slice (some ⟨w.heap.size,0,none⟩) n n) n (List.replicate n (.slice none 0 0)):=by
 refine⟨by simp,.inr ⟨w.heap.size,n,madeCells #[.slice none 0 0] n,by simp,Nat.le_refl _,heap_alloc_new w _,by simp,by unfold maxLen;omega,by simp[size_madeCells],?_⟩⟩
 rw[toList_madeCells_one,List.take_of_length_le (by simp)]
end Go.Proofs.YtlhhinlghhjghaaGreatDoor
