/-
  Contracts of slices.Index, Contains and Clone at ints, recode.around and distance, bucketlineref18.far, bucketlinelaw18.far. Conditions: at most 2^20 ints; a target from -2^40 to 2^40, a degree of at most 2^20.
  What is chosen, in memory ('CcAt': thirty-two places, how many, the xor, its degree); contracts of choice.has, degreeWith, add. Conditions: at most 10 words.
  Contracts of choice.degreeWith and add. Conditions: at most 10 words.
  Contract of choice.next: the row to be chosen now. Conditions: at most 300 rows of at most 10 words, a target from -2^40 to 2^40.
  slices.Sort at []int in this program: the shelf's contract, laid at this program's own numbers, and what it leaves of a slice of the call's own. Condition: at most 2^20 numbers.
-/
import Derived.Test.YtlhhinlghhjghaaGreatDoorU24
import Derived.Test.YtlhhinlghhjghaaGreatDoorU5
import Derived.Test.YtlhhinlghhjghaaGreatDoorU13
import Derived.Test.YtlhhinlghhjghaaGreatDoorU2
import Derived.Test.YtlhhinlghhjghaaGreatDoorU1
import Derived.Test.YtlhhinlghhjghaaGreatDoorU10
import Derived.Deep.RegionHeld3
import Derived.Shelf.Sort.Plain
import Derived.Shelf.Slices.In.SortNone
import Derived.Sort.OwnSortedInts
namespace Go.Proofs.YtlhhinlghhjghaaGreatDoor
open Go.RowKit
set_option linter.unusedVariables false
set_option linter.unusedSimpArgs false
set_option maxRecDepth 4000
set_option maxHeartbeats 8000000
variable {L:List Int}{xs:List Nat}{k d g:Nat}{sv:Value}{w:World}
theorem ZpV(xs:List Int)(k:Nat)(hk:k<xs.length):xs.take (k+1)=xs.take k++[xs.getD k 0]:=by
 rw[List.take_succ_eq_append_getElem hk]
 simp[List.getD_eq_getElem?_getD,List.getElem?_eq_getElem hk]
theorem Zqk(a:Option Addr)(n c:Nat)(xs:List Int)(x:Int)(w:World)(h:IntzAt w a n xs)(hn:n≤1048576):
  Calls Tryz.prog 334 #[.slice a n c,.int .i64 x] w fun e w'=> ∃r:Int,e=.returned (.int .i64 r)∧decide (0≤r)=decide (x∈xs)∧w'=w:=by
 obtain rfl:=h.1
 have Hh:=hide h
 clear h
 go_enter Tryz.func334,Tryz.ntmps334
 go_wp2
 go_loop [8] (fun i=> ∃k:Nat,k≤xs.length∧i=.int .i64 k∧Hid (x∉xs.take k)) (fun i=>xs.length-(intOf i).toNat)
 case atStart=>exact⟨0,Nat.zero_le _,rfl,hide (by rw[List.take_zero];exact List.not_mem_nil)⟩
 case round=>
  obtain⟨k,hk,rfl,HN⟩:=hrel
  by_cases hlt:k<xs.length
  ·obtain⟨b,off,rfl,hcl⟩:=(unhide Hh).at hlt
   have hcell:=hcl k hlt
   have hlt':(k:Int)<(xs.length:Int):=by omega
   have HT:=hide (ZpV xs k hlt)
   have HM:=hide (show xs.getD k 0∈xs from by rw[List.getD_eq_getElem?_getD,List.getElem?_eq_getElem hlt];exact List.getElem_mem hlt)
   clear hcl
   generalize xs.getD k 0=y at*
   by_cases he:x=y
   ·subst he
    go_wp2
    go_ret
    exact⟨_,rfl,⟨fun _=>unhide HM,fun _=>by omega⟩,rfl⟩
   ·go_wp2
    go_round
    case rel=>exact⟨k+1,by omega,by go_num,hide (by rw[unhide HT,List.mem_append,List.mem_singleton];exact fun h=>h.elim (unhide HN) he)⟩
    case measure=>simp[intOf];omega
  ·have hke:xs.take k=xs:=List.take_of_length_le (by omega)
   rw[hke]at HN
   go_wp2
   go_ret
   exact⟨_,rfl,⟨fun h=>absurd h (by decide),fun h=>absurd h (unhide HN)⟩,rfl⟩
theorem ZjN(a:Option Addr)(n c:Nat)(xs:List Int)(x:Int)(w:World)(h:IntzAt w a n xs)(hn:n≤1048576):
  Calls Tryz.prog 323 #[.slice a n c,.int .i64 x] w fun e w'=>e=.returned (.bool (decide (x∈xs)))∧w'=w:=by
 have HC:=hide (Zqk a n c xs x w h hn)
 clear h
 go_enter Tryz.func323,Tryz.ntmps323
 go_wp2_with (go_at_call 334;refine(unhide HC).mono ?_;rintro e w1 ⟨r,rfl,hr,hw1⟩;obtain rfl:=hw1.symm;clear hw1 HC)
 go_ret
 exact⟨rfl,rfl⟩
theorem ZiB(a:Addr)(n c:Nat)(xs:List Int)(w:World)(h:IntzAt w (some a) n xs)(hn:n≤1048576):
  Calls Tryz.prog 57 #[.slice (some a) n c] w fun e w'=> ∃v,e=.returned v∧OwnZ w' w.heap.size v xs∧Below w.heap.size w w':=by
 have hnil:=fun wx=>Lib.run_eql_slice_nil (P:=Tryz.prog) wx 83 3 (some a) n c 0 0 Tryz.underlying83
 obtain⟨i0,hi,hz0,hz1,hz2⟩:=info_parts Zhr
 go_enter Tryz.func57,Tryz.ntmps57
 go_wp2_with (first|(at_builtin;refine wpList_append_own _ rfl (.tmp 5) (.tmp 6) 83 rfl w.heap.size 3 i0 (.int .i64 0) 1 8 Tryz.underlying83 hi hz0 hz1 hz2 rfl (by decide) _ _ _ rfl (World.ownsRow_lit _ #[] 0 (Nat.le_refl _) (by decide) rfl) a n c (cellsZ xs) rfl ?c0 ?c1 ?c2 ?c3 ?c4 ?c5 ?_))
 case c0=>rw[Zaq,h.1,Nat.mul_one]
 case c1=>
  have h2:=h.below ((Below.refl _ _).alloc (Nat.le_refl _) (.cells #[] 3))
  intro j u hj
  obtain⟨b,off,e,hc⟩:=h2.at (i:=j) (by have:=(List.getElem?_eq_some_iff.1 hj).1;rw[Zaq,h.1]at this;exact this)
  simp only[Option.some.injEq]at e
  subst e
  have hjl:j<n:=by have:=(List.getElem?_eq_some_iff.1 hj).1;rw[Zaq,h.1]at this;exact this
  rw[Zbm xs j (by rw[h.1];exact hjl)]at hj
  rw[show(⟨b,off,none⟩:Addr).add j=⟨b,off+j,none⟩ by unfold Addr.add;split<;>simp_all,hc j hjl]
  exact hj
 case c2=>intro u hu;obtain⟨x,_,rfl⟩:=List.mem_map.1 hu;rfl
 case c3=>unfold maxLen;omega
 case c4=>omega
 case c5=>simp
 intro v' w1 hown hgrow _
 have HB:=hide (show Below w.heap.size w w1 from((Below.refl _ _).alloc (Nat.le_refl _) _).grown hgrow (by simp) (fun k hk=>by simp[Value.ownBlock]at hk;omega))
 have HO:=hide (show OwnZ w1 w.heap.size v' xs from by have hl:=h.1;show w1.ownsRow _ _ _ _ xs.length _;rw[hl];simpa using hown)
 clear hown hgrow
 go_wp2
 go_ret
 exact⟨_,rfl,unhide HO,unhide HB⟩
theorem Zo2(b:Int){n:Nat}(hn:0<n):((placeN b n:Nat):Int)=(b.tmod n+n)%n:=by
 rw[(Zoe b hn).1]
 have h3: -(n:Int)<b.tmod n:=by
  have:=Int.lt_tmod_of_pos b (show(0:Int)<n by omega)
  omega
 exact Int.tmod_eq_emod_of_nonneg (by omega)
theorem ZpT(b:Int)(n:Nat)(hn:0<n)(hm:n≤1048576)(hb: -9223372036854775808≤b∧b≤9223372036854775807)(w:World):
  Calls Tryz.prog 255 #[.int .i64 b,.int .i64 (n:Int)] w fun e w'=>e=.returned (.int .i64 ((placeN b n:Nat):Int))∧w'=w:=by
 have hnz:¬((n:Int)=0):=by omega
 have h1:=Zo2 b hn
 have h2:(b.tmod n)<n:=Int.tmod_lt_of_pos _ (by omega)
 have h3: -(n:Int)<b.tmod n:=by
  have:=Int.lt_tmod_of_pos b (show(0:Int)<n by omega)
  omega
 go_enter Tryz.func255,Tryz.ntmps255
 go_wp2
 go_ret
 exact⟨congrArg (fun x=>Ending.returned (.int .i64 x)) h1.symm,rfl⟩
theorem ZqJ(d:Nat)(t:Int)(hd:d≤1048576)(ht: -1099511627776≤t∧t≤1099511627776):IntKind.u64.wrap (max (d:Int) t-IntKind.u64.wrap (min (d:Int) t))=((distN d t:Nat):Int):=by
 rw[IntKind.wrap_u64,IntKind.wrap_u64,ZiG]
 unfold ZdT
 split<;>omega
theorem Zf6(d:Nat)(t:Int)(hd:d≤1048576)(ht: -1099511627776≤t∧t≤1099511627776)(w:World):
  Calls Tryz.prog 296 #[.int .i64 (d:Int),.int .i64 t] w fun e w'=>e=.returned (.int .u64 ((distN d t:Nat):Int))∧w'=w:=by
 have hmax:=Zfl (d:Int) t
 have hmin:=ZgB (d:Int) t
 go_enter Tryz.func296,Tryz.ntmps296
 go_wp2
 go_ret
 exact⟨congrArg (fun x=>Ending.returned (.int .u64 x)) (ZqJ d t hd ht),rfl⟩
def ccL(L:List Int)(k:Nat)(sv:Value)(d:Nat):List Value:=cellsZ L++[.int .i64 (k:Int),sv,.int .i64 (d:Int)]
theorem ZsV(hl:L.length=32){i:Nat}(hi:i<32):(ccL L k sv d)[i]? =some (.int .i64 (L.getD i 0)):=by
 unfold ccL
 rw[List.getElem?_append_left (by rw[Zaq];omega),Zbm L i (by omega)]
theorem Zq2(hl:L.length=32)(j:Nat):(ccL L k sv d)[32+j]? =[Value.int .i64 (k:Int),sv,.int .i64 (d:Int)][j]? :=by
 unfold ccL
 rw[List.getElem?_append_right (by rw[Zaq];omega),Zaq,hl,Nat.add_sub_cancel_left]
theorem Zzd(hl:L.length=32){i:Nat}(hi:i<32)(x:Int):(ccL L k sv d).set i (.int .i64 x)=ccL (L.set i x) k sv d:=by
 unfold ccL
 rw[List.set_append_left _ _ (by rw[Zaq];omega),Zfx]
theorem ZjD(hl:L.length=32)(j:Nat)(x:Value):(ccL L k sv d).set (32+j) x=cellsZ L++[Value.int .i64 (k:Int),sv,.int .i64 (d:Int)].set j x:=by
 unfold ccL
 rw[List.set_append_right _ _ (by rw[Zaq];omega),Zaq,hl,Nat.add_sub_cancel_left]
structure CcAt(w:World)(g:Nat)(L:List Int)(k:Nat)(sv:Value)(xs:List Nat)(d:Nat):Prop where
 blk:BkA 344 w g (ccL L k sv d)
 len:L.length=32
 own:Own w (g+1) sv xs
theorem CcAt.below{w':World}(h:CcAt w g L k sv xs d)(hb:Below w.heap.size w w'):CcAt w' g L k sv xs d:=⟨h.blk.below hb,h.len,h.own.below hb⟩
theorem CcAt.at(h:CcAt w g L k sv xs d):w.cell? ⟨g,32,none⟩=some (.int .i64 (k:Int))∧w.cell? ⟨g,33,none⟩=some sv∧w.cell? ⟨g,34,none⟩=some (.int .i64 (d:Int)):=
 ⟨h.blk.at 32 (Zq2 h.len 0),h.blk.at 33 (Zq2 h.len 1),h.blk.at 34 (Zq2 h.len 2)⟩
theorem CcAt.ints(h:CcAt w g L k sv xs d)(hk:k≤32):IntzAt w (some ⟨g,0,none⟩) k (L.take k):=by
 refine⟨by rw[List.length_take,h.len];omega,.inr ⟨g,0,rfl,fun i hi=>?_⟩⟩
 rw[Nat.zero_add,h.blk.at i (ZsV h.len (by omega)),List.getD_eq_getElem?_getD,List.getD_eq_getElem?_getD,List.getElem?_take,if_pos hi]
theorem CcAt.new(w:World):CcAt (w.alloc (.cells (ccL (List.replicate 32 0) 0 (.slice none 0 0) 0).toArray 344)) w.heap.size (List.replicate 32 0) 0 (.slice none 0 0) [] 0:=
 ⟨Zag _ _ _,by simp,Own.nil _ _⟩
theorem CcAt.place(h:CcAt w g L k sv xs d){i:Nat}(hi:i<32)(x:Int):CcAt (w.setCell ⟨g,i,none⟩ (.int .i64 x)) g (L.set i x) k sv xs d:=by
 refine⟨?_,by rw[List.length_set];exact h.len,h.own.other _ _ (Nat.lt_succ_self _)⟩
 have:=h.blk.set i (.int .i64 x)
 rwa[Zzd h.len hi]at this
theorem CcAt.count(h:CcAt w g L k sv xs d)(k':Nat):CcAt (w.setCell ⟨g,32,none⟩ (.int .i64 (k':Int))) g L k' sv xs d:=by
 refine⟨?_,h.len,h.own.other _ _ (Nat.lt_succ_self _)⟩
 have:=h.blk.set 32 (.int .i64 (k':Int))
 rwa[show(32:Nat)=32+0 from rfl,ZjD h.len 0]at this
theorem CcAt.sum(h:CcAt w g L k sv xs d){u:Value}{ys:List Nat}(ho:Own w (g+1) u ys):CcAt (w.setCell ⟨g,33,none⟩ u) g L k u ys d:=by
 refine⟨?_,h.len,ho.other _ _ (Nat.lt_succ_self _)⟩
 have:=h.blk.set 33 u
 rwa[show(33:Nat)=32+1 from rfl,ZjD h.len 1]at this
theorem CcAt.deg(h:CcAt w g L k sv xs d)(d':Nat):CcAt (w.setCell ⟨g,34,none⟩ (.int .i64 (d':Int))) g L k sv xs d':=by
 refine⟨?_,h.len,h.own.other _ _ (Nat.lt_succ_self _)⟩
 have:=h.blk.set 34 (.int .i64 (d':Int))
 rwa[show(34:Nat)=32+2 from rfl,ZjD h.len 2]at this
theorem ZzX(g:Nat)(L:List Int)(k:Nat)(sv:Value)(xs:List Nat)(d:Nat)(x:Int)(w:World)(h:CcAt w g L k sv xs d)(hk:k≤32):
  Calls Tryz.prog 297 #[.pointer (some ⟨g,0,none⟩),.int .i64 x] w fun e w'=>e=.returned (.bool (decide (x∈L.take k)))∧Below w.heap.size w w':=by
 have hk':(k:Int)≤32:=by omega
 have k0:=cell_regrown h.at.1
 have cC:=Za6 (W:=w) (fun w' hb=>Zin (ZjN (some ⟨g,0,none⟩) k 32 (L.take k) x w' ((h.below hb).ints hk) (by omega)))
 generalize decide (x∈L.take k)=b at*
 clear h
 go_enter Tryz.func297,Tryz.ntmps297
 go_wp2_with fail
 refine wp_region_quiet_below (by kernel_rfl) (by kernel_rfl) ?_
 repeat (with_reducible refine wpQuiet_step (fun K hK=>?_);go_simp;first|(with_reducible refine hK _ ?_;clear hK K)|(apply Exists.intro;apply And.intro;(intro _;first|(go_at_call 323;exact cC _ _));with_reducible refine hK _ ?_;clear hK K))
 refine wpQuiet_nil ?_
 intro _ hw'
 obtain⟨⟨dq,osq⟩,hw''⟩:=hw'
 subst hw''
 go_wp2
 go_ret
 exact⟨rfl,below_regrown _ dq osq⟩
end Go.Proofs.YtlhhinlghhjghaaGreatDoor
namespace Go.Proofs.YtlhhinlghhjghaaGreatDoor
open Go.RowKit Go.Sort
set_option linter.unusedVariables false
set_option linter.unusedSimpArgs false
set_option maxRecDepth 4000
set_option maxHeartbeats 8000000
theorem Zmy(g:Nat)(L:List Int)(k:Nat)(sv:Value)(xs:List Nat)(a:Option Addr)(m c:Nat)(ys:List Nat)(w:World)(h:CcAt w g L k sv xs (cnt xs))(hr:RowAt w a m ys)(hx:xs.length≤10)(hm:m≤10):
  Calls Tryz.prog 298 #[.pointer (some ⟨g,0,none⟩),.slice a m c] w fun e w'=>e=.returned (.int .i64 ((cnt (xorL xs ys):Nat):Int))∧Below w.heap.size w w':=by
 obtain rfl:=hr.1
 obtain⟨sa,sc,rfl,hs⟩:=h.own.row
 have hcap:=h.own.cap
 have hmin:=Zex xs.length ys.length
 have hsl:=Zkl sa xs.length sc (min xs.length ys.length) (by omega)
 obtain⟨hd1,hd2⟩:=Zvu xs ys
 have hmx:min xs.length ys.length≤xs.length:=Nat.min_le_left _ _
 have htk:=List.length_take_le (min xs.length ys.length) xs
 have hrt:=hs.take hmx
 generalize min xs.length ys.length=mn at*
 have k1:=cell_regrown h.at.2.1
 have Hh:=hide h
 have HR:=hide hr
 have hc1:=Zkw xs
 have hc3:=Zkw (xorL (xs.take mn) ys)
 have hzl:=Zae (xs.take mn) ys
 have htl:(xs.take mn).length=mn:=hrt.1
 have HXO:=hide (fun wx (h1:RowAt wx sa mn (xs.take mn)) (h2:RowAt wx a ys.length ys)=>ZeC sa mn sc (xs.take mn) a ys.length c ys wx h1 h2 (by omega) (by omega))
 generalize xorL (xs.take mn) ys=zs at*
 generalize xs.take mn=ts at*
 have hzl':zs.length≤10:=by omega
 have HT:=hide hrt
 have HC2:=hide hd2
 generalize cnt (xorL xs ys)=R at*
 generalize ys.length=ym at*
 generalize xs.length=xm at*
 clear hd2 htk hzl htl
 clear h hr hs hrt
 go_enter Tryz.func298,Tryz.ntmps298
 go_wp2_with fail
 refine wp_region_quiet_below (by kernel_rfl) (by kernel_rfl) ?_
 repeat (with_reducible refine wpQuiet_step (fun K hK=>?_);go_simp;first|(with_reducible refine hK _ ?_;clear hK K))
 refine wpQuiet_nil ?_
 intro _ hw'
 obtain⟨⟨dq,osq⟩,hw''⟩:=hw'
 subst hw''
 have hb:=below_regrown w dq osq
 generalize grow (redrawn w dq) osq=W at*
 have hcc:=(unhide Hh).below hb
 have htt:=(unhide HT).below hb
 have hyy:=(unhide HR).below hb
 have HB:=hide hb
 have HCT:=hide (fun wx (hbx:Below W.heap.size W wx)=>Zbt sa mn sc ts wx (htt.below hbx) (by omega))
 have HXP:=hide (fun wx (hbx:Below W.heap.size W wx)=>unhide HXO wx (htt.below hbx) (hyy.below hbx))
 have HQ:=hide (fun wx (hbx:Below W.heap.size W wx)=>(hcc.below hbx).at.2.2)
 have q0:=hcc.at.2.2
 clear hcc htt hyy hb Hh HT HR k1 hsl hmin
 go_wp2_with fail
 go_region_held3 (fun w'=>w'.cell? ⟨g,34,none⟩=some (.int .i64 (cnt xs:Int))) (go_keep) (first
  |(go_at_call 299;refine(unhide HXP _ (by first|exact unhide D1|exact(Below.refl _ _).drew)).mono ?_;rintro e w1 ⟨v1,rfl,ho1,hb1⟩;obtain⟨a2,m2,c2,rfl,hr2,hm2⟩:∃a m c,v1=Value.slice a m c∧RowAt w1 a m zs∧m≤10:=(by obtain⟨a,c,e,hr⟩:=ho1.row;exact⟨a,_,c,e,hr,hzl'⟩);have D3:=hide (show Below W.heap.size W w1 from below0 (by first|exact unhide D1|exact(Below.refl _ _).drew) hb1);have HR2:=hide hr2;have q0:=unhide HQ w1 (unhide D3);clear ho1 hb1 hr2)
  |(go_at_call 181;refine(Zbt a2 m2 c2 zs _ (unhide HR2) (by omega)).mono ?_;rintro e w1 ⟨rfl,hw1⟩;have D4:=hide (show Below W.heap.size W w1 from by rw[hw1];first|exact unhide D1|exact unhide D3);have q0:=unhide HQ w1 (unhide D4);clear hw1)
  |(go_at_call 181;refine(unhide HCT _ (by first|exact unhide D4|exact unhide D3|exact(Below.refl _ _).drew)).mono ?_;rintro e w1 ⟨rfl,hw1⟩;have D1:=hide (show Below W.heap.size W w1 from by rw[hw1];first|exact unhide D4|exact unhide D3|exact(Below.refl _ _).drew);have q0:=unhide HQ w1 (unhide D1);clear hw1))
 have hwr:IntKind.i64.wrap (IntKind.i64.wrap (((cnt xs:Nat):Int)-((cnt ts:Nat):Int))+((cnt zs:Nat):Int))=((R:Nat):Int):=by
  have h2:=unhide HC2
  rw[IntKind.wrap_i64,IntKind.wrap_i64]
  omega
 rw[hwr]
 have HD:Hid (Below W.heap.size W w1):=by first|exact D4|exact D1
 go_wp2
 go_ret
 exact⟨rfl,below0 (unhide HB) (unhide HD)⟩
theorem Zwn(W:World)(L:List Int)(k:Nat)(sv:Value)(xs:List Nat)(d:Nat)(p:Nat)(a:Option Addr)(m c:Nat)(ys:List Nat)(w:World)(h:CcAt w W.heap.size L k sv xs d)(hb:Below W.heap.size W w)(hr:RowAt W a m ys)(hk:k<32)(hx:xs.length≤10)(hm:m≤10):
  Calls Tryz.prog 257 #[.pointer (some ⟨W.heap.size,0,none⟩),.int .i64 (p:Int),.slice a m c] w fun e w'=>e=.returned (.tuple #[])∧(∃u,CcAt w' W.heap.size (L.set k (p:Int)) (k+1) u (xorL xs ys) (cnt (xorL xs ys)))∧Below W.heap.size W w':=by
 obtain rfl:=hr.1
 have hk':(k:Int)<32:=by omega
 obtain⟨sa,sc,rfl,_⟩:=h.own.row
 obtain⟨q0,q1,q2⟩:=h.at
 have f0:=h.blk.frz k
 have qk:=h.blk.at k (ZsV h.len hk)
 have Hh:=hide h
 have HB:=hide hb
 have HR:=hide hr
 clear h hr hb
 go_enter Tryz.func257,Tryz.ntmps257
 go_wp2_with fail
 go_region
 have h1:=((unhide Hh).place hk (p:Int)).below (Below.refl _ _).drew
 have hb1:=((unhide HB).setCell (p:=⟨W.heap.size,k,none⟩) (Nat.le_refl _) (.int .i64 (p:Int))).trans ((Below.refl _ _).drew)
 generalize (w.setCell ⟨W.heap.size,k,none⟩ (.int .i64 (p:Int))).drew=w1 at*
 clear q0 q1 q2 f0 qk Hh HB
 have f1:=h1.blk.frz 32
 obtain⟨q0,q1,q2⟩:=h1.at
 obtain⟨j,hj,hjk⟩:∃j:Nat,(k:Int)+1=(j:Int)∧j=k+1:=⟨k+1,by omega,rfl⟩
 have HJ:=hide hjk
 have H2:=hide (h1.count j)
 have HB2:=hide (hb1.setCell (p:=⟨W.heap.size,32,none⟩) (Nat.le_refl _) (.int .i64 (j:Int)))
 obtain⟨_,r1,_⟩:=(h1.count j).at
 have hgl:=(h1.count j).blk.lt
 have f3:=fun(wx:World) (hbx:Below (w1.setCell ⟨W.heap.size,32,none⟩ (.int .i64 (j:Int))).heap.size (w1.setCell ⟨W.heap.size,32,none⟩ (.int .i64 (j:Int))) wx)=>((h1.count j).below hbx).blk.frz 33
 clear h1 hb1 hjk
 generalize hw2:w1.setCell ⟨W.heap.size,32,none⟩ (.int .i64 (j:Int))=w2 at*
 have HXO:=hide (ZeC sa xs.length sc xs a ys.length c ys w2 (by obtain⟨_,_,e,hrr⟩:=(unhide H2).own.row;simp only[Value.slice.injEq,true_and]at e;obtain⟨rfl,rfl⟩:=e;exact hrr) ((unhide HR).below (unhide HB2)) (by omega) (by omega))
 have hzl:(xorL xs ys).length≤10:=by rw[Zae];omega
 have HFZ:=hide f3
 clear f3
 go_wp2_with (first
  |(go_at_call 299;refine(unhide HXO).mono ?_;rintro e w3 ⟨v3,rfl,ho3,hb3⟩;obtain⟨a3,m3,c3,rfl⟩:∃a m c,v3=Value.slice a m c:=(by obtain⟨a,c,e,_⟩:=ho3.row;exact⟨a,_,c,e⟩);have h4:=((unhide H2).below hb3).sum (ho3.mono (show W.heap.size+1≤_ from hgl));have HB4:=hide (((unhide HB2).trans (hb3.mono (Nat.le_of_lt hgl))).setCell (p:=⟨W.heap.size,33,none⟩) (Nat.le_refl _) (.slice a3 m3 c3));have f3:=unhide HFZ w3 hb3;have s1:=((unhide H2).below hb3).at.2.1;have s2:=h4.at.2.1;have s3:=h4.at.2.2;have f4:=h4.blk.frz 34;have H4:=hide h4;clear ho3 hb3 h4 HXO H2 HB2)
  |(go_at_call 181;refine(Zbt a3 m3 c3 (xorL xs ys) _ (by obtain⟨_,_,e,hrr⟩:=(unhide H4).own.row;simp only[Value.slice.injEq]at e;obtain⟨rfl,rfl,rfl⟩:=e;exact hrr) (by have h5:=(unhide H4).own.row;obtain⟨_,_,e,hrr⟩:=h5;simp only[Value.slice.injEq]at e;omega)).mono ?_;rintro e w5 ⟨rfl,hw5⟩;obtain rfl:=hw5.symm;clear hw5))
 go_end0
 obtain rfl:=unhide HJ
 exact⟨rfl,⟨_,(unhide H4).deg _⟩,(unhide HB4).setCell (p:=⟨W.heap.size,34,none⟩) (Nat.le_refl _) _⟩
def ZsR:Option Nat→Int
 |none=> -1
 |some b=>b
def Zaw(rs:List RV):List (List Nat):=rs.map fun r=>r.xs
theorem ZeM(rs:List RV):(Zaw rs).length=rs.length:=by simp[Zaw]
theorem Zfp{rs:List RV}{i:Nat}(hi:i<rs.length):(Zaw rs).getD i []=(rs.getD i .dflt).xs:=by
 unfold Zaw
 rw[List.getD_eq_getElem?_getD,List.getElem?_map,List.getElem?_eq_getElem hi,List.getD_eq_getElem?_getD,List.getElem?_eq_getElem hi]
 rfl
theorem Znn(V:List (List Nat))(ch:List Bool)(v:List Nat)(t:Int):∀n,0≤(Zaz V ch v t n).2
 |0=>ZhM _ _
 |n+1=>by
  by_cases h:ZcZ V ch v t n (Zaz V ch v t n).2
  ·rw[ZfB h];exact ZhM _ _
  ·rw[ZgJ h];exact Znn V ch v t n
theorem ZqR(g:Nat)(L:List Int)(k:Nat)(sv:Value)(xs:List Nat)(a:Option Addr)(n c:Nat)(rs:List RV)(t:Int)(ch:List Bool)(ps:List Nat)(w:World)(h:CcAt w g L k sv xs (cnt xs))(hr:RowsAt w a n rs)(hs:shortR rs)(hn:n≤300)(hx:xs.length≤10)(hk:k≤32)(hC:Chn n ch ps)(hL:L.take k=ZaF ps)(ht: -1099511627776≤t∧t≤1099511627776):
  Calls Tryz.prog 256 #[.pointer (some ⟨g,0,none⟩),.slice a n c,.int .i64 t] w fun e w'=>e=.returned (.int .i64 (if k=32 then -1 else ZsR (Zaz (Zaw rs) ch xs t n).1))∧Below w.heap.size w w':=by
 obtain rfl:=hr.1
 obtain⟨q0,q1,q2⟩:=h.at
 by_cases hk2:k=32
 ·subst hk2
  rw[if_pos rfl]
  have q0':w.cell? ⟨g,32,none⟩=some (.int .i64 32):=q0
  clear q0 h hr hC hL
  go_enter Tryz.func256,Tryz.ntmps256
  go_wp2
  go_ret
  exact⟨rfl,Below.refl _ _⟩
 ·rw[if_neg hk2]
  have hk3:¬((k:Int)=32):=by omega
  have hc1:cnt xs≤1048576:=by have:=Zkw xs;omega
  have HD0:=hide (Zf6 (cnt xs) t hc1 ht w)
  have Hh:=hide h
  have HR:=hide hr
  have HS:=hide hs
  have HCH:=hide (show∀i,i<rs.length→decide ((i:Int)∈L.take k)=ch.getD i false from fun i hi=>by rw[hL,Zvo,hC.mem i hi])
  have HN0:=hide (show(distN (cnt xs) t:Int)=((Zaz (Zaw rs) ch xs t 0).2.toNat:Int) from rfl)
  generalize hd:cnt xs=d at*
  clear h hr hs hC hL
  go_enter Tryz.func256,Tryz.ntmps256
  go_wp2_with (go_at_call 296;refine(unhide HD0).mono ?_;rintro e w1 ⟨rfl,hw1⟩;obtain rfl:=hw1.symm;clear hw1 HD0)
  go_loopw [7,8,26] (fun b l i wr=> ∃m:Nat,m≤rs.length∧i=.int .i64 m∧b=.int .i64 (ZsR (Zaz (Zaw rs) ch xs t m).1)∧l=.int .u64 ((Zaz (Zaw rs) ch xs t m).2.toNat:Int)∧Hid (Below w.heap.size w wr)) (fun _ _ i _=>rs.length-(intOf i).toNat)
  case atStart=>exact⟨0,Nat.zero_le _,rfl,rfl,by rw[unhide HN0],hide (Below.refl _ _)⟩
  case round=>
   obtain⟨m,hm,rfl,rfl,rfl,HB⟩:=hrel
   clear HN0
   by_cases hlt:m<rs.length
   ·have hR:=(unhide HR).below (unhide HB)
    obtain⟨b,off,rfl,hcl⟩:=hR.at hlt
    obtain⟨hc0,hc1'⟩:=hcl m hlt
    have hrow:=hR.2.1 m hlt
    have hsh:=(unhide HS m).1
    have hlt':(m:Int)<(rs.length:Int):=by omega
    have hH:=(unhide Hh).below (unhide HB)
    have hbrd:brD (Zaw rs) xs m=cnt (xorL xs (rs.getD m .dflt).xs):=by unfold brD;rw[Zfp hlt]
    have hrl:=hrow.1
    have HYS:=hide (fun hh=>ZfB (V:=Zaw rs) (ch:=ch) (v:=xs) (t:=t) (i:=m) hh)
    have HNO:=hide (fun hh=>ZgJ (V:=Zaw rs) (ch:=ch) (v:=xs) (t:=t) (i:=m) hh)
    have hnp:=Znn (Zaw rs) ch xs t m
    have hchm:=unhide HCH m hlt
    clear hcl hR
    generalize rs.getD m .dflt=r at*
    have hb2:Below wr.heap.size wr (wr.alloc (.cells #[.slice r.a r.n r.c,.string r.s] 57)):=(Below.refl _ _).alloc (Nat.le_refl _) _
    have hb3:=ZcM wr (.slice r.a r.n r.c) (.string r.s)
    generalize hW2:wr.alloc (.cells #[.slice r.a r.n r.c,.string r.s] 57)=w2 at*
    have hH2:=hH.below hb2
    have HHS:=hide (ZzX g L k sv xs d (m:Int) w2 hH2 hk)
    have HB2:=hide (below0 (unhide HB) hb2)
    have HDW:=hide (fun wx (hbx:Below w2.heap.size w2 wx)=>Zmy g L k sv xs r.a r.n r.c r.xs wx (hd▸hH2.below hbx) ((hrow.below hb2).below hbx) hx hsh)
    have HBX:=hide (fun wx (hbx:Below w2.heap.size w2 wx)=>hb3.below hbx)
    have hdl:cnt (xorL xs r.xs)≤1048576:=by have h1:=Zkw (xorL xs r.xs);rw[Zae]at h1;omega
    have HBR:=hide hbrd
    clear hH hH2 hrow hb2 hb3 hbrd
    generalize cnt (xorL xs r.xs)=e1 at*
    have HDI:=hide (fun wx=>Zf6 e1 t hdl ht wx)
    cases hcm:ch.getD m false
    ·rw[hcm]at hchm
     rw[hchm]at HHS
     have HNR:=hide (show ZcZ (Zaw rs) ch xs t m (Zaz (Zaw rs) ch xs t m).2↔0<e1∧distN e1 t<(Zaz (Zaw rs) ch xs t m).2.toNat from by
      unfold ZcZ
      rw[unhide HBR,hcm]
      have h5:=ZiG e1 t
      constructor
      ·rintro⟨_,h1,h2⟩;exact⟨h1,by omega⟩
      ·rintro⟨h1,h2⟩;exact⟨rfl,h1,by omega⟩)
     have HD2:=hide (show(ZdT (brD (Zaw rs) xs m) t).toNat=distN e1 t from by rw[unhide HBR];rfl)
     generalize hZ:Zaz (Zaw rs) ch xs t m=Z at*
     generalize distN e1 t=f1 at*
     by_cases h1:0<e1
     ·have h1':(0:Int)<(e1:Int):=by omega
      by_cases h2:f1<Z.2.toNat
      ·have h2':(f1:Int)<(Z.2.toNat:Int):=by omega
       have HE:=hide (unhide HYS ((unhide HNR).2 ⟨h1,h2⟩))
       clear HYS HNO HNR
       go_wp2_with (first
        |(go_at_call 297;refine(unhide HHS).mono ?_;rintro e w3 ⟨rfl,hb3⟩;have HB3:=hide hb3;obtain⟨x0,x1⟩:=unhide HBX w3 hb3;clear hb3)
        |(go_at_call 298;refine(unhide HDW _ (unhide HB3)).mono ?_;rintro e w4 ⟨rfl,hb4⟩;have HB4:=hide (below0 (unhide HB3) hb4);clear hb4)
        |(go_at_call 296;refine(unhide HDI _).mono ?_;rintro e w5 ⟨rfl,hw5⟩;obtain rfl:=hw5.symm;clear hw5))
       go_roundw
       case rel=>exact⟨m+1,by omega,by go_num,by rw[unhide HE];rfl,by rw[unhide HE];show _=Value.int .u64 (((ZdT (brD (Zaw rs) xs m) t).toNat:Nat):Int);rw[unhide HD2],hide (below0 (unhide HB2) (unhide HB4))⟩
       case measure=>simp[intOf];omega
      ·have h2':¬(f1:Int)<(Z.2.toNat:Int):=by omega
       have HE:=hide (unhide HNO fun hh=>h2 ((unhide HNR).1 hh).2)
       clear HYS HNO HNR
       go_wp2_with (first
        |(go_at_call 297;refine(unhide HHS).mono ?_;rintro e w3 ⟨rfl,hb3⟩;have HB3:=hide hb3;obtain⟨x0,x1⟩:=unhide HBX w3 hb3;clear hb3)
        |(go_at_call 298;refine(unhide HDW _ (unhide HB3)).mono ?_;rintro e w4 ⟨rfl,hb4⟩;have HB4:=hide (below0 (unhide HB3) hb4);clear hb4)
        |(go_at_call 296;refine(unhide HDI _).mono ?_;rintro e w5 ⟨rfl,hw5⟩;obtain rfl:=hw5.symm;clear hw5))
       go_roundw
       case rel=>exact⟨m+1,by omega,by go_num,by rw[unhide HE],by rw[unhide HE,Int.ofNat_toNat],hide (below0 (unhide HB2) (unhide HB4))⟩
       case measure=>simp[intOf];omega
     ·have h1':¬(0:Int)<(e1:Int):=by omega
      have HE:=hide (unhide HNO fun hh=>h1 ((unhide HNR).1 hh).1)
      clear HYS HNO HNR
      go_wp2_with (first
       |(go_at_call 297;refine(unhide HHS).mono ?_;rintro e w3 ⟨rfl,hb3⟩;have HB3:=hide hb3;obtain⟨x0,x1⟩:=unhide HBX w3 hb3;clear hb3)
       |(go_at_call 298;refine(unhide HDW _ (unhide HB3)).mono ?_;rintro e w4 ⟨rfl,hb4⟩;have HB4:=hide (below0 (unhide HB3) hb4);clear hb4)
       |(go_at_call 296;refine(unhide HDI _).mono ?_;rintro e w5 ⟨rfl,hw5⟩;obtain rfl:=hw5.symm;clear hw5))
      go_roundw
      case rel=>exact⟨m+1,by omega,by go_num,by rw[unhide HE],by rw[unhide HE,Int.ofNat_toNat],hide (below0 (unhide HB2) (unhide HB4))⟩
      case measure=>simp[intOf];omega
    ·rw[hcm]at hchm
     rw[hchm]at HHS
     have HE:=hide (unhide HNO fun hh=>absurd (hcm.symm.trans hh.1) (by decide))
     clear HYS HNO
     go_wp2_with (first
      |(go_at_call 297;refine(unhide HHS).mono ?_;rintro e w3 ⟨rfl,hb3⟩;have HB3:=hide hb3;clear hb3))
     go_roundw
     case rel=>exact⟨m+1,by omega,by go_num,by rw[unhide HE],by rw[unhide HE,Int.ofNat_toNat],hide (below0 (unhide HB2) (unhide HB3))⟩
     case measure=>simp[intOf];omega
   ·obtain rfl:m=rs.length:=by omega
    go_wp2
    go_ret
    exact⟨rfl,unhide HB⟩
end Go.Proofs.YtlhhinlghhjghaaGreatDoor
namespace Go.Proofs.YtlhhinlghhjghaaGreatDoor
open Go.RowKit Go.Shelf Go.Sort
set_option linter.unusedVariables false
set_option linter.unusedSimpArgs false
set_option maxRecDepth 4000
set_option maxHeartbeats 8000000
def sren:Ren:=⟨fun|125=>292|128=>312|129=>313|189=>252|215=>333|216=>320|257=>295|294=>314|295=>315|296=>316|297=>317|298=>318|299=>319|300=>321|301=>322|328=>328|329=>329|330=>330|331=>331|332=>332|343=>335|n=>n,fun|0=>0|3=>3|4=>4|5=>5|9=>9|28=>83|46=>264|51=>95|53=>69|131=>235|182=>401|183=>402|218=>409|222=>412|228=>415|229=>89|n=>n,fun|n=>n⟩
theorem Znf:Lays.n189 Tryz.prog sren:={
 mixed:=by kernel_rfl
 f125:=Tryz.func292.trans (congrArg some (by kernel_rfl))
 f128:=Tryz.func312.trans (congrArg some (by kernel_rfl))
 f129:=Tryz.func313.trans (congrArg some (by kernel_rfl))
 f189:=Tryz.func252.trans (congrArg some (by kernel_rfl))
 f215:=Tryz.func333.trans (congrArg some (by kernel_rfl))
 f216:=Tryz.func320.trans (congrArg some (by kernel_rfl))
 f257:=Tryz.func295.trans (congrArg some (by kernel_rfl))
 f294:=Tryz.func314.trans (congrArg some (by kernel_rfl))
 f295:=Tryz.func315.trans (congrArg some (by kernel_rfl))
 f296:=Tryz.func316.trans (congrArg some (by kernel_rfl))
 f297:=Tryz.func317.trans (congrArg some (by kernel_rfl))
 f298:=Tryz.func318.trans (congrArg some (by kernel_rfl))
 f299:=Tryz.func319.trans (congrArg some (by kernel_rfl))
 f300:=Tryz.func321.trans (congrArg some (by kernel_rfl))
 f301:=Tryz.func322.trans (congrArg some (by kernel_rfl))
 f328:=Tryz.func328.trans (congrArg some (by kernel_rfl))
 f329:=Tryz.func329.trans (congrArg some (by kernel_rfl))
 f330:=Tryz.func330.trans (congrArg some (by kernel_rfl))
 f331:=Tryz.func331.trans (congrArg some (by kernel_rfl))
 f332:=Tryz.func332.trans (congrArg some (by kernel_rfl))
 f343:=Tryz.func335.trans (congrArg some (by kernel_rfl))
 t0:=Tryz.underlying0
 a0:=Tryz.isAgg0
 z0:=Tryz.sizeOf0
 v0:=Tryz.zeroValue0
 t3:=Tryz.underlying3
 a3:=Tryz.isAgg3
 z3:=Tryz.sizeOf3
 v3:=Tryz.zeroValue3
 t4:=Tryz.underlying4
 a4:=Tryz.isAgg4
 z4:=Tryz.sizeOf4
 v4:=Tryz.zeroValue4
 t5:=Tryz.underlying5
 a5:=Tryz.isAgg5
 z5:=Tryz.sizeOf5
 v5:=Tryz.zeroValue5
 t9:=Tryz.underlying9
 a9:=Tryz.isAgg9
 z9:=Tryz.sizeOf9
 v9:=Tryz.zeroValue9
 t28:=Tryz.underlying83
 a28:=Tryz.isAgg83
 z28:=Tryz.sizeOf83
 v28:=Tryz.zeroValue83
 t46:=Tryz.underlying264
 a46:=Tryz.isAgg264
 z46:=Tryz.sizeOf264
 v46:=Tryz.zeroValue264
 t51:=Tryz.underlying95
 a51:=Tryz.isAgg95
 z51:=Tryz.sizeOf95
 v51:=Tryz.zeroValue95
 t53:=Tryz.underlying69
 a53:=Tryz.isAgg69
 z53:=Tryz.sizeOf69
 v53:=Tryz.zeroValue69
 t131:=Tryz.underlying235
 a131:=Tryz.isAgg235
 z131:=Tryz.sizeOf235
 v131:=Tryz.zeroValue235
 t182:=Tryz.underlying401
 a182:=Tryz.isAgg401
 z182:=Tryz.sizeOf401
 v182:=Tryz.zeroValue401
 t183:=Tryz.underlying402
 a183:=Tryz.isAgg402
 z183:=Tryz.sizeOf402
 v183:=Tryz.zeroValue402
 t218:=Tryz.underlying409
 a218:=Tryz.isAgg409
 z218:=Tryz.sizeOf409
 v218:=Tryz.zeroValue409
 t222:=Tryz.underlying412
 a222:=Tryz.isAgg412
 z222:=Tryz.sizeOf412
 v222:=Tryz.zeroValue412
 t228:=Tryz.underlying415
 a228:=Tryz.isAgg415
 z228:=Tryz.sizeOf415
 v228:=Tryz.zeroValue415
 t229:=Tryz.underlying89
 a229:=Tryz.isAgg89
 z229:=Tryz.sizeOf89
 v229:=Tryz.zeroValue89}
theorem Zio(xs:List Int):cellsZ xs=xs.map (Value.int .i64):=rfl
theorem Znl(B:Nat)(v:Value)(xs:List Int)(w:World)(h:OwnZ w B v xs)(hn:xs.length≤1048576):
  Calls Tryz.prog 252 #[v] w fun e w'=>e=.returned (.tuple #[])∧OwnZ w' B v (xs.mergeSort fun x y=>decide (x≤y))∧w.grownBy w' v.ownBlock:=by
 have h0:w.ownsRow B 3 1 v xs.length (cellsZ xs):=h
 rcases h0.2 with⟨rfl,hz⟩|⟨g,cap,cur,rfl,hb,hg,hn1,hm,hsz,ht⟩
 ·obtain rfl:xs=[]:=List.eq_nil_of_length_eq_zero hz
  refine(calls_of_every_depth fun D=>AnyS.slices_Sort_int_none_in Znf D none 0 w).mono ?_
  rintro e w' ⟨rfl,hw⟩
  obtain rfl:=hw.symm
  exact⟨rfl,by simpa using h,Zdw _ _⟩
 ·have hH:Holds (Value.int .i64) w g 0 xs.toArray:=holds_of_blockI hg (by simpa [Zio]using ht)
  refine(Any.slices_Sort_int Znf g 0 cap xs w hH (Array.getElem?_eq_some_iff.1 hg).1 (by omega)).mono ?_
  rintro e w' ⟨rfl,q,os,rfl⟩
  have hl:(xs.mergeSort fun x y=>decide (x≤y)).length=xs.length:=by simp
  refine⟨rfl,?_,by simpa [Value.ownBlock]using grownBy_sortedI _⟩
  show World.ownsRow _ B 3 1 _ (xs.mergeSort fun x y=>decide (x≤y)).length _
  have:=ownsRow_sortedI (n:=q) (os:=os) hl hb hg hn1 hm hsz
  rw[hl,Zio]
  exact this
end Go.Proofs.YtlhhinlghhjghaaGreatDoor
