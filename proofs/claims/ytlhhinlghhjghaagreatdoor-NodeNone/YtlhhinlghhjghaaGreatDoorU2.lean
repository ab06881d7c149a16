/-
  Calls that leave what was there as it was, as steps of a quiet region. No condition.
  A row (a slice of words and a text) by value; contract of bucketlineref02.Same; callees in regions that draw their order.
  Contracts of xor.add, xor.Xor, bucketlineref02.Xor, xor.zero: for every text of at most 2^20 bytes.
  Contracts of words.Get and bucketlineref01.Get at every int: for every row of at most 2^20 words.
  Contracts of xor.Xor, bucketlineref02.Xor, xor.zero, xor.Sum, bucketlineref02.Sum, xor.Of, bucketlineref02.Of: for texts of at most 2^20 bytes and rows of at most 2^20 words.
  How many of the first k bits of a row are set; the xor of two rows bit by bit. Plain lists of words; no condition.
  Slices of texts that can be read ('TextsAt'); slices of texts of the call's own ('OwnT'): made, appended to. No condition.
  Slices of texts ('TextsAt'); contracts of xor.Sum, bucketlineref02.Sum, xor.Of, bucketlineref02.Of, xor.reached: for up to 2^20 texts of at most 2^20 bytes.
  Rows (a slice of words and a text) by value and in slices; contracts of bucketlineref02.Same, xor.Holds, bucketlineref02.Holds.
  Contracts of bucketlineref02.Holds, bucketlinelaw02.few.
  Slices of rows ('RowsAt'); contracts of bucketlinelaw02.Few, xor.vecs.
  Rows that can be read and have as much room as words ('RowsIn'). No condition.
  Memory in which one block is turned ('grownBy' with that block), rows beside it, and 'copy' as a step of a walk. No condition.
-/
import Derived.Test.YtlhhinlghhjghaaGreatDoorU0
import Derived.Lib.QuietBelow
import Derived.Test.YtlhhinlghhjghaaGreatDoorU1
import Derived.Deep.RegionWith
import Derived.BigQuiet
import Derived.OwnWalk
import Derived.Laws.IdiomCopy
import Derived.Laws.NewBlocks
import Derived.Deep.RegionLaw
namespace Go.Proofs.YtlhhinlghhjghaaGreatDoor
open Go.RowKit Go.Sort
set_option linter.unusedVariables false
set_option linter.unusedSimpArgs false
set_option maxRecDepth 4000
set_option maxHeartbeats 8000000
variable {g:Nat}{v x y:Value}{w:World}
theorem Za6{W:World}{f:FuncId}{args:Array Value}(h:∀w',Below W.heap.size W w'→Calls Tryz.prog f args w' fun e w''=>e=.returned v∧Below w'.heap.size w' w'')(d:Nat)(os:Array Obj):
  Calls Tryz.prog f args (grow (redrawn W d) os) fun e w''=>e=.returned v∧∃p:Regrown,w''=grow (redrawn W p.d) p.os:=
 Calls.regrown_of (h _ (below_regrown W d os))
theorem Zin{f:FuncId}{args:Array Value}(h:Calls Tryz.prog f args w fun e w''=>e=.returned v∧w''=w):Calls Tryz.prog f args w fun e w''=>e=.returned v∧Below w.heap.size w w'':=
 h.mono fun e w' ⟨he,hw⟩=>⟨he,by rw[hw];exact Below.refl _ _⟩
def BoxAt(w:World)(g:Nat)(x y:Value):Prop:=w.cell? ⟨g,0,none⟩=some x∧w.cell? ⟨g,1,none⟩=some y
theorem ZcM(w:World)(x y:Value):BoxAt (w.alloc (.cells #[x,y] 57)) w.heap.size x y:=by
 constructor<;>simp
theorem BoxAt.below{w':World}(h:BoxAt w g x y)(hb:Below w.heap.size w w'):BoxAt w' g x y:=
 ⟨(hb.cell (World.block_lt_of_cell? w _ h.1)).trans h.1,(hb.cell (World.block_lt_of_cell? w _ h.2)).trans h.2⟩
def BoxW(w:World)(g:Nat)(x y:Value):Prop:=BoxAt w g x y∧w.frozen? ⟨g,0,none⟩=false∧w.frozen? ⟨g,1,none⟩=false
theorem Zd0(w:World)(x y:Value):BoxW (w.alloc (.cells #[x,y] 57)) w.heap.size x y:=⟨ZcM w x y,by simp,by simp⟩
theorem BoxW.below{w':World}(h:BoxW w g x y)(hb:Below w.heap.size w w'):BoxW w' g x y:=
 ⟨h.1.below hb,(hb.frozen (World.block_lt_of_cell? w _ h.1.1)).trans h.2.1,(hb.frozen (World.block_lt_of_cell? w _ h.1.2)).trans h.2.2⟩
theorem BoxW.alloc(h:BoxW w g x y)(o:Obj):BoxW (w.alloc o) g x y:=h.below ((Below.refl _ _).alloc (Nat.le_refl _) _)
theorem BoxW.other(h:BoxW w g x y){g':Nat}(i:Nat)(u:Value)(hg:g'≠g):BoxW (w.setCell ⟨g',i,none⟩ u) g x y:=by
 have h0:(⟨g',i,none⟩:Addr)≠⟨g,0,none⟩:=fun h=>hg (by injection h)
 have h1:(⟨g',i,none⟩:Addr)≠⟨g,1,none⟩:=fun h=>hg (by injection h)
 exact⟨⟨(World.cell?_setCell_other (h:=h0) ..).trans h.1.1,(World.cell?_setCell_other (h:=h1) ..).trans h.1.2⟩,by rw[World.frozen?_setCell];exact h.2.1,by rw[World.frozen?_setCell];exact h.2.2⟩
theorem ZeA{k i:Nat}(u:Value)(h:k≠g):(w.setCell ⟨g,i,none⟩ u).heap[k]? =w.heap[k]? :=by
 unfold World.setCell
 simp[Array.getElem?_modify,Ne.symm h]
theorem Own.other{B:Nat}{xs:List Nat}(h:Own w B v xs){g:Nat}(i:Nat)(u:Value)(hg:g<B):Own (w.setCell ⟨g,i,none⟩ u) B v xs:=by
 refine⟨h.1,h.2.1,?_⟩
 rcases h.2.2 with h0|⟨g',cap,cur,h1,hg',hgg,r⟩
 ·exact .inl h0
 ·exact .inr ⟨g',cap,cur,h1,hg',(ZeA u (by omega)).trans hgg,r⟩
end Go.Proofs.YtlhhinlghhjghaaGreatDoor
namespace Go.Proofs.YtlhhinlghhjghaaGreatDoor
open Go.RowKit
set_option linter.unusedVariables false
set_option linter.unusedSimpArgs false
set_option maxRecDepth 4000
set_option maxHeartbeats 8000000
theorem ZtV(w:World)(g:Nat)(t:ByteArray)(cur:Array Value)(e:TypeId)(hg:w.heap[g]? =some (.cells cur e (0,0)))(hc:cur.size=t.size)
  (B:Nat) (w0:World) (hb:Below B w0 w) (hBg:B≤g):
  ∃w',(Builtin.copy_ #[260,9] 3 #[.slice (some ⟨g,0,none⟩) t.size t.size,.string t]).run Tryz.prog w=.ok (goInt t.size) w'∧OwnB w' B (.slice (some ⟨g,0,none⟩) t.size t.size) (tx t)∧Below B w0 w':=by
 obtain⟨i0,hi0,hz0,hz1,hz2⟩:=info_parts ZmK
 refine⟨_,Zdk w 260 9 3 5 g t.size t.size t cur e Tryz.underlying260 (by rw[hi0];simp[hz1]) hg hc rfl,⟨Zal t,.inr ⟨g,t.size,by rw[Zaa],hBg,?_,fun i hi=>?_,fun i hi=>?_⟩⟩,?_⟩
 ·simpa using(Array.getElem?_eq_some_iff.1 hg).1
 ·rw[cell_setRow_same w g i _ _ _ _ hg]
  have hi':i<t.size:=by rwa[Zaa]at hi
  rw[←ZnO t i hi']
  have:i<t.data.size:=hi'
  simp only[Array.getElem?_map,Array.getElem?_eq_getElem this]
  rfl
 ·simp[World.frozen?,setRow_heap w g _ _ _ _ hg]
 ·exact hb.trans ⟨rfl,rfl,rfl,by simp,fun k hk=>setRow_other w g k _ (by omega)⟩
theorem Zjl(v:Value)(xs:List Nat)(s:ByteArray)(B:Nat)(w:World)(h:OwnB w B v xs)(hB:B≤w.heap.size)(hn:xs.length≤1048576)(hm:s.size≤1048576):
  Calls Tryz.prog 254 #[v,.string s] w fun e w'=> ∃v',e=.returned v'∧OwnB w' B v' (xorL xs (tx s))∧Below B w w':=by
 obtain⟨va,vc,rfl⟩:=h.slice
 have hts:=Zaa s
 by_cases hle:s.size≤xs.length
 ·have hle':decide ((s.size:Int)≤(xs.length:Int))=true:=by simp;omega
  go_enter Tryz.func254,Tryz.ntmps254
  go_wp2
  go_loopw [16] (fun i wr=> ∃k:Nat,k≤s.size∧i=.int .i64 k∧Hid (OwnB wr B (.slice va xs.length vc) (Zc3 xs (tx s) k))∧Hid (Below B w wr)) (fun i _=>s.size-(intOf i).toNat)
  case atStart=>exact⟨0,Nat.zero_le _,rfl,hide (by rw[ZcT];exact h),hide (Below.refl _ _)⟩
  case round=>
   obtain⟨k,hk,rfl,HO,HB⟩:=hrel
   by_cases hlt:k<s.size
   ·have hkn:k<xs.length:=by omega
    have hkn':(k:Int)<(xs.length:Int):=by omega
    have hlt':(k:Int)<(s.size:Int):=by omega
    obtain⟨g,cap,hv,hBg,hgs,hcg,hfg⟩:=(unhide HO).at (by rw[Zac];omega)
    rw[Zac]at hv
    simp only[Value.slice.injEq,true_and]at hv
    obtain⟨rfl,rfl⟩:=hv
    have hcell:=hcg k (by rw[Zac];omega)
    have hfz:=hfg k (by rw[Zac];omega)
    rw[Zbl xs (tx s) k k (by omega),if_neg (by omega)]at hcell
    have hxo:=u8_xor_nat (xs.getD k 0) s[k].toNat (h.1.get k) s[k].toNat_lt
    have R:=hide (Zuq (z:=xs.getD k 0^^^s[k].toNat) h.1 (Zal s) (by omega) hBg (unhide HO) (unhide HB) (by rw[ZnO s k hlt]))
    generalize xs.getD k 0=x at*
    clear hcg hfg h HO hle hle'
    go_wp2
    go_region
    all_goals go_wp2
    go_roundw
    case rel=>exact⟨k+1,by omega,by go_num,hide (unhide R).1,hide (unhide R).2⟩
    case measure=>simp[intOf];omega
   ·have hke:k=(tx s).length:=by omega
    rw[hke,ZdS xs (tx s) (by omega)]at HO
    clear h
    go_wp2
    go_ret
    exact⟨_,rfl,unhide HO,unhide HB⟩
 ·have hle':decide ((s.size:Int)≤(xs.length:Int))=false:=by simp;omega
  obtain⟨i0,hi0,hz0,hz1,hz2⟩:=info_parts ZmK
  have hrun:=run_make (P:=Tryz.prog) w 260 5 i0 (.int .u8 0) Tryz.underlying260 hi0 hz0 .i64 .i64 (s.size:Int) (s.size:Int) (by omega) (by omega) (by rw[hz2];omega) (by omega)
  simp only[Int.toNat_natCast]at hrun
  have hgw:(w.alloc (.cells (madeCells (Value.int .u8 0).cells (s.size*i0.size)) 5)).heap[w.heap.size]? =some (.cells (madeCells (Value.int .u8 0).cells (s.size*i0.size)) 5 (0,0)):=by
   show(w.heap.push _)[w.heap.size]? =_
   simp
  have hcs:(madeCells (Value.int .u8 0).cells (s.size*i0.size)).size=s.size:=by rw[size_madeCells,hz1,Nat.mul_one]
  have hbw:Below w.heap.size w (w.alloc (.cells (madeCells (Value.int .u8 0).cells (s.size*i0.size)) 5)):=(Below.refl _ _).alloc (Nat.le_refl _) _
  generalize madeCells (Value.int .u8 0).cells (s.size*i0.size)=cur at*
  generalize w.alloc (.cells cur 5)=wm at*
  obtain⟨w1,hcp,ho,hb⟩:=ZtV wm w.heap.size s cur 5 hgw hcs w.heap.size w hbw (Nat.le_refl _)
  have HO1:=hide ho
  have HB1:=hide hb
  clear ho hb hgw hcs hbw
  go_enter Tryz.func254,Tryz.ntmps254
  go_wp2
  go_loopw [38] (fun i wr=> ∃k:Nat,k≤xs.length∧i=.int .i64 k∧Hid (OwnB wr w.heap.size (.slice (some ⟨w.heap.size,0,none⟩) s.size s.size) (Zc3 (tx s) xs k))∧Hid (Below w.heap.size w wr)) (fun i _=>xs.length-(intOf i).toNat)
  case atStart=>exact⟨0,Nat.zero_le _,rfl,hide (by rw[ZcT];exact unhide HO1),HB1⟩
  case round=>
   obtain⟨k,hk,rfl,HO,HB⟩:=hrel
   clear HO1 HB1 hcp hrun
   by_cases hlt:k<xs.length
   ·have hkn:k<s.size:=by omega
    have hkn':(k:Int)<(s.size:Int):=by omega
    have hlt':(k:Int)<(xs.length:Int):=by omega
    obtain⟨g',cap',hv',_,_,hcg',_⟩:=(h.below (unhide HB)).at (by omega)
    simp only[Value.slice.injEq,true_and]at hv'
    obtain⟨rfl,rfl⟩:=hv'
    have hcell':=hcg' k hlt
    obtain⟨g,cap,hv,hBg,hgs,hcg,hfg⟩:=(unhide HO).at (by rw[Zac];omega)
    rw[Zac,hts]at hv
    simp only[Value.slice.injEq,Option.some.injEq,Addr.mk.injEq,and_true,true_and]at hv
    obtain⟨rfl,rfl⟩:=hv
    have hcell:=hcg k (by rw[Zac];omega)
    have hfz:=hfg k (by rw[Zac];omega)
    rw[Zbl (tx s) xs k k (by omega),if_neg (by omega)]at hcell
    have hxo:=u8_xor_nat ((tx s).getD k 0) (xs.getD k 0) ((Zal s).get k) (h.1.get k)
    rw[←hts]at HO
    have R:=hide (ZnP (Zal s) h.1 (by omega) hBg (unhide HO) (unhide HB) rfl)
    rw[hts]at R
    generalize (tx s).getD k 0=x at*
    generalize xs.getD k 0=y at*
    clear hcg hfg hcg' h HO hle hle'
    go_wp2
    go_roundw
    case rel=>exact⟨k+1,by omega,by go_num,hide (unhide R).1,hide (unhide R).2⟩
    case measure=>simp[intOf];omega
   ·have hke:k=xs.length:=by omega
    rw[hke,ZdS (tx s) xs (by omega),ZdN]at HO
    clear h
    go_wp2
    go_ret
    exact⟨_,rfl,(unhide HO).mono hB,(unhide HB).mono hB⟩
def getI(xs:List Nat)(i:Int):Bool:=if i<0 then false else getB xs i.toNat
theorem ZxA{xs:List Nat}{i:Int}(h:¬(0≤i∧i/64<(xs.length:Int))):getI xs i=false:=by
 unfold getI
 split
 ·rfl
 ·exact Zbn xs _ (by omega)
theorem Zsw{xs:List Nat}{i:Int}(h:0≤i):getI xs i=getB xs i.toNat:=by
 unfold getI
 rw[if_neg (by omega)]
theorem ZjE(a:Option Addr)(n c:Nat)(xs:List Nat)(i:Int)(w:World)(h:RowAt w a n xs)(hn:n≤1048576)(hi:i≤9223372036854775807):
  Calls Tryz.prog 253 #[.slice a n c,.int .i64 i] w fun e w'=>e=.returned (.bool (getI xs i))∧∃d,w'=w.drewN d:=by
 by_cases hin:0≤i∧i/64<(xs.length:Int)
 ·rw[Zsw hin.1]
  exact ZA3 a n c xs i w h hin.1 hi (by rw[←h.1];exact hin.2) (by omega)
 ·rw[ZxA hin]
  exact ZAb a n c i w hi (by rw[←h.1];omega)
theorem Zgp(xs:List Nat)(k:Nat):getI xs (k:Int)=getB xs k:=by rw[Zsw (by omega),Int.toNat_natCast]
theorem Zn0(a:Option Addr)(n c:Nat)(xs:List Nat)(k:Nat)(w:World)(h:RowAt w a n xs)(hn:n≤1048576)(hk:k≤9223372036854775807):
  Calls Tryz.prog 253 #[.slice a n c,.int .i64 (k:Int)] w fun e w'=>e=.returned (.bool (getB xs k))∧Below w.heap.size w w':=by
 refine(ZjE a n c xs k w h hn (by omega)).mono ?_
 rintro e w' ⟨rfl,d,rfl⟩
 rw[Zgp]
 exact⟨rfl,below_drewN (Below.refl _ _) d⟩
theorem ZAo(a b:ByteArray)(w:World)(hn:a.size≤1048576)(hm:b.size≤1048576):
  Calls Tryz.prog 327 #[.string a,.string b] w fun e w'=>e=.returned (.string (xorS a b))∧Below w.heap.size w w':=by
 go_enter Tryz.func327,Tryz.ntmps327
 go_wp2_with fail
 refine(Zjl _ [] a w.heap.size w (OwnB.nil _ _) (Nat.le_refl _) (by simp) hn).mono ?_
 rintro e w1 ⟨v,rfl,ho,hb⟩
 rw[Zjm]at ho
 go_wp2_with fail
 refine(Zjl v (tx a) b w.heap.size w1 ho hb.size (by rw[Zaa];exact hn) hm).mono ?_
 rintro e w2 ⟨v2,rfl,ho2,hb2⟩
 have hct:=ho2.text
 have HB:=hide (hb.trans hb2)
 clear ho hb ho2 hb2
 go_wp2
 go_ret
 exact⟨rfl,unhide HB⟩
def Zv8(s:ByteArray):Bool:=(tx s).all fun x=>x==0
theorem ZuC(s:ByteArray):Zv8 s=true↔∀i,(tx s).getD i 0=0:=by
 rw[←ZbW];simp[Zv8]
end Go.Proofs.YtlhhinlghhjghaaGreatDoor
namespace Go.Proofs.YtlhhinlghhjghaaGreatDoor
set_option maxHeartbeats 8000000
def upTo(vs:List Nat):Nat→Nat
 |0=>0
 |k+1=>upTo vs k+if getB vs k then 1 else 0
theorem ZlI(vs:List Nat):∀k,upTo vs k≤k
 |0=>Nat.le_refl _
 |k+1=>by
  have:=ZlI vs k
  unfold upTo
  split<;>omega
theorem ZgN(vs:List Nat)(n:Nat):∀d,upTo vs n≤upTo vs (n+d)
 |0=>Nat.le_refl _
 |d+1=>by
  have:=ZgN vs n d
  show _≤upTo vs (n+d)+_
  omega
theorem ZgO(vs:List Nat)(n:Nat)(h:∀i,n≤i→getB vs i=false):∀d,upTo vs (n+d)=upTo vs n
 |0=>rfl
 |d+1=>by
  show upTo vs (n+d)+(if getB vs (n+d)then 1 else 0)=_
  rw[ZgO vs n h d,h (n+d) (by omega)]
  simp
theorem Zrh(vs:List Nat)(n d i:Nat)(h1:n≤i)(h2:i<n+d)(hg:getB vs i=true):upTo vs n<upTo vs (n+d):=by
 have a:=ZgN vs n (i-n)
 have b:=ZgN vs (i+1) (n+d-(i+1))
 rw[show n+(i-n)=i from by omega]at a
 rw[show i+1+(n+d-(i+1))=n+d from by omega]at b
 have c:upTo vs (i+1)=upTo vs i+1:=by simp[upTo,hg]
 omega
def tbs(x:Nat):Nat→Nat
 |0=>0
 |f+1=>tbs x f+if x.testBit f then 1 else 0
theorem ZtL(x:Nat):∀f,tbs x (f+1)=x%2+tbs (x/2) f
 |0=>by
  have:x.testBit 0=decide (x%2=1):=Nat.testBit_zero x
  simp only[tbs,this]
  by_cases h:x%2=1
  ·simp[h]
  ·simp[h];omega
 |f+1=>by
  have e:x.testBit (f+1)=(x/2).testBit f:=by rw[Nat.testBit_succ]
  show tbs x (f+1)+(if x.testBit (f+1)then 1 else 0)=x%2+(tbs (x/2) f+if (x/2).testBit f then 1 else 0)
  rw[ZtL x f,e]
  omega
theorem Zos:∀f x,popF f x=tbs x f
 |0,x=>rfl
 |f+1,x=>by
  rw[ZtL,←Zos f (x/2)]
  rfl
theorem ZbY(x:Nat)(xs:List Nat)(i:Nat)(h:i<64):getB (x::xs) i=x.testBit i:=by
 unfold getB
 rw[show i/64=0 from by omega,show i%64=i from by omega]
 rfl
theorem ZcL(x:Nat)(xs:List Nat)(i:Nat):getB (x::xs) (64+i)=getB xs i:=by
 unfold getB
 rw[show(64+i)/64=i/64+1 from by omega,show(64+i)%64=i%64 from by omega]
 rfl
theorem ZlB(x:Nat)(xs:List Nat):∀f,f≤64→upTo (x::xs) f=tbs x f
 |0,_=>rfl
 |f+1,h=>by
  show upTo (x::xs) f+_=tbs x f+_
  rw[ZlB x xs f (by omega),ZbY x xs f (by omega)]
theorem Zle(x:Nat)(xs:List Nat):∀k,upTo (x::xs) (64+k)=pop x+upTo xs k
 |0=>by rw[Nat.add_zero,ZlB x xs 64 (Nat.le_refl _)];unfold pop;rw[Zos];rfl
 |k+1=>by
  show upTo (x::xs) (64+k)+(if getB (x::xs) (64+k)then 1 else 0)=pop x+(upTo xs k+if getB xs k then 1 else 0)
  rw[Zle x xs k,ZcL]
  omega
theorem Zgy:∀xs,cnt xs=upTo xs (64*xs.length)
 |[]=>rfl
 |x::xs=>by
  rw[Zgr,List.length_cons,show 64*(xs.length+1)=64+64*xs.length from by omega,Zle,Zgy xs]
theorem Zjv(vs:List Nat)(n:Nat):upTo vs n=cnt vs↔∀i,n≤i→getB vs i=false:=by
 rw[Zgy]
 constructor
 ·intro h i hi
  by_cases hl:i<64*vs.length
  ·cases hg:getB vs i with
   |false=>rfl
   |true=>
    have:=Zrh vs n (64*vs.length-n) i hi (by omega) hg
    rw[show n+(64*vs.length-n)=64*vs.length from by omega]at this
    omega
  ·exact Zbn vs i (by omega)
 ·intro h
  by_cases hl:n≤64*vs.length
  ·have:=ZgO vs n h (64*vs.length-n)
   rw[show n+(64*vs.length-n)=64*vs.length from by omega]at this
   omega
  ·have:=ZgO vs (64*vs.length) (fun i hi=>Zbn vs i hi) (n-64*vs.length)
   rw[show 64*vs.length+(n-64*vs.length)=n from by omega]at this
   omega
theorem Zrl(a b:List Nat)(i:Nat):getB (xorL a b) i=(getB a i^^getB b i):=by
 unfold getB
 rw[Zau,Nat.testBit_xor]
theorem ZnY(i:Nat):getB [] i=false:=Zbn [] i (by simp)
end Go.Proofs.YtlhhinlghhjghaaGreatDoor
namespace Go.Proofs.YtlhhinlghhjghaaGreatDoor
open Go.RowKit
set_option linter.unusedVariables false
set_option linter.unusedSimpArgs false
set_option maxRecDepth 4000
set_option maxHeartbeats 8000000
variable {ss:List ByteArray}{B:Nat}{v:Value}{w:World}
def TextsAt(w:World)(a:Option Addr)(n:Nat)(ss:List ByteArray):Prop:=
 ss.length=n∧(n=0∨∃b off,a=some ⟨b,off,none⟩∧∀i,i<n→w.cell? ⟨b,off+i,none⟩=some (.string (ss.getD i ByteArray.empty)))
theorem TextsAt.at{a:Option Addr}{n:Nat}(h:TextsAt w a n ss){i:Nat}(hi:i<n):
  ∃b off,a=some ⟨b,off,none⟩∧∀i,i<n→w.cell? ⟨b,off+i,none⟩=some (.string (ss.getD i ByteArray.empty)):=by
 rcases h.2 with h0|h0
 ·omega
 ·exact h0
theorem TextsAt.below{w':World}{a:Option Addr}{n:Nat}(h:TextsAt w a n ss)(hb:Below w.heap.size w w'):TextsAt w' a n ss:=by
 refine⟨h.1,?_⟩
 rcases h.2 with h0|⟨b,off,rfl,hc⟩
 ·exact .inl h0
 ·exact .inr ⟨b,off,rfl,fun i hi=>(hb.cell (World.block_lt_of_cell? w _ (hc i hi))).trans (hc i hi)⟩
def shorts(ss:List ByteArray):Prop:=∀s∈ss,s.size≤1048576
theorem shorts.get(h:shorts ss)(i:Nat):(ss.getD i ByteArray.empty).size≤1048576:=by
 rw[List.getD_eq_getElem?_getD]
 cases hx:ss[i]? with
 |none=>simp
 |some x=>exact h x (List.mem_of_getElem? hx)
theorem Ze7:(Tryz.prog.info? 9).map (fun i=>(i.zero,i.size,i.bytes))=some (some (.string ByteArray.empty),1,16):=by kernel_rfl
def Zax(ss:List ByteArray):List Value:=ss.map Value.string
theorem Zjf(ss:List ByteArray):(Zax ss).length=ss.length:=by simp[Zax]
theorem Zh8(ss:List ByteArray)(i:Nat)(h:i<ss.length):(Zax ss)[i]? =some (.string (ss.getD i ByteArray.empty)):=by
 simp[Zax,List.getElem?_eq_getElem h,List.getD_eq_getElem?_getD]
def OwnT(w:World)(B:Nat)(v:Value)(ss:List ByteArray):Prop:=w.ownsRow B 9 1 v ss.length (Zax ss)
theorem OwnT.nil(w:World)(B:Nat):OwnT w B (.slice none 0 0) []:=World.ownsRow_nil _ _ _ _
theorem OwnT.texts(h:OwnT w B v ss):∃a c,v=.slice a ss.length c∧TextsAt w a ss.length ss:=by
 have h':w.ownsRow B 9 1 v ss.length (Zax ss):=h
 rcases h.2 with⟨rfl,h0⟩|⟨g,cap,cur,rfl,hb,hg,hn,hm,hsz,ht⟩
 ·exact⟨none,0,by rw[h0],rfl,.inl h0⟩
 ·refine⟨_,cap,rfl,rfl,.inr ⟨g,0,rfl,fun i hi=>?_⟩⟩
  rw[Nat.zero_add,h'.cellAt i (by omega),Zh8 ss i hi]
theorem OwnT.mono{B':Nat}(h:OwnT w B v ss)(hB:B'≤B):OwnT w B' v ss:=by
 refine⟨h.1,?_⟩
 rcases h.2 with h0|⟨g,cap,cur,h1,hb,r⟩
 ·exact .inl h0
 ·exact .inr ⟨g,cap,cur,h1,Nat.le_trans hB hb,r⟩
theorem OwnT.below{w':World}(h:OwnT w B v ss)(hb:Below w.heap.size w w'):OwnT w' B v ss:=by
 refine⟨h.1,?_⟩
 rcases h.2 with h0|⟨g,cap,cur,h1,hg,hgg,r⟩
 ·exact .inl h0
 ·exact .inr ⟨g,cap,cur,h1,hg,(hb.block g (Array.getElem?_eq_some_iff.1 hgg).1).trans hgg,r⟩
theorem Zf7{ops:Array Oper}{rest:List Oper}{o:Oper}{act:Act}{Q:Exit→Act→World→Prop}(hgd:o.guard=none)(s x:Operand)
  (ho:o.op=.call {callee:=.builtin .append,args:=#[s,x],argTypes:=#[50,50]}) (B:Nat) (v:Value) (ss:List ByteArray) (t:ByteArray)
  (hs:act.eval s=v) (hx:act.eval x=.slice (some ⟨w.heap.size,0,none⟩) 1 1) (h:OwnT w B v ss) (hB:B≤w.heap.size) (hn:ss.length≤1048576)
  (hK:∀s' w',OwnT w' B s' (ss++[t])→Below B w w'→wpList Tryz.prog ops Q rest (act.put o.dst s') w'):wpList Tryz.prog ops Q (o::rest) act (w.alloc (.cells #[.string t] 9)):=by
 obtain⟨i0,hi,hz0,hz1,hz2⟩:=info_parts Ze7
 have hb:Below w.heap.size w (w.alloc (.cells #[.string t] 9)):=(Below.refl _ _).alloc (Nat.le_refl _) _
 have h1:(w.alloc (.cells #[.string t] 9)).ownsRow B 9 1 v ss.length (Zax ss):=h.below hb
 refine wpList_append_own _ hgd s x 50 ho B 9 i0 (.string ByteArray.empty) 1 16 Tryz.underlying50 hi hz0 hz1 hz2 rfl (by decide) v ss.length (Zax ss) hs h1 ⟨w.heap.size,0,none⟩ 1 1 [.string t] hx rfl (fun j u hj=>?_)
  (fun u hu=>by rw[List.mem_singleton.1 hu];rfl) (by unfold maxLen;omega) (by omega) (Nat.le_trans hB hb.size) ?_
 ·match j with
  |0=>
   have hc:(w.alloc (.cells #[.string t] 9)).cell? ⟨w.heap.size,0,none⟩=some (.string t):=by rw[World.cell?_alloc_at _ _ _ _ rfl];rfl
   simpa [Addr.add,hc]using hj
  |j+1=>simp at hj
 ·intro v' w' hown hgrow _
  refine hK v' w' ?_ ((hb.mono hB).grown hgrow (Nat.le_trans hB hb.size) fun k hk=>(h1.lt k hk).1)
  rw[show Zax ss++[.string t]=Zax (ss++[t]) by simp[Zax]]at hown
  show w'.ownsRow B 9 1 v' (ss++[t]).length (Zax (ss++[t]))
  rw[List.length_append]
  exact hown
def sumL(ss:List ByteArray):List Nat:=ss.foldl (fun a s=>xorL a (tx s)) []
theorem Zr5(ss:List ByteArray)(k:Nat)(h:k<ss.length):sumL (ss.take (k+1))=xorL (sumL (ss.take k)) (tx (ss.getD k ByteArray.empty)):=by
 unfold sumL
 rw[List.take_succ_eq_append_getElem h,List.foldl_append]
 simp[List.getD_eq_getElem?_getD,List.getElem?_eq_getElem h]
theorem Zmp(ss:List ByteArray):∀a,bytes a→bytes (ss.foldl (fun a s=>xorL a (tx s)) a):=by
 induction ss with
 |nil=>exact fun a h=>h
 |cons s ss ih=>exact fun a h=>ih _ (ZfS h (Zal s))
theorem ZoO(ss:List ByteArray):bytes (sumL ss):=Zmp ss [] ZcW
theorem Zur(ss:List ByteArray)(hs:shorts ss):∀a:List Nat,a.length≤1048576→(ss.foldl (fun a s=>xorL a (tx s)) a).length≤1048576:=by
 induction ss with
 |nil=>exact fun a h=>h
 |cons s ss ih=>
  intro a h
  refine ih (fun s hs'=>hs s (List.mem_cons_of_mem _ hs')) _ ?_
  rw[Zae,Zaa]
  have:=hs s List.mem_cons_self
  omega
theorem Zv6(ss:List ByteArray)(hs:shorts ss)(k:Nat):(sumL (ss.take k)).length≤1048576:=Zur _ (fun s h=>hs s (List.mem_of_mem_take h)) [] (by simp)
theorem ZsA{xs:List Nat}(h:bytes xs):(st xs).size=xs.length:=by rw[←Zaa,Zdl h]
theorem Ztl(a:Option Addr)(n c:Nat)(ss:List ByteArray)(w:World)(h:TextsAt w a n ss)(hs:shorts ss)(hn:n≤1048576):
  Calls Tryz.prog 289 #[.slice a n c] w fun e w'=>e=.returned (.string (st (sumL ss)))∧Below w.heap.size w w':=by
 go_enter Tryz.func289,Tryz.ntmps289
 go_wp2
 go_loopw [3,8] (fun v i wr=> ∃k:Nat,k≤n∧i=.int .i64 k∧Hid (OwnB wr w.heap.size v (sumL (ss.take k)))∧Hid (Below w.heap.size w wr)) (fun _ i _=>n-(intOf i).toNat)
 case atStart=>exact⟨0,Nat.zero_le _,rfl,hide (OwnB.nil _ _),hide (Below.refl _ _)⟩
 case round=>
  rename_i wr
  obtain⟨k,hk,rfl,HO,HB⟩:=hrel
  by_cases hlt:k<n
  ·obtain⟨b,off,rfl,hc⟩:=(h.below (unhide HB)).at hlt
   have hcell:=hc k hlt
   have H:=hide h
   have HS:=hide hs
   have hlt':(k:Int)<(n:Int):=by omega
   clear hc h hs
   go_wp2_with fail
   refine(Zjl _ _ _ w.heap.size _ (unhide HO) (unhide HB).size (Zv6 ss (unhide HS) k) ((unhide HS).get k)).mono ?_
   rintro e w1 ⟨v1,rfl,ho1,hb1⟩
   rw[←Zr5 ss k (by rw[(unhide H).1];exact hlt)]at ho1
   have HO1:=hide ho1
   have HB1:=hide ((unhide HB).trans hb1)
   clear ho1 hb1 HO HB hcell
   go_wp2
   go_roundw
   case rel=>exact⟨k+1,by omega,by go_num,HO1,HB1⟩
   case measure=>simp[intOf];omega
  ·have hct:=(unhide HO).text
   have he:ss.take k=ss:=List.take_of_length_le (by rw[h.1];omega)
   rw[he]at hct
   clear h hs he
   go_wp2
   go_ret
   exact⟨rfl,unhide HB⟩
def ofL(ss:List ByteArray)(vs:List Nat):Nat→List Nat
 |0=>[]
 |k+1=>if getB vs k then xorL (ofL ss vs k) (tx (ss.getD k ByteArray.empty))else ofL ss vs k
theorem ZcA(ss:List ByteArray)(vs:List Nat):∀k,bytes (ofL ss vs k)
 |0=>ZcW
 |k+1=>by
  unfold ofL
  split
  ·exact ZfS (ZcA ss vs k) (Zal _)
  ·exact ZcA ss vs k
theorem Zmj(ss:List ByteArray)(vs:List Nat)(hs:shorts ss):∀k,(ofL ss vs k).length≤1048576
 |0=>by simp[ofL]
 |k+1=>by
  unfold ofL
  have:=Zmj ss vs hs k
  split
  ·rw[Zae,Zaa];have:=hs.get k;omega
  ·exact this
theorem ZrR{vs:List Nat}{k:Nat}(h:getB vs k=true):ofL ss vs (k+1)=xorL (ofL ss vs k) (tx (ss.getD k ByteArray.empty)):=by simp[ofL,h]
theorem Zyd{vs:List Nat}{k:Nat}(h:getB vs k=false):ofL ss vs (k+1)=ofL ss vs k:=by simp[ofL,h]
theorem Zya(a:Option Addr)(n c:Nat)(ss:List ByteArray)(a':Option Addr)(m c':Nat)(vs:List Nat)(w:World)(h:TextsAt w a n ss)(hs:shorts ss)(hn:n≤1048576)(h':RowAt w a' m vs)(hm:m≤1048576):
  Calls Tryz.prog 224 #[.slice a n c,.slice a' m c'] w fun e w'=>e=.returned (.string (st (ofL ss vs n)))∧Below w.heap.size w w':=by
 go_enter Tryz.func224,Tryz.ntmps224
 go_wp2
 go_loopw [5,10] (fun v i wr=> ∃k:Nat,k≤n∧i=.int .i64 k∧Hid (OwnB wr w.heap.size v (ofL ss vs k))∧Hid (Below w.heap.size w wr)) (fun _ i _=>n-(intOf i).toNat)
 case atStart=>exact⟨0,Nat.zero_le _,rfl,hide (OwnB.nil _ _),hide (Below.refl _ _)⟩
 case round=>
  rename_i wr
  obtain⟨k,hk,rfl,HO,HB⟩:=hrel
  by_cases hlt:k<n
  ·obtain⟨b,off,rfl,hc⟩:=(h.below (unhide HB)).at hlt
   have hcell:=hc k hlt
   have HS:=hide hs
   have HR:=hide (h'.below (unhide HB))
   have hlt':(k:Int)<(n:Int):=by omega
   clear hc h hs h'
   go_wp2_with fail
   refine(Zn0 a' m c' vs k _ (unhide HR) hm (by omega)).mono ?_
   rintro e w1 ⟨rfl,hb1⟩
   have HO1:=hide ((unhide HO).below hb1)
   have HB1:=hide (below0 (unhide HB) hb1)
   clear HO HB hb1 HR hcell
   cases hg:getB vs k
   ·rw[←Zyd (ss:=ss) hg]at HO1
    go_wp2
    go_roundw
    case rel=>exact⟨k+1,by omega,by go_num,HO1,HB1⟩
    case measure=>simp[intOf];omega
   ·go_wp2_with fail
    refine(Zjl _ _ _ w.heap.size _ (unhide HO1) (unhide HB1).size (Zmj ss vs (unhide HS) k) ((unhide HS).get k)).mono ?_
    rintro e w2 ⟨v2,rfl,ho2,hb2⟩
    rw[←ZrR hg]at ho2
    have HO2:=hide ho2
    have HB2:=hide ((unhide HB1).trans hb2)
    clear ho2 hb2 HO1 HB1
    go_wp2
    go_roundw
    case rel=>exact⟨k+1,by omega,by go_num,HO2,HB2⟩
    case measure=>simp[intOf];omega
  ·have hke:k=n:=by omega
   subst hke
   have hct:=(unhide HO).text
   clear h hs h'
   go_wp2
   go_ret
   exact⟨rfl,unhide HB⟩
end Go.Proofs.YtlhhinlghhjghaaGreatDoor
namespace Go.Proofs.YtlhhinlghhjghaaGreatDoor
open Go.RowKit Go.Sort
set_option linter.unusedVariables false
set_option linter.unusedSimpArgs false
set_option maxRecDepth 4000
set_option maxHeartbeats 8000000
variable {w:World}
def ZbZ(ss:List ByteArray)(vs:List Nat)(s:ByteArray):Bool:=Zv8 (xorS (st (ofL ss vs ss.length)) s)&&decide (upTo vs ss.length=cnt vs)
theorem Zp0(ss:List ByteArray)(vs:List Nat)(s:ByteArray):ZbZ ss vs s=true↔Zv8 (xorS (st (ofL ss vs ss.length)) s)=true∧∀i,ss.length≤i→getB vs i=false:=by
 unfold ZbZ
 rw[Bool.and_eq_true,decide_eq_true_eq,Zjv]
structure RV where
 a:Option Addr
 n:Nat
 c:Nat
 xs:List Nat
 s:ByteArray
def RV.dflt:RV:=⟨none,0,0,[],⟨#[]⟩⟩
def RowsAt(w:World)(a:Option Addr)(n:Nat)(rs:List RV):Prop:=
 rs.length=n∧(∀i,i<n→RowAt w (rs.getD i .dflt).a (rs.getD i .dflt).n (rs.getD i .dflt).xs)∧(n=0∨∃b off,a=some ⟨b,off,none⟩∧
  ∀i,i<n→w.cell? ⟨b,off+i*2,none⟩=some (.slice (rs.getD i .dflt).a (rs.getD i .dflt).n (rs.getD i .dflt).c)∧w.cell? ⟨b,off+i*2+1,none⟩=some (.string (rs.getD i .dflt).s))
theorem RowsAt.at{a:Option Addr}{n:Nat}{rs:List RV}(h:RowsAt w a n rs){i:Nat}(hi:i<n):
  ∃b off,a=some ⟨b,off,none⟩∧∀i,i<n→w.cell? ⟨b,off+i*2,none⟩=some (.slice (rs.getD i .dflt).a (rs.getD i .dflt).n (rs.getD i .dflt).c)∧w.cell? ⟨b,off+i*2+1,none⟩=some (.string (rs.getD i .dflt).s):=by
 rcases h.2.2 with h0|h0
 ·omega
 ·exact h0
theorem RowsAt.below{w':World}{a:Option Addr}{n:Nat}{rs:List RV}(h:RowsAt w a n rs)(hb:Below w.heap.size w w'):RowsAt w' a n rs:=by
 refine⟨h.1,fun i hi=>(h.2.1 i hi).below hb,?_⟩
 rcases h.2.2 with h0|⟨b,off,rfl,hc⟩
 ·exact .inl h0
 ·exact .inr ⟨b,off,rfl,fun i hi=>⟨(hb.cell (World.block_lt_of_cell? w _ (hc i hi).1)).trans (hc i hi).1,(hb.cell (World.block_lt_of_cell? w _ (hc i hi).2)).trans (hc i hi).2⟩⟩
def shortR(rs:List RV):Prop:=∀i,(rs.getD i .dflt).n≤10∧(rs.getD i .dflt).s.size≤1000
def RowsIn(w:World)(rs:List RV):Prop:=∀r∈rs,RowAt w r.a r.n r.xs∧r.n≤r.c
theorem RowsIn.below{w':World}{rs:List RV}(h:RowsIn w rs)(hb:Below w.heap.size w w'):RowsIn w' rs:=fun r hr=>⟨(h r hr).1.below hb,(h r hr).2⟩
theorem RowsIn.nil(w:World):RowsIn w []:=fun r hr=>by cases hr
theorem RowsIn.append{rs ss:List RV}(h:RowsIn w rs)(k:RowsIn w ss):RowsIn w (rs++ss):=fun r hr=>(List.mem_append.1 hr).elim (h r) (k r)
theorem RowsIn.one{r:RV}(h:RowAt w r.a r.n r.xs)(hc:r.n≤r.c):RowsIn w [r]:=fun x hx=>by rw[List.mem_singleton.1 hx];exact⟨h,hc⟩
theorem RowsIn.get{rs:List RV}(h:RowsIn w rs){i:Nat}(hi:i<rs.length):RowAt w (rs.getD i .dflt).a (rs.getD i .dflt).n (rs.getD i .dflt).xs∧(rs.getD i .dflt).n≤(rs.getD i .dflt).c:=by
 have:=h rs[i] (List.getElem_mem hi)
 rwa[List.getD_eq_getElem?_getD,List.getElem?_eq_getElem hi]
end Go.Proofs.YtlhhinlghhjghaaGreatDoor
namespace Go.Proofs.YtlhhinlghhjghaaGreatDoor
open Go.RowKit
set_option linter.unusedVariables false
set_option linter.unusedSimpArgs false
set_option maxRecDepth 4000
set_option maxHeartbeats 8000000
variable {xs:List Nat}{r:Option Nat}{w w':World}
theorem Zdw(w:World)(r:Option Nat):w.grownBy w r:=⟨rfl,rfl,rfl,Nat.le_refl _,fun _ _ _=>rfl⟩
theorem Zai(h:Below w.heap.size w w')(r:Option Nat):w.grownBy w' r:=⟨h.os,h.tape,h.output,h.size,fun k hk _=>h.block k hk⟩
theorem gb_trans{w1 w2:World}{r':Option Nat}(h:w.grownBy w1 r)(k:w1.grownBy w2 r')(hr:r'=r∨∀j,r'=some j→w.heap.size≤j):w.grownBy w2 r:=by
 refine⟨k.os.trans h.os,k.tape.trans h.tape,k.output.trans h.output,Nat.le_trans h.size k.size,fun j hj hne=>?_⟩
 refine(k.block j (Nat.lt_of_lt_of_le hj h.size) fun e=>?_).trans (h.block j hj hne)
 rcases hr with hr|hr
 ·exact hne (e.trans hr)
 ·have:=hr j e.symm;omega
theorem Zat(h:w.grownBy w' r){B:Nat}(hB:B≤w.heap.size)(hr:∀k,r=some k→B≤k):Below B w w':=(Below.refl B w).grown h hB hr
theorem Zad(w:World)(g i:Nat)(u:Value):w.grownBy (w.setCell ⟨g,i,none⟩ u) (some g):=
 ⟨rfl,rfl,rfl,by simp[World.setCell],fun k _ hk=>Below.heap_setCell _ _ _ _ (fun e=>hk (by rw[e]))⟩
theorem Zl8(h:w.grownBy w' r):w.grownBy w'.drew r:=⟨h.os,h.tape,h.output,h.size,h.block⟩
theorem Own.kept{B:Nat}{v:Value}{row:Option Nat}(h:Own w B v xs)(hg:w.grownBy w' row)(hd:v.ownBlock=none∨v.ownBlock≠row):Own w' B v xs:=⟨h.1,h.2.kept hg hd⟩
theorem Own.lt{B:Nat}{v:Value}(h:Own w B v xs){k:Nat}(hk:v.ownBlock=some k):B≤k∧k<w.heap.size:=h.2.lt k hk
theorem RowAt.kept{a:Option Addr}{n:Nat}{row:Option Nat}(h:RowAt w a n xs)(hg:w.grownBy w' row)(hd:n=0∨∀ad,a=some ad→some ad.block≠row):RowAt w' a n xs:=by
 refine⟨h.1,h.2.1,?_⟩
 rcases h.2.2 with h0|⟨b,off,rfl,hc⟩
 ·exact .inl h0
 ·rcases hd with h0|hd
  ·exact .inl h0
  ·exact .inr ⟨b,off,rfl,fun i hi=>hg.cell (hc i hi) (hd ⟨b,off,none⟩ rfl)⟩
theorem RowAt.lt{a:Option Addr}{n:Nat}(h:RowAt w a n xs):n=0∨∀ad,a=some ad→ad.block<w.heap.size:=by
 rcases h.2.2 with h0|⟨b,off,rfl,hc⟩
 ·exact .inl h0
 ·by_cases h0:n=0
  ·exact .inl h0
  ·right
   intro ad e
   simp only[Option.some.injEq]at e
   subst e
   exact World.block_lt_of_cell? w _ (hc 0 (by omega))
theorem ZaM(g:Nat)(e:TypeId):∀(vs:List Value) (o:Nat) (w:World) (cur:Array Value),w.heap[g]? =some (.cells cur e (0,0))→
  ∃cur',(w.setCells g o vs).heap[g]? =some (.cells cur' e (0,0))∧cur'.size=cur.size∧∀j,j<cur.size→cur'[j]? =if o≤j∧j<o+vs.length then vs[j-o]? else cur[j]?
 |[],o,w,cur,h=>⟨cur,h,rfl,fun j hj=>by rw[if_neg (by simp only[List.length_nil];omega)]⟩
 |v::r,o,w,cur,h=>by
  obtain⟨cur',h1,h2,h3⟩:=ZaM g e r (o+1) (w.setCell ⟨g,o,none⟩ v) (cur.setIfInBounds o v) (heap_setCell_same w g o cur e v h)
  refine⟨cur',h1,by simpa using h2,fun j hj=>?_⟩
  rw[h3 j (by simpa using hj)]
  by_cases hjo:j=o
  ·subst hjo
   rw[if_neg (by omega),if_pos (by simp)]
   simp[hj]
  ·by_cases hin:o+1≤j∧j<o+1+r.length
   ·rw[if_pos hin,if_pos (by simp;omega)]
    rw[show j-o=(j-(o+1))+1 by omega,List.getElem?_cons_succ]
   ·rw[if_neg hin,if_neg (by simp;omega)]
    rw[Array.getElem?_setIfInBounds_ne (by omega)]
theorem Zbf(g:Nat):∀(vs:List Value) (o:Nat) (w:World),w.grownBy (w.setCells g o vs) (some g)
 |[],o,w=>Zdw _ _
 |v::r,o,w=>gb_trans (Zad w g o v) (Zbf g r (o+1) _) (.inl rfl)
end Go.Proofs.YtlhhinlghhjghaaGreatDoor
