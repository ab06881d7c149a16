/-
  Slices of packets ('PksAt'); contract of bucketlinelaw16.Few.
  Frames as data ('FRV'), and slices of a link's deeds ('DlAt': a number of ticks and a frame each). No condition.
  Numbers and their bytes, the highest first, on plain lists. No condition.
  Contracts of nums.known, nums.number (of at most 8 bytes), nums.Get, bucketlineref06.width, Get: for every text and every int.
  strings.Builder in this program: the shelf's contracts of Grow (of a new builder), WriteByte and String, laid at this program's own numbers. Conditions: a builder in a block of its own; at most 2^47 bytes.
-/
import Derived.Test.YtlhhinlghhjghaaGreatDoorU2
import Derived.Test.YtlhhinlghhjghaaGreatDoorU1
import Derived.Shelf.Strings.Builder2
import Derived.Shelf.Strings.Repeat
namespace Go.Proofs.YtlhhinlghhjghaaGreatDoor
open Go.RowKit Go.Sort
set_option linter.unusedVariables false
set_option linter.unusedSimpArgs false
set_option maxRecDepth 4000
set_option maxHeartbeats 8000000
variable {w w':World}
structure PKV where
 o:Int
 l:Int
 k:Int
 z:Int
 h:Int
 r:RV
def PKV.dflt:PKV:=⟨0,0,0,0,0,.dflt⟩
def PKV.val(p:PKV):Value:=.agg #[.int .i64 p.o,.int .i64 p.l,.int .i64 p.k,.int .i64 p.z,.int .i64 p.h,.slice p.r.a p.r.n p.r.c,.string p.r.s]
def PkCells(w:World)(b off:Nat)(p:PKV):Prop:=
 w.cell? ⟨b,off,none⟩=some (.int .i64 p.o)∧w.cell? ⟨b,off+1,none⟩=some (.int .i64 p.l)∧w.cell? ⟨b,off+2,none⟩=some (.int .i64 p.k)∧w.cell? ⟨b,off+3,none⟩=some (.int .i64 p.z)∧w.cell? ⟨b,off+4,none⟩=some (.int .i64 p.h)∧
  w.cell? ⟨b,off+5,none⟩=some (.slice p.r.a p.r.n p.r.c)∧w.cell? ⟨b,off+6,none⟩=some (.string p.r.s)
theorem PkCells.belowB{b off B:Nat}{p:PKV}(h:PkCells w b off p)(hb:Below B w w')(hB:b<B):PkCells w' b off p:=
 ⟨(hb.cell (p:=⟨b,off,none⟩) hB).trans h.1,(hb.cell (p:=⟨b,off+1,none⟩) hB).trans h.2.1,(hb.cell (p:=⟨b,off+2,none⟩) hB).trans h.2.2.1,(hb.cell (p:=⟨b,off+3,none⟩) hB).trans h.2.2.2.1,(hb.cell (p:=⟨b,off+4,none⟩) hB).trans h.2.2.2.2.1,(hb.cell (p:=⟨b,off+5,none⟩) hB).trans h.2.2.2.2.2.1,(hb.cell (p:=⟨b,off+6,none⟩) hB).trans h.2.2.2.2.2.2⟩
theorem PkCells.below{b off:Nat}{p:PKV}(h:PkCells w b off p)(hb:Below w.heap.size w w'):PkCells w' b off p:=h.belowB hb (World.block_lt_of_cell? w _ h.1)
def PksAt(w:World)(a:Option Addr)(n:Nat)(ps:List PKV):Prop:=
 ps.length=n∧(∀i,i<n→RowAt w (ps.getD i .dflt).r.a (ps.getD i .dflt).r.n (ps.getD i .dflt).r.xs)∧(n=0∨∃b off,a=some ⟨b,off,none⟩∧∀i,i<n→PkCells w b (off+i*7) (ps.getD i .dflt))
theorem PksAt.at{a:Option Addr}{n:Nat}{ps:List PKV}(h:PksAt w a n ps){i:Nat}(hi:i<n):∃b off,a=some ⟨b,off,none⟩∧∀i,i<n→PkCells w b (off+i*7) (ps.getD i .dflt):=by
 rcases h.2.2 with h0|h0
 ·omega
 ·exact h0
theorem PksAt.below{a:Option Addr}{n:Nat}{ps:List PKV}(h:PksAt w a n ps)(hb:Below w.heap.size w w'):PksAt w' a n ps:=by
 refine⟨h.1,fun i hi=>(h.2.1 i hi).below hb,?_⟩
 rcases h.2.2 with h0|⟨b,off,rfl,hc⟩
 ·exact .inl h0
 ·exact .inr ⟨b,off,rfl,fun i hi=>(hc i hi).below hb⟩
def ZqS(ps:List PKV):Prop:=∀i,(ps.getD i .dflt).r.n≤10∧(ps.getD i .dflt).r.s.size≤1000
structure FRV where
 kd:Int
 fr:Int
 ic:Int
 p:PKV
def FRV.val(f:FRV):Value:=.agg #[.int .i64 f.kd,.int .i64 f.fr,.int .i64 f.ic,.int .i64 f.p.o,.int .i64 f.p.l,.int .i64 f.p.k,.int .i64 f.p.z,.int .i64 f.p.h,.slice f.p.r.a f.p.r.n f.p.r.c,.string f.p.r.s]
end Go.Proofs.YtlhhinlghhjghaaGreatDoor
namespace Go.Proofs.YtlhhinlghhjghaaGreatDoor
open Go.RowKit
set_option linter.unusedVariables false
set_option linter.unusedSimpArgs false
set_option maxRecDepth 4000
set_option maxHeartbeats 8000000
variable {s:ByteArray}{k:Int}{xs:List Nat}
def num(xs:List Nat):Nat:=xs.foldl (fun a b=>a*256+b) 0
theorem ZwC(xs:List Nat)(b:Nat):num (xs++[b])=num xs*256+b:=by simp[num]
theorem Zr6(xs:List Nat):∀a,xs.foldl (fun a b=>a*256+b) a=a*256^xs.length+num xs:=by
 unfold num
 induction xs with
 |nil=>intro a;simp
 |cons x r ih=>
  intro a
  simp only[List.foldl_cons,List.length_cons]
  rw[ih (a*256+x),ih (0*256+x),Nat.pow_succ,Nat.add_mul]
  simp only[Nat.zero_mul,Nat.zero_add]
  rw[Nat.mul_assoc a 256,Nat.mul_comm 256,Nat.add_assoc]
theorem Zjx(x:Nat)(r:List Nat):num (x::r)=x*256^r.length+num r:=by
 have:=Zr6 r (0*256+x)
 simp only[Nat.zero_mul,Nat.zero_add]at this
 simpa [num]using this
theorem Zx4(h:bytes xs):num xs<256^xs.length:=by
 induction xs with
 |nil=>simp[num]
 |cons x r ih=>
  have h1:x<256:=h x (List.mem_cons_self ..)
  have h2:=ih (fun y hy=>h y (List.mem_cons_of_mem _ hy))
  rw[Zjx,List.length_cons,Nat.pow_succ]
  have h3:x*256^r.length≤255*256^r.length:=Nat.mul_le_mul_right _ (by omega)
  omega
theorem Zcp(h:bytes xs){k:Nat}(hk:xs.length≤k):num xs<256^k:=Nat.lt_of_lt_of_le (Zx4 h) (Nat.pow_le_pow_right (by decide) hk)
def be:Nat→Nat→List Nat
 |0,_=>[]
 |W+1,n=>(n/256^W%256)::be W n
theorem Zan:∀(W n:Nat),(be W n).length=W
 |0,_=>rfl
 |W+1,n=>by rw[be,List.length_cons,Zan W n]
theorem Zjb:∀(W n:Nat),bytes (be W n)
 |0,_=>ZcW
 |W+1,n=>by
  intro x hx
  rw[be]at hx
  rcases List.mem_cons.1 hx with rfl|hx
  ·exact Nat.mod_lt _ (by decide)
  ·exact Zjb W n x hx
theorem ZsF:∀(W n k:Nat),k<W→(be W n).take (k+1)=(be W n).take k++[n/256^(W-1-k)%256]
 |0,_,_,h=>by omega
 |W+1,n,0,_=>by simp[be]
 |W+1,n,k+1,h=>by
  have:=ZsF W n k (by omega)
  rw[be,List.take_succ_cons,List.take_succ_cons,this,show W+1-1-(k+1)=W-1-k by omega]
  rfl
theorem Zlx:∀(W n:Nat),num (be W n)=n%256^W
 |0,n=>by simp[be,num,Nat.mod_one]
 |W+1,n=>by
  rw[be,Zjx,Zan,Zlx W n,Nat.mod_pow_succ,Nat.mul_comm,Nat.add_comm]
theorem ZxP:∀(W m n:Nat),m%256^W=n%256^W→be W m=be W n
 |0,_,_,_=>rfl
 |W+1,m,n,h=>by
  rw[Nat.mod_pow_succ,Nat.mod_pow_succ]at h
  have hp:0<256^W:=Nat.pow_pos (by decide)
  have h1:=Nat.mod_lt m hp
  have h2:=Nat.mod_lt n hp
  have e1:m%256^W=n%256^W:=by
   have:=congrArg (· %256^W) h
   simpa [Nat.add_mul_mod_self_left,Nat.mod_eq_of_lt h1,Nat.mod_eq_of_lt h2]using this
  have e2:m/256^W%256=n/256^W%256:=by
   rw[e1]at h
   exact Nat.eq_of_mul_eq_mul_left hp (by omega)
  rw[be,be,e2,ZxP W m n e1]
def beV(v:List Nat):List Nat:=v.flatMap (be 8)
theorem Znp(x:Nat)(r:List Nat):beV (x::r)=be 8 x++beV r:=by simp[beV]
theorem Zcj:∀v:List Nat,(beV v).length=8*v.length
 |[]=>rfl
 |x::r=>by rw[Znp,List.length_append,Zan,Zcj r,List.length_cons];omega
theorem Zk3(v:List Nat):bytes (beV v):=by
 intro x hx
 obtain⟨y,_,hy⟩:=List.mem_flatMap.1 hx
 exact Zjb 8 y x hy
theorem Zm4{v:List Nat}{k:Nat}(hk:k<v.length):v.take (k+1)=v.take k++[v.getD k 0]:=by
 rw[List.take_add_one,List.getElem?_eq_getElem hk,List.getD_eq_getElem?_getD,List.getElem?_eq_getElem hk]
 rfl
theorem Zwq(W:Nat){v:List Nat}{k:Nat}(hk:k<v.length):(v.take (k+1)).flatMap (be W)=(v.take k).flatMap (be W)++be W (v.getD k 0):=by
 rw[Zm4 hk,List.flatMap_append]
 simp
theorem ZiC(W:Nat):∀v:List Nat,(v.flatMap (be W)).length=v.length*W
 |[]=>by simp
 |x::r=>by rw[List.flatMap_cons,List.length_append,Zan,ZiC W r,List.length_cons,Nat.add_mul];omega
theorem Zay{ys:List Nat}(hx:bytes xs)(hy:bytes ys):bytes (xs++ys):=by
 intro x h
 rcases List.mem_append.1 h with h|h
 ·exact hx x h
 ·exact hy x h
def wsL(xs:List Nat)(n:Nat):List Nat:=(List.range n).map fun i=>num ((xs.drop (8*i)).take 8)
theorem Zd9(xs:List Nat)(n:Nat):(wsL xs n).length=n:=by simp[wsL]
theorem ZoA(xs:List Nat)(n:Nat):wsL xs (n+1)=wsL xs n++[num ((xs.drop (8*n)).take 8)]:=by simp[wsL,List.range_succ]
theorem Zu3(hx:xs.length=8)(ys:List Nat)(n:Nat):wsL (xs++ys) (n+1)=num xs::wsL ys n:=by
 unfold wsL
 rw[List.range_succ_eq_map,List.map_cons,List.map_map]
 congr 1
 ·rw[Nat.mul_zero,List.drop_zero,←hx,List.take_left]
 ·apply List.map_congr_left
  intro i _
  show num ((List.drop (8*(i+1)) (xs++ys)).take 8)=_
  rw[show 8*(i+1)=xs.length+8*i by omega,List.drop_append,List.drop_eq_nil_of_le (by omega),List.nil_append,show xs.length+8*i-xs.length=8*i by omega]
theorem Zsx:∀(v zs:List Nat),smalls v→wsL (beV v++zs) v.length=v
 |[],_,_=>rfl
 |x::r,zs,h=>by
  have hx:x<18446744073709551616:=h x (List.mem_cons_self ..)
  rw[Znp,List.append_assoc,List.length_cons,Zu3 (Zan 8 x),Zlx,Zsx r zs (fun y hy=>h y (List.mem_cons_of_mem _ hy)),Nat.mod_eq_of_lt hx]
theorem ZwE(x b:Nat)(hx:x<72057594037927936)(hb:b<256):bits .or .u64 ((x:Int)*256) (b:Int)=((x*256+b:Nat):Int):=by
 rw[show(x:Int)*256=((256*x:Nat):Int) by omega,u64_or_nat (256*x) b (by omega) (by omega)]
 congr 1
 have:=Nat.two_pow_add_eq_or_of_lt (i:=8) (show b<2^8 by omega) x
 rw[show(256:Nat)=2^8 from rfl,←this]
 omega
def isW(k:Int):Prop:=k=1∨k=2∨k=4
theorem ZjT(h:isW k):∃W:Nat,k=(W:Int)∧(W=1∨W=2∨W=4):=by
 rcases h with rfl|rfl|rfl
 ·exact⟨1,rfl,.inl rfl⟩
 ·exact⟨2,rfl,.inr (.inl rfl)⟩
 ·exact⟨4,rfl,.inr (.inr rfl)⟩
theorem ZzY(h:¬isW k):(k==1)=false∧(k==2)=false∧(k==4)=false:=by
 unfold isW at h
 simp only[beq_eq_false_iff_ne,ne_eq]
 omega
theorem Zhl(k:Int)(h:isW k)(w:World):Calls Tryz.prog 193 #[.int .i64 k] w fun e w'=>e=.returned (.bool true)∧w'=w:=by
 rcases h with rfl|rfl|rfl
 all_goals
  go_enter Tryz.func193,Tryz.ntmps193
  go_wp2
  go_ret
  exact⟨rfl,rfl⟩
theorem ZmZ(k:Int)(h:¬isW k)(w:World):Calls Tryz.prog 193 #[.int .i64 k] w fun e w'=>e=.returned (.bool false)∧w'=w:=by
 obtain⟨h1,h2,h3⟩:=ZzY h
 clear h
 go_enter Tryz.func193,Tryz.ntmps193
 go_wp2
 go_ret
 exact⟨rfl,rfl⟩
theorem Zxw{k:Nat}(hk:k<xs.length):num (xs.take (k+1))=num (xs.take k)*256+xs.getD k 0:=by rw[Zm4 hk,ZwC]
theorem ZlR(h:bytes xs)(k:Nat):num (xs.take k)<256^k:=Zcp (ZaU h k) (List.length_take_le ..)
theorem Zix(s:ByteArray)(hs:s.size≤8)(w:World):
  Calls Tryz.prog 202 #[.string s] w fun e w'=>e=.returned (.int .u64 ((num (tx s):Nat):Int))∧w'=w:=by
 have hl:=Zaa s
 have hb:=Zal s
 go_enter Tryz.func202,Tryz.ntmps202
 go_wp2
 go_loop [3,7] (fun t i=> ∃k x:Nat,k≤s.size∧i=.int .i64 k∧t=.int .u64 (x:Int)∧Hid (x=num ((tx s).take k))) (fun _ i=>s.size-(intOf i).toNat)
 case atStart=>exact⟨0,0,Nat.zero_le _,rfl,rfl,hide (by simp[num])⟩
 case round=>
  obtain⟨k,x,hk,rfl,rfl,HX⟩:=hrel
  by_cases hlt:k<s.size
  ·have hget:=ZnO s k hlt
   have hb1:=hb.get k
   have hn:=ZlR hb k
   have hn2:x<72057594037927936:=by
    rw[unhide HX]
    exact Nat.lt_of_lt_of_le hn (Nat.pow_le_pow_right (n:=256) (by decide) (show k≤7 by omega))
   have HS:=hide (Zxw (xs:=tx s) (k:=k) (by omega))
   have HP:=hide (ZwE x _ hn2 hb1)
   generalize (tx s).getD k 0=b at*
   clear hn hl hb
   go_wp2
   go_round
   case rel=>exact⟨k+1,x*256+b,by omega,by go_num,by rw[unhide HP],hide (by rw[unhide HS,unhide HX])⟩
   case measure=>simp[intOf];omega
  ·have hke:k=s.size:=by omega
   subst hke
   rw[←hl,List.take_length]at HX
   go_wp2
   go_ret
   exact⟨ZaE (by rw[unhide HX]),rfl⟩
def gN(s:ByteArray)(k:Int):Nat:=if (k=1∨k=2∨k=4)∧k≤(s.size:Int)then num ((tx s).take k.toNat)else 0
def gE(s:ByteArray)(k:Int):Nat:=if¬(k=1∨k=2∨k=4)then 1 else if (s.size:Int)<k then 2 else 0
theorem g_no(h:¬isW k):gN s k=0∧gE s k=1:=by
 unfold gN gE
 exact⟨if_neg fun h1=>h h1.1,if_pos h⟩
theorem ZyA(h:isW k)(h1:(s.size:Int)<k):gN s k=0∧gE s k=2:=by
 unfold gN gE
 exact⟨if_neg fun h2=>by omega,by rw[if_neg (fun h2=>h2 h),if_pos h1]⟩
theorem Zzu(h:isW k)(h1:k≤(s.size:Int)):gN s k=num ((tx s).take k.toNat)∧gE s k=0:=by
 unfold gN gE
 exact⟨if_pos ⟨h,h1⟩,by rw[if_neg (fun h2=>h2 h),if_neg (by omega)]⟩
theorem ret2{k k':IntKind}{a a' b b':Int}(h:a=a')(h':b=b'):Ending.returned (.tuple #[.int k a,.int k' b])=.returned (.tuple #[.int k a',.int k' b']):=by rw[h,h']
theorem Zg8(s:ByteArray)(k:Int)(w:World):
  Calls Tryz.prog 174 #[.string s,.int .i64 k] w fun e w'=>e=.returned (.tuple #[.int .i64 ((gN s k:Nat):Int),.int .i64 ((gE s k:Nat):Int)])∧w'=w:=by
 by_cases h:isW k
 ·by_cases h1:(s.size:Int)<k
  ·obtain⟨e1,e2⟩:=ZyA h h1
   rw[e1,e2]
   have HK:=hide (fun wx=>Zhl k h wx)
   clear h e1 e2
   go_enter Tryz.func174,Tryz.ntmps174
   go_wp2_with (go_at_call 193;refine(unhide HK _).mono ?_;rintro e w' ⟨rfl,rfl⟩)
   go_ret2
   exact⟨rfl,rfl⟩
  ·obtain⟨e1,e2⟩:=Zzu (s:=s) h (by omega)
   rw[e1,e2]
   have HK:=hide (fun wx=>Zhl k h wx)
   obtain⟨W,rfl,hW⟩:=ZjT h
   have hsz:(s.extract 0 W).size=W:=by rw[ByteArray.size_extract];omega
   have HN:=hide (fun wx=>Zix (s.extract 0 W) (by omega) wx)
   have HT:=hide (show num (tx (s.extract 0 W))=num ((tx s).take W) by rw[ZcJ];rfl)
   have hlt:num (tx (s.extract 0 W))<256^4:=Zcp (Zal _) (by rw[Zaa];omega)
   generalize num (tx (s.extract 0 W))=x at*
   clear h e1 e2 hsz hW
   go_enter Tryz.func174,Tryz.ntmps174
   go_wp2_with (first|(go_at_call 193;refine(unhide HK _).mono ?_;rintro e w' ⟨rfl,rfl⟩)|(go_at_call 202;refine(unhide HN _).mono ?_;rintro e w' ⟨rfl,rfl⟩))
   go_ret2
   rw[Int.toNat_natCast]
   exact⟨ret2 (by rw[←unhide HT]) rfl,rfl⟩
 ·obtain⟨e1,e2⟩:=g_no (s:=s) h
  rw[e1,e2]
  have HK:=hide (fun wx=>ZmZ k h wx)
  clear h e1 e2
  go_enter Tryz.func174,Tryz.ntmps174
  go_wp2_with (go_at_call 193;refine(unhide HK _).mono ?_;rintro e w' ⟨rfl,rfl⟩)
  go_ret2
  exact⟨rfl,rfl⟩
end Go.Proofs.YtlhhinlghhjghaaGreatDoor
namespace Go.Proofs.YtlhhinlghhjghaaGreatDoor
open Go.RowKit Go.Shelf
set_option linter.unusedVariables false
set_option linter.unusedSimpArgs false
set_option maxRecDepth 4000
set_option maxHeartbeats 8000000
def bren:Ren:=⟨fun|165=>214|166=>215|170=>216|105=>233|99=>270|206=>307|212=>269|263=>305|264=>306|167=>230|169=>217|240=>243|241=>244|276=>290|277=>291|n=>n,fun|0=>0|3=>3|4=>4|5=>5|9=>9|20=>20|37=>260|70=>315|72=>317|75=>319|80=>118|46=>264|51=>95|53=>69|76=>320|109=>359|146=>388|148=>390|127=>300|164=>377|n=>n,fun|n=>n⟩
theorem ZwI:Lays.n167 Tryz.prog bren:={
 mixed:=by kernel_rfl
 f167:=Tryz.func230.trans (congrArg some (by kernel_rfl))
 f240:=Tryz.func243.trans (congrArg some (by kernel_rfl))
 f276:=Tryz.func290.trans (congrArg some (by kernel_rfl))
 t0:=Tryz.underlying0
 a0:=Tryz.isAgg0
 z0:=Tryz.sizeOf0
 v0:=Tryz.zeroValue0
 t4:=Tryz.underlying4
 a4:=Tryz.isAgg4
 z4:=Tryz.sizeOf4
 v4:=Tryz.zeroValue4
 t5:=Tryz.underlying5
 a5:=Tryz.isAgg5
 z5:=Tryz.sizeOf5
 v5:=Tryz.zeroValue5
 t9:=Tryz.underlying9
 a9:=Tryz.isAgg9
 z9:=Tryz.sizeOf9
 v9:=Tryz.zeroValue9
 t20:=Tryz.underlying20
 a20:=Tryz.isAgg20
 z20:=Tryz.sizeOf20
 v20:=Tryz.zeroValue20
 t37:=Tryz.underlying260
 a37:=Tryz.isAgg260
 z37:=Tryz.sizeOf260
 v37:=Tryz.zeroValue260
 t70:=Tryz.underlying315
 a70:=Tryz.isAgg315
 z70:=Tryz.sizeOf315
 v70:=Tryz.zeroValue315
 t72:=Tryz.underlying317
 a72:=Tryz.isAgg317
 z72:=Tryz.sizeOf317
 v72:=Tryz.zeroValue317
 t75:=Tryz.underlying319
 a75:=Tryz.isAgg319
 z75:=Tryz.sizeOf319
 v75:=Tryz.zeroValue319
 t164:=Tryz.underlying377
 a164:=Tryz.isAgg377
 z164:=Tryz.sizeOf377
 v164:=Tryz.zeroValue377}
theorem ZvG:Lays.n165 Tryz.prog bren:={
 mixed:=by kernel_rfl
 f165:=Tryz.func214.trans (congrArg some (by kernel_rfl))
 f240:=Tryz.func243.trans (congrArg some (by kernel_rfl))
 f241:=Tryz.func244.trans (congrArg some (by kernel_rfl))
 f276:=Tryz.func290.trans (congrArg some (by kernel_rfl))
 f277:=Tryz.func291.trans (congrArg some (by kernel_rfl))
 t0:=Tryz.underlying0
 a0:=Tryz.isAgg0
 z0:=Tryz.sizeOf0
 v0:=Tryz.zeroValue0
 t3:=Tryz.underlying3
 a3:=Tryz.isAgg3
 z3:=Tryz.sizeOf3
 v3:=Tryz.zeroValue3
 t4:=Tryz.underlying4
 a4:=Tryz.isAgg4
 z4:=Tryz.sizeOf4
 v4:=Tryz.zeroValue4
 t9:=Tryz.underlying9
 a9:=Tryz.isAgg9
 z9:=Tryz.sizeOf9
 v9:=Tryz.zeroValue9
 t20:=Tryz.underlying20
 a20:=Tryz.isAgg20
 z20:=Tryz.sizeOf20
 v20:=Tryz.zeroValue20
 t37:=Tryz.underlying260
 a37:=Tryz.isAgg260
 z37:=Tryz.sizeOf260
 v37:=Tryz.zeroValue260
 t70:=Tryz.underlying315
 a70:=Tryz.isAgg315
 z70:=Tryz.sizeOf315
 v70:=Tryz.zeroValue315
 t72:=Tryz.underlying317
 a72:=Tryz.isAgg317
 z72:=Tryz.sizeOf317
 v72:=Tryz.zeroValue317
 t164:=Tryz.underlying377
 a164:=Tryz.isAgg377
 z164:=Tryz.sizeOf377
 v164:=Tryz.zeroValue377}
theorem Zw3:Lays.n169 Tryz.prog bren:={
 mixed:=by kernel_rfl
 f169:=Tryz.func217.trans (congrArg some (by kernel_rfl))
 t0:=Tryz.underlying0
 a0:=Tryz.isAgg0
 z0:=Tryz.sizeOf0
 v0:=Tryz.zeroValue0
 t3:=Tryz.underlying3
 a3:=Tryz.isAgg3
 z3:=Tryz.sizeOf3
 v3:=Tryz.zeroValue3
 t9:=Tryz.underlying9
 a9:=Tryz.isAgg9
 z9:=Tryz.sizeOf9
 v9:=Tryz.zeroValue9
 t37:=Tryz.underlying260
 a37:=Tryz.isAgg260
 z37:=Tryz.sizeOf260
 v37:=Tryz.zeroValue260
 t70:=Tryz.underlying315
 a70:=Tryz.isAgg315
 z70:=Tryz.sizeOf315
 v70:=Tryz.zeroValue315
 t72:=Tryz.underlying317
 a72:=Tryz.isAgg317
 z72:=Tryz.sizeOf317
 v72:=Tryz.zeroValue317
 t127:=Tryz.underlying300
 a127:=Tryz.isAgg300
 z127:=Tryz.sizeOf300
 v127:=Tryz.zeroValue300}
theorem Zv7:Lays.n166 Tryz.prog bren:={
 mixed:=by kernel_rfl
 f166:=Tryz.func215.trans (congrArg some (by kernel_rfl))
 f240:=Tryz.func243.trans (congrArg some (by kernel_rfl))
 f276:=Tryz.func290.trans (congrArg some (by kernel_rfl))
 t0:=Tryz.underlying0
 a0:=Tryz.isAgg0
 z0:=Tryz.sizeOf0
 v0:=Tryz.zeroValue0
 t3:=Tryz.underlying3
 a3:=Tryz.isAgg3
 z3:=Tryz.sizeOf3
 v3:=Tryz.zeroValue3
 t4:=Tryz.underlying4
 a4:=Tryz.isAgg4
 z4:=Tryz.sizeOf4
 v4:=Tryz.zeroValue4
 t9:=Tryz.underlying9
 a9:=Tryz.isAgg9
 z9:=Tryz.sizeOf9
 v9:=Tryz.zeroValue9
 t20:=Tryz.underlying20
 a20:=Tryz.isAgg20
 z20:=Tryz.sizeOf20
 v20:=Tryz.zeroValue20
 t37:=Tryz.underlying260
 a37:=Tryz.isAgg260
 z37:=Tryz.sizeOf260
 v37:=Tryz.zeroValue260
 t70:=Tryz.underlying315
 a70:=Tryz.isAgg315
 z70:=Tryz.sizeOf315
 v70:=Tryz.zeroValue315
 t72:=Tryz.underlying317
 a72:=Tryz.isAgg317
 z72:=Tryz.sizeOf317
 v72:=Tryz.zeroValue317
 t75:=Tryz.underlying319
 a75:=Tryz.isAgg319
 z75:=Tryz.sizeOf319
 v75:=Tryz.zeroValue319
 t164:=Tryz.underlying377
 a164:=Tryz.isAgg377
 z164:=Tryz.sizeOf377
 v164:=Tryz.zeroValue377}
theorem ZwJ:Lays.n170 Tryz.prog bren:={
 mixed:=by kernel_rfl
 f170:=Tryz.func216.trans (congrArg some (by kernel_rfl))
 t0:=Tryz.underlying0
 a0:=Tryz.isAgg0
 z0:=Tryz.sizeOf0
 v0:=Tryz.zeroValue0
 t3:=Tryz.underlying3
 a3:=Tryz.isAgg3
 z3:=Tryz.sizeOf3
 v3:=Tryz.zeroValue3
 t37:=Tryz.underlying260
 a37:=Tryz.isAgg260
 z37:=Tryz.sizeOf260
 v37:=Tryz.zeroValue260
 t70:=Tryz.underlying315
 a70:=Tryz.isAgg315
 z70:=Tryz.sizeOf315
 v70:=Tryz.zeroValue315
 t72:=Tryz.underlying317
 a72:=Tryz.isAgg317
 z72:=Tryz.sizeOf317
 v72:=Tryz.zeroValue317}
theorem ZuN:Lays.n105 Tryz.prog bren:={
 mixed:=by kernel_rfl
 f99:=Tryz.func270.trans (congrArg some (by kernel_rfl))
 f105:=Tryz.func233.trans (congrArg some (by kernel_rfl))
 f165:=Tryz.func214.trans (congrArg some (by kernel_rfl))
 f166:=Tryz.func215.trans (congrArg some (by kernel_rfl))
 f169:=Tryz.func217.trans (congrArg some (by kernel_rfl))
 f170:=Tryz.func216.trans (congrArg some (by kernel_rfl))
 f206:=Tryz.func307.trans (congrArg some (by kernel_rfl))
 f212:=Tryz.func269.trans (congrArg some (by kernel_rfl))
 f240:=Tryz.func243.trans (congrArg some (by kernel_rfl))
 f241:=Tryz.func244.trans (congrArg some (by kernel_rfl))
 f263:=Tryz.func305.trans (congrArg some (by kernel_rfl))
 f264:=Tryz.func306.trans (congrArg some (by kernel_rfl))
 f276:=Tryz.func290.trans (congrArg some (by kernel_rfl))
 f277:=Tryz.func291.trans (congrArg some (by kernel_rfl))
 t0:=Tryz.underlying0
 a0:=Tryz.isAgg0
 z0:=Tryz.sizeOf0
 v0:=Tryz.zeroValue0
 t3:=Tryz.underlying3
 a3:=Tryz.isAgg3
 z3:=Tryz.sizeOf3
 v3:=Tryz.zeroValue3
 t4:=Tryz.underlying4
 a4:=Tryz.isAgg4
 z4:=Tryz.sizeOf4
 v4:=Tryz.zeroValue4
 t5:=Tryz.underlying5
 a5:=Tryz.isAgg5
 z5:=Tryz.sizeOf5
 v5:=Tryz.zeroValue5
 t9:=Tryz.underlying9
 a9:=Tryz.isAgg9
 z9:=Tryz.sizeOf9
 v9:=Tryz.zeroValue9
 t20:=Tryz.underlying20
 a20:=Tryz.isAgg20
 z20:=Tryz.sizeOf20
 v20:=Tryz.zeroValue20
 t37:=Tryz.underlying260
 a37:=Tryz.isAgg260
 z37:=Tryz.sizeOf260
 v37:=Tryz.zeroValue260
 t46:=Tryz.underlying264
 a46:=Tryz.isAgg264
 z46:=Tryz.sizeOf264
 v46:=Tryz.zeroValue264
 t51:=Tryz.underlying95
 a51:=Tryz.isAgg95
 z51:=Tryz.sizeOf95
 v51:=Tryz.zeroValue95
 t53:=Tryz.underlying69
 a53:=Tryz.isAgg69
 z53:=Tryz.sizeOf69
 v53:=Tryz.zeroValue69
 t70:=Tryz.underlying315
 a70:=Tryz.isAgg315
 z70:=Tryz.sizeOf315
 v70:=Tryz.zeroValue315
 t72:=Tryz.underlying317
 a72:=Tryz.isAgg317
 z72:=Tryz.sizeOf317
 v72:=Tryz.zeroValue317
 t75:=Tryz.underlying319
 a75:=Tryz.isAgg319
 z75:=Tryz.sizeOf319
 v75:=Tryz.zeroValue319
 t76:=Tryz.underlying320
 a76:=Tryz.isAgg320
 z76:=Tryz.sizeOf320
 v76:=Tryz.zeroValue320
 t109:=Tryz.underlying359
 a109:=Tryz.isAgg359
 z109:=Tryz.sizeOf359
 v109:=Tryz.zeroValue359
 t127:=Tryz.underlying300
 a127:=Tryz.isAgg300
 z127:=Tryz.sizeOf300
 v127:=Tryz.zeroValue300
 t146:=Tryz.underlying388
 a146:=Tryz.isAgg388
 z146:=Tryz.sizeOf388
 v146:=Tryz.zeroValue388
 t148:=Tryz.underlying390
 a148:=Tryz.isAgg390
 z148:=Tryz.sizeOf390
 v148:=Tryz.zeroValue390
 t164:=Tryz.underlying377
 a164:=Tryz.isAgg377
 z164:=Tryz.sizeOf377
 v164:=Tryz.zeroValue377}
theorem ZkG:Builder.Extra Tryz.prog bren:={
 sizeBuilder:=by kernel_rfl
 liesBuilder:=by kernel_rfl
 t5:=Tryz.underlying5
 a5:=Tryz.isAgg5
 z5:=Tryz.sizeOf5
 v5:=Tryz.zeroValue5
 infoByte:=by kernel_rfl
 cellsByte:=by kernel_rfl
 sizeByte:=by kernel_rfl
 neB5:=by decide}
def Zb2(xs:List Nat):List Value:=xs.map fun(x:Nat)=>Value.int .u8 (x:Int)
theorem Zdd(xs:List Nat):(Zb2 xs).length=xs.length:=by simp[Zb2]
theorem Zl9(xs:List Nat)(x:Nat):Zb2 xs++[.int .u8 (x:Int)]=Zb2 (xs++[x]):=by simp[Zb2]
theorem Zlt{xs:List Nat}(h:bytes xs):Lib.byteCells (xs.map UInt8.ofNat)=Zb2 xs:=by
 unfold Lib.byteCells Zb2
 rw[List.map_map]
 apply List.map_congr_left
 intro x hx
 have:=h x hx
 simp[Nat.mod_eq_of_lt this]
def Bld(w:World)(B b:Nat)(xs:List Nat):Prop:=bytes xs∧Lib.IsBuilder 317 5 B b (Zb2 xs) w
theorem ZkO(B b n:Nat)(w:World)(hB:B≤b)(hbk:w.heap[b]? =some (.cells #[.pointer none,.slice none 0 0] 317 (0,0)))(hBw:B≤w.heap.size)(hn:n≤1073741824):
  Calls Tryz.prog 214 #[.pointer (some ⟨b,0,none⟩),.int .i64 n] w fun e w'=>e=.returned (.tuple #[])∧Bld w' B b []∧Below B w w':=
 (Any.Builder_Grow_fresh ZvG ZkG B b n w hB hbk hBw (by omega)).mono fun e w' h=>⟨h.1,⟨ZcW,.inr h.2.1⟩,h.2.2⟩
theorem Zsy(B b:Nat)(xs:List Nat)(x:Nat)(w:World)(h:Bld w B b xs)(hx:x<256)(hl:xs.length≤1073741824)(hBw:B≤w.heap.size):
  Calls Tryz.prog 230 #[.pointer (some ⟨b,0,none⟩),.int .u8 (x:Int)] w fun e w'=>e=.returned .nilIface∧Bld w' B b (xs++[x])∧Below B w w':=
 (Any.Builder_WriteByte ZwI ZkG B b (Zb2 xs) (x:Int) w h.2 (by rw[Zdd];omega) hBw).mono fun e w' k=>
  ⟨k.1,⟨Zay h.1 (fun y hy=>by rw[List.mem_singleton.1 hy];exact hx),.inr (by have:=k.2.1;rw[Zl9]at this;exact this)⟩,k.2.2⟩
theorem Zou(B b:Nat)(xs:List Nat)(w:World)(h:Bld w B b xs)(hBw:B≤w.heap.size):
  Calls Tryz.prog 217 #[.pointer (some ⟨b,0,none⟩)] w fun e w'=>e=.returned (.string (st xs))∧Below B w w':=
 (Any.Builder_String_any Zw3 ZkG B b (xs.map UInt8.ofNat) w (by rw[Zlt h.1];exact h.2) hBw)
theorem Zma(s:ByteArray):Lib.strCells s=Zb2 (tx s):=by
 unfold Lib.strCells Zb2 tx
 rw[List.map_map]
 rfl
theorem Zjd(xs ys:List Nat):Zb2 xs++Zb2 ys=Zb2 (xs++ys):=by simp[Zb2]
theorem Zr9(B b:Nat)(xs:List Nat)(s:ByteArray)(w:World)(h:Bld w B b xs)(hl:xs.length+s.size≤1073741824)(hBw:B≤w.heap.size):
  Calls Tryz.prog 215 #[.pointer (some ⟨b,0,none⟩),.string s] w fun e w'=>e=.returned (.tuple #[.int .i64 s.size,.nilIface])∧Bld w' B b (xs++tx s)∧Below B w w':=
 (Any.Builder_WriteString Zv7 ZkG B b (Zb2 xs) s w h.2 (by rw[Zdd];omega) hBw).mono fun e w' k=>
  ⟨k.1,⟨Zay h.1 (Zal s),.inr (by have:=k.2.1;rw[Zma,Zjd]at this;exact this)⟩,k.2.2⟩
theorem ZwZ(B b:Nat)(xs:List Nat)(w:World)(h:Bld w B b xs):
  Calls Tryz.prog 216 #[.pointer (some ⟨b,0,none⟩)] w fun e w'=>e=.returned (.int .i64 xs.length)∧w'=w:=
 (Any.Builder_Len ZwJ B b (Zb2 xs) w h.2).mono fun e w' k=>by rw[Zdd]at k;exact k
theorem Zi3(c:Nat):(⟨(Lib.repeatL [0] c).toArray⟩:ByteArray)=st (List.replicate c 0):=by
 have h:=Lib.repeatL_replicate 0 1 c
 rw[Nat.mul_one]at h
 rw[show([0]:List UInt8)=List.replicate 1 0 from rfl,h]
 unfold st
 rw[List.map_replicate]
 rfl
theorem Zlj(c:Nat)(w:World)(hc:c≤1048576):
  Calls Tryz.prog 233 #[.string ⟨#[0]⟩,.int .i64 c] w fun e w'=>e=.returned (.string (st (List.replicate c 0)))∧Below w.heap.size w w':=
 (Any.strings_Repeat ZuN ZkG ⟨#[0]⟩ c w (by omega) (by show 1*c≤_;omega)).mono fun e w' k=>by
  rw[←Zi3]
  exact k
end Go.Proofs.YtlhhinlghhjghaaGreatDoor
