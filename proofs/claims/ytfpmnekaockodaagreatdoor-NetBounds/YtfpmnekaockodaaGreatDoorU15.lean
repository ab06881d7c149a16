/- Laws for the proof. -/
import Derived.Test.YtfpmnekaockodaaGreatDoorU14
import Derived.Shelf.Strings.Builder2
import Derived.Shelf.Strings.Repeat
namespace Go.Proofs.YtfpmnekaockodaaGreatDoor
open Go.RowKit Go.Conc Go.Sort Go.Shelf
set_option linter.all false
set_option maxRecDepth 4000
set_option maxHeartbeats 8000000
variable {M q Lv:Int}{L:List ByteArray}{g c gb gq lo:Nat}{w w':World}
structure Au(w:World)(g gb gq c:Nat)(M q Lv:Int)(L:List ByteArray)(lo:Nat):Prop where
 blk:BkA 199 w g [.int .i64 M,.int .i64 q,.pointer (some ⟨gb,0,none⟩),.pointer (some ⟨gq,0,none⟩)]
 bt:BK w gb M (1000*By q 1 256) Lv
 qu:AK w gq c (capN q) L lo
def lkF(g gb gq c:Nat)(j:Nat):Prop:=j=g\/j=gb\/j=gq\/j=c
theorem BkA.neC{T:TypeId}{cs:List Value}{cap:Nat}{buf:Array Value}{a:Bool}{s r:Nat}{tm:Bool}(h:BkA T w g cs)(b:w.heap[c]? =some (.chan cap buf a s r tm)):g≠c:=fun e=>by
 unfold BkA at h;rw[e,b]at h;cases h
theorem BkA.neB{T b:TypeId}{g':Nat}{cs a:List Value}(h:BkA T w g cs)(d:BkA b w g' a)(e:T≠b):g≠g':=by
 unfold BkA at d;exact h.ne d e
theorem Au.lt(h:Au w g gb gq c M q Lv L lo):g<w.heap.size/\gb<w.heap.size/\gq<w.heap.size/\c<w.heap.size:=
 ⟨h.blk.lt,h.bt.blk.lt,h.qu.lt.1,h.qu.lt.2⟩
theorem Au.ne(h:Au w g gb gq c M q Lv L lo):(g≠gb/\g≠gq/\g≠c)/\(gb≠gq/\gb≠c)/\gq≠c:=by
 obtain⟨s,r,a⟩:=h.qu.chn;exact⟨⟨h.blk.neB h.bt.blk (by decide),h.blk.neB h.qu.blk (by decide),h.blk.neC a⟩,⟨h.bt.blk.neB h.qu.blk (by decide),h.bt.blk.neC a⟩,h.qu.ne⟩
theorem Au.tu{F:Nat->Prop}(h:Au w g gb gq c M q Lv L lo)(ht:Tu F w w')(a:¬F g)(b:¬F gb)(d:¬F gq)(e:¬F c):Au w' g gb gq c M q Lv L lo:=
 ⟨h.blk.tu ht a,h.bt.tu ht b,h.qu.tu ht d e⟩
theorem Au.below(h:Au w g gb gq c M q Lv L lo)(a:Below w.heap.size w w'):Au w' g gb gq c M q Lv L lo:=
 h.tu (F:=fun _=>False) (Tu.of_below a) id id id id
theorem Au.belowB{B:Nat}(h:Au w g gb gq c M q Lv L lo)(a:Below B w w')(b:g<B)(d:gb<B)(e:gq<B)(f:c<B):Au w' g gb gq c M q Lv L lo:=
 ⟨h.blk.belowB a b,⟨h.bt.blk.belowB a d,h.bt.mil,h.bt.top,h.bt.lev⟩,h.qu.belowB a e f⟩
theorem Au.lev{Lv':Int}(h:Au w g gb gq c M q Lv L lo)(a:BK w' gb M (1000*By q 1 256) Lv')(ht:Tu (fun j=>j=gb) w w'):Au w' g gb gq c M q Lv' L lo:=
 ⟨h.blk.tu ht h.ne.1.1,a,h.qu.tu ht (fun e=>h.ne.2.1.1 e.symm) (fun e=>h.ne.2.1.2 e.symm)⟩
theorem Au.que{a:Nat}{L':List ByteArray}(h:Au w g gb gq c M q Lv L lo)(b:AK w' gq c (capN q) L' a)(ht:Tu (quF gq c) w w'):Au w' g gb gq c M q Lv L' a:=
 ⟨h.blk.tu ht (fun e=>e.elim h.ne.1.2.1 h.ne.1.2.2),h.bt.tu ht (fun e=>e.elim h.ne.2.1.1 h.ne.2.1.2),b⟩
theorem Rb(ht:Tu (fun j=>j=gb) w w'):Tu (lkF g gb gq c) w w':=ht.wide fun j e=>.inr (.inl e)
theorem Nh(ht:Tu (quF gq c) w w'):Tu (lkF g gb gq c) w w':=ht.wide fun j e=>.inr (.inr e)
theorem Pq{w1 w2:World}(h:Tu (lkF g gb gq c) w w1)(k:Tu (lkF g gb gq c) w1 w2):Tu (lkF g gb gq c) w w2:=h.trans k fun _ _ e=>e
theorem iu(g:Nat)(M q:Int)(u v:Value)(w:World)(h:BkA 199 w g [.int .i64 M,.int .i64 q,u,v])(f:0<=M/\M<=1000000):
  Calls Tryz.prog 102 #[.pointer (some ⟨g,0,none⟩)] w fun e w'=>e=.returned (.tuple #[])/\∃gb,w.heap.size<=gb/\BkA 199 w' g [.int .i64 M,.int .i64 q,.pointer (some ⟨gb,0,none⟩),v]/\BK w' gb M (1000*By q 1 256) (1000*By q 1 256)/\Tu (fun j=>j=g) w w':=by
 have p:=h.at 0 rfl;have r:=h.at 1 rfl;have i:∀wx,Below w.heap.size w wx->Calls Tryz.prog 140 #[.int .i64 M,.int .i64 q] wx fun e w'=> ∃gb,e=.returned (.pointer (some ⟨gb,0,none⟩))/\Hid (w.heap.size<=gb/\BkA 199 w' g [.int .i64 M,.int .i64 q,u,v]/\BK w' gb M (1000*By q 1 256) (1000*By q 1 256)/\Below w.heap.size w w'):=by
  intro wx b;refine(rc M q wx).mono ?_;rw[cI f.1 f.2];rintro e w' ⟨gb,o,m,n,d⟩;exact⟨gb,o,Ab ⟨Nat.le_trans b.size m,h.below (Ad b d),n,Ad b d⟩⟩
 have l:=Ab (i _ (Below.refl w.heap.size w).drew);clear i;have H:=Ab h;clear h;go_enter Tryz.func102,Tryz.ntmps102;go_wp2_with fail
 go_region_law (first
  |(go_simp;go_at_call 140;refine(Aa l).mono ?_;rintro e w1 ⟨gb,rfl,a⟩;have x:=(Aa a).2.1.frz 2;have y:=(Aa a).2.1.at 2 rfl))
 all_goals go_wp2
 all_goals go_end0
 all_goals refine⟨rfl,gb,(Aa a).1,(Aa a).2.1.set 2 _,(Aa a).2.2.1.tu (Be _ _ _ _) (fun e=>?_),Tu.after (Aa a).2.2.2 (Be _ _ _ _)⟩
 all_goals exact(Aa a).2.1.neB (Aa a).2.2.1.blk (by decide) e.symm
theorem lO(b:Nat)(z:b<18446744073709551616)(q:Int)(w:World):
  Calls Tryz.prog 72 #[.float .f64 b,.int .i64 q] w fun e w'=> ∃g gb gq c,e=.returned (.pointer (some ⟨g,0,none⟩))/\(w.heap.size<=g/\w.heap.size<=gb/\w.heap.size<=gq/\w.heap.size<=c)/\Au w' g gb gq c (milZ b:Nat) q (1000*By q 1 256) [] 0/\Below w.heap.size w w':=by
 have y:0<=((milZ b:Nat):Int)/\((milZ b:Nat):Int)<=1000000:=by have:=Zl b;omega
 have v:=Ab (lc b z w);generalize ((milZ b:Nat):Int)=M at*;go_enter Tryz.func72,Tryz.ntmps72
 go_wp2_with (first
  |(go_at_call 100;refine(Aa v).mono ?_;rintro e w1 ⟨rfl,o⟩;obtain rfl:=o.symm;clear o)
  |(go_at_call 101;refine(mK q _).mono ?_;rintro e w1 ⟨gq,c,rfl,j,i,a,d⟩;have x:=Ab (And.intro a (And.intro d (And.intro j i)));clear j i a d)
  |(go_at_call 102;refine(iu _ M q (.pointer none) (.pointer (some ⟨gq,0,none⟩)) _ (AN 199 w1 [.int .i64 M,.int .i64 q,.pointer none,.pointer (some ⟨gq,0,none⟩)]) y).mono ?_;rintro e w3 ⟨rfl,gb,n,l,h,f⟩;have u:=Ab (And.intro n (And.intro l (And.intro h f)));clear n l h f)
  |fail)
 go_ret;obtain⟨a,d,j,i⟩:=Aa x;obtain⟨n,l,h,f⟩:=Aa u;have r:w.heap.size<=w1.heap.size:=d.size;have m:=Ax w1 (.cells #[.int .i64 M,.int .i64 q,.pointer none,.pointer (some ⟨gq,0,none⟩)] 199);have p:=a.below m;refine⟨w1.heap.size,gb,gq,c,rfl,⟨r,?_,j,i⟩,⟨l,h,p.tu f (fun e=>?_) (fun e=>?_)⟩,GX (Ad d m) f r⟩
 ·have:=m.size;omega
 ·have:=a.lt.1;omega
 ·have:=a.lt.2;omega
variable {w w':World}
structure PKV where
 o:Int
 l:Int
 k:Int
 z:Int
 h:Int
 r:RV
def PKV.dflt:PKV:=⟨0,0,0,0,0,.dflt⟩
def PKV.val(p:PKV):Value:=.agg #[.int .i64 p.o,.int .i64 p.l,.int .i64 p.k,.int .i64 p.z,.int .i64 p.h,.slice p.r.a p.r.n p.r.c,.string p.r.s]
def AY(w:World)(b off:Nat)(p:PKV):Prop:=
 w.cell? ⟨b,off,none⟩=some (.int .i64 p.o)/\w.cell? ⟨b,off+1,none⟩=some (.int .i64 p.l)/\w.cell? ⟨b,off+2,none⟩=some (.int .i64 p.k)/\w.cell? ⟨b,off+3,none⟩=some (.int .i64 p.z)/\w.cell? ⟨b,off+4,none⟩=some (.int .i64 p.h)/\
  w.cell? ⟨b,off+5,none⟩=some (.slice p.r.a p.r.n p.r.c)/\w.cell? ⟨b,off+6,none⟩=some (.string p.r.s)
theorem AY.belowB{b off B:Nat}{p:PKV}(h:AY w b off p)(d:Below B w w')(a:b<B):AY w' b off p:=
 ⟨(d.cell (p:=⟨b,off,none⟩) a).trans h.1,(d.cell (p:=⟨b,off+1,none⟩) a).trans h.2.1,(d.cell (p:=⟨b,off+2,none⟩) a).trans h.2.2.1,(d.cell (p:=⟨b,off+3,none⟩) a).trans h.2.2.2.1,(d.cell (p:=⟨b,off+4,none⟩) a).trans h.2.2.2.2.1,(d.cell (p:=⟨b,off+5,none⟩) a).trans h.2.2.2.2.2.1,(d.cell (p:=⟨b,off+6,none⟩) a).trans h.2.2.2.2.2.2⟩
theorem AY.below{b off:Nat}{p:PKV}(h:AY w b off p)(a:Below w.heap.size w w'):AY w' b off p:=h.belowB a (World.block_lt_of_cell? w _ h.1)
def PksAt(w:World)(a:Option Addr)(n:Nat)(ps:List PKV):Prop:=
 ps.length=n/\(∀i,i<n->RowAt w (ps.getD i .dflt).r.a (ps.getD i .dflt).r.n (ps.getD i .dflt).r.xs)/\(n=0\/∃b off,a=some ⟨b,off,none⟩/\∀i,i<n->AY w b (off+i*7) (ps.getD i .dflt))
theorem PksAt.at{a:Option Addr}{n:Nat}{ps:List PKV}(h:PksAt w a n ps){i:Nat}(e:i<n):∃b off,a=some ⟨b,off,none⟩/\∀i,i<n->AY w b (off+i*7) (ps.getD i .dflt):=by
 rcases h.2.2 with d|d
 ·omega
 ·exact d
theorem PksAt.below{a:Option Addr}{n:Nat}{ps:List PKV}(h:PksAt w a n ps)(e:Below w.heap.size w w'):PksAt w' a n ps:=by
 refine⟨h.1,fun i d=>(h.2.1 i d).below e,?_⟩;rcases h.2.2 with f|⟨b,off,rfl,j⟩
 ·exact .inl f
 ·exact .inr ⟨b,off,rfl,fun i d=>(j i d).below e⟩
def Qt(ps:List PKV):Prop:=∀i,(ps.getD i .dflt).r.n<=10/\(ps.getD i .dflt).r.s.size<=1000
structure Bp where
 kd:Int
 fr:Int
 ic:Int
 p:PKV
def Bp.dflt:Bp:=⟨0,0,0,.dflt⟩
def Bp.val(f:Bp):Value:=.agg #[.int .i64 f.kd,.int .i64 f.fr,.int .i64 f.ic,.int .i64 f.p.o,.int .i64 f.p.l,.int .i64 f.p.k,.int .i64 f.p.z,.int .i64 f.p.h,.slice f.p.r.a f.p.r.n f.p.r.c,.string f.p.r.s]
variable {s:ByteArray}{k:Int}{xs:List Nat}
def num(xs:List Nat):Nat:=xs.foldl (fun a b=>a*256+b) 0
theorem pZ(xs:List Nat)(b:Nat):num (xs++[b])=num xs*256+b:=by simp[num]
theorem ll(xs:List Nat):∀a,xs.foldl (fun a b=>a*256+b) a=a*256^xs.length+num xs:=by
 unfold num
 induction xs with
 |nil=>intro a;simp
 |cons x r d=>
  intro a;simp only[List.foldl_cons,List.length_cons];rw[d (a*256+x),d (0*256+x),Nat.pow_succ,Nat.add_mul];simp only[Nat.zero_mul,Nat.zero_add];rw[Nat.mul_assoc a 256,Nat.mul_comm 256,Nat.add_assoc]
theorem Pu(x:Nat)(r:List Nat):num (x::r)=x*256^r.length+num r:=by
 have:=ll r (0*256+x);simp only[Nat.zero_mul,Nat.zero_add]at this;simpa [num]using this
theorem QO(h:bytes xs):num xs<256^xs.length:=by
 induction xs with
 |nil=>simp[num]
 |cons x r b=>
  have d:x<256:=h x (List.mem_cons_self ..);have e:=b (fun y a=>h y (List.mem_cons_of_mem _ a));rw[Pu,List.length_cons,Nat.pow_succ];have f:x*256^r.length<=255*256^r.length:=Nat.mul_le_mul_right _ (by omega);omega
theorem I3(h:bytes xs){k:Nat}(a:xs.length<=k):num xs<256^k:=Nat.lt_of_lt_of_le (QO h) (Nat.pow_le_pow_right (by decide) a)
def be:Nat->Nat->List Nat
 |0,_=>[]
 |W+1,n=>(n/256^W%256)::be W n
theorem C4:∀(W n:Nat),(be W n).length=W
 |0,_=>rfl
 |W+1,n=>by rw[be,List.length_cons,C4 W n]
theorem Pc:∀(W n:Nat),bytes (be W n)
 |0,_=>Jx
 |W+1,n=>by
  intro x a;rw[be]at a;rcases List.mem_cons.1 a with rfl|a
  ·exact Nat.mod_lt _ (by decide)
  ·exact Pc W n x a
theorem WD:∀(W n k:Nat),k<W->(be W n).take (k+1)=(be W n).take k++[n/256^(W-1-k)%256]
 |0,_,_,h=>by omega
 |W+1,n,0,_=>by simp[be]
 |W+1,n,k+1,h=>by
  have:=WD W n k (by omega);rw[be,List.take_succ_cons,List.take_succ_cons,this,show W+1-1-(k+1)=W-1-k by omega];rfl
theorem Lh:∀(W n:Nat),num (be W n)=n%256^W
 |0,n=>by simp[be,num,Nat.mod_one]
 |W+1,n=>by
  rw[be,Pu,C4,Lh W n,Nat.mod_pow_succ,Nat.mul_comm,Nat.add_comm]
theorem Q3:∀(W m n:Nat),m%256^W=n%256^W->be W m=be W n
 |0,_,_,_=>rfl
 |W+1,m,n,h=>by
  rw[Nat.mod_pow_succ,Nat.mod_pow_succ]at h;have hp:0<256^W:=Nat.pow_pos (by decide);have d:=Nat.mod_lt m hp;have e:=Nat.mod_lt n hp;have a:m%256^W=n%256^W:=by
   have:=congrArg (· %256^W) h;simpa [Nat.add_mul_mod_self_left,Nat.mod_eq_of_lt d,Nat.mod_eq_of_lt e]using this
  have b:m/256^W%256=n/256^W%256:=by
   rw[a]at h;exact Nat.eq_of_mul_eq_mul_left hp (by omega)
  rw[be,be,b,Q3 W m n a]
def CQ(v:List Nat):List Nat:=v.flatMap (be 8)
theorem UX(x:Nat)(r:List Nat):CQ (x::r)=be 8 x++CQ r:=by simp[CQ]
theorem Jy:∀v:List Nat,(CQ v).length=8*v.length
 |[]=>rfl
 |x::r=>by rw[UX,List.length_append,C4,Jy r,List.length_cons];omega
theorem Ts(v:List Nat):bytes (CQ v):=by
 intro x a;obtain⟨y,_,b⟩:=List.mem_flatMap.1 a;exact Pc 8 y x b
theorem VW{v:List Nat}{k:Nat}(a:k<v.length):v.take (k+1)=v.take k++[v.getD k 0]:=by
 rw[List.take_add_one,List.getElem?_eq_getElem a,List.getD_eq_getElem?_getD,List.getElem?_eq_getElem a];rfl
theorem pC(W:Nat){v:List Nat}{k:Nat}(a:k<v.length):(v.take (k+1)).flatMap (be W)=(v.take k).flatMap (be W)++be W (v.getD k 0):=by
 rw[VW a,List.flatMap_append];simp
theorem St(W:Nat):∀v:List Nat,(v.flatMap (be W)).length=v.length*W
 |[]=>by simp
 |x::r=>by rw[List.flatMap_cons,List.length_append,C4,St W r,List.length_cons,Nat.add_mul];omega
theorem Gh{a:List Nat}(b:bytes xs)(d:bytes a):bytes (xs++a):=by
 intro x h;rcases List.mem_append.1 h with h|h
 ·exact b x h
 ·exact d x h
def Cl(xs:List Nat)(n:Nat):List Nat:=(List.range n).map fun i=>num ((xs.drop (8*i)).take 8)
theorem LZ(xs:List Nat)(n:Nat):(Cl xs n).length=n:=by simp[Cl]
theorem V9(xs:List Nat)(n:Nat):Cl xs (n+1)=Cl xs n++[num ((xs.drop (8*n)).take 8)]:=by simp[Cl,List.range_succ]
theorem XP(b:xs.length=8)(a:List Nat)(n:Nat):Cl (xs++a) (n+1)=num xs::Cl a n:=by
 unfold Cl;rw[List.range_succ_eq_map,List.map_cons,List.map_map];congr 1
 ·rw[Nat.mul_zero,List.drop_zero,<-b,List.take_left]
 ·apply List.map_congr_left
  intro i _;show num ((List.drop (8*(i+1)) (xs++a)).take 8)=_;rw[show 8*(i+1)=xs.length+8*i by omega,List.drop_append,List.drop_eq_nil_of_le (by omega),List.nil_append,show xs.length+8*i-xs.length=8*i by omega]
theorem Xq:∀(v a:List Nat),Ac v->Cl (CQ v++a) v.length=v
 |[],_,_=>rfl
 |x::r,a,h=>by
  have b:x<18446744073709551616:=h x (List.mem_cons_self ..);rw[UX,List.append_assoc,List.length_cons,XP (C4 8 x),Lh,Xq r a (fun y d=>h y (List.mem_cons_of_mem _ d)),Nat.mod_eq_of_lt b]
theorem rt(x b:Nat)(d:x<72057594037927936)(a:b<256):bits .or .u64 ((x:Int)*256) (b:Int)=((x*256+b:Nat):Int):=by
 rw[show(x:Int)*256=((256*x:Nat):Int) by omega,u64_or_nat (256*x) b (by omega) (by omega)];congr 1;have:=Nat.two_pow_add_eq_or_of_lt (i:=8) (show b<2^8 by omega) x;rw[show(256:Nat)=2^8 from rfl,<-this];omega
def EL(k:Int):Prop:=k=1\/k=2\/k=4
theorem TU(h:EL k):∃W:Nat,k=(W:Int)/\(W=1\/W=2\/W=4):=by
 rcases h with rfl|rfl|rfl
 ·exact⟨1,rfl,.inl rfl⟩
 ·exact⟨2,rfl,.inr (.inl rfl)⟩
 ·exact⟨4,rfl,.inr (.inr rfl)⟩
theorem Zv(h:¬EL k):(k==1)=false/\(k==2)=false/\(k==4)=false:=by
 unfold EL at h;simp only[beq_eq_false_iff_ne,ne_eq];omega
theorem ON(k:Int)(h:EL k)(w:World):Calls Tryz.prog 171 #[.int .i64 k] w fun e w'=>e=.returned (.bool true)/\w'=w:=by
 rcases h with rfl|rfl|rfl
 all_goals
  go_enter Tryz.func171,Tryz.ntmps171;go_wp2;go_ret;exact⟨rfl,rfl⟩
theorem Vl(k:Int)(h:¬EL k)(w:World):Calls Tryz.prog 171 #[.int .i64 k] w fun e w'=>e=.returned (.bool false)/\w'=w:=by
 obtain⟨a,b,d⟩:=Zv h;clear h;go_enter Tryz.func171,Tryz.ntmps171;go_wp2;go_ret;exact⟨rfl,rfl⟩
theorem pa{k:Nat}(a:k<xs.length):num (xs.take (k+1))=num (xs.take k)*256+xs.getD k 0:=by rw[VW a,pZ]
theorem fU(h:bytes xs)(k:Nat):num (xs.take k)<256^k:=I3 (Gd h k) (List.length_take_le ..)
theorem S7(s:ByteArray)(y:s.size<=8)(w:World):
  Calls Tryz.prog 207 #[.string s] w fun e w'=>e=.returned (.int .u64 ((num (tx s):Nat):Int))/\w'=w:=by
 have o:=AU s;have d:=Ck s;go_enter Tryz.func207,Tryz.ntmps207;go_wp2;go_loop [3,7] (fun t i=> ∃k x:Nat,k<=s.size/\i=.int .i64 k/\t=.int .u64 (x:Int)/\Hid (x=num ((tx s).take k))) (fun _ i=>s.size-(intOf i).toNat)
 case atStart=>exact⟨0,0,Nat.zero_le _,rfl,rfl,Ab (by simp[num])⟩
 case round=>
  obtain⟨k,x,v,rfl,rfl,a⟩:=hrel;by_cases j:k<s.size
  ·have m:=Lk s k j
   have f:=d.get k;have p:=fU d k;have l:x<72057594037927936:=by
    rw[Aa a];exact Nat.lt_of_lt_of_le p (Nat.pow_le_pow_right (n:=256) (by decide) (show k<=7 by omega))
   have u:=Ab (pa (xs:=tx s) (k:=k) (by omega));have r:=Ab (rt x _ l f);generalize (tx s).getD k 0=b at*;clear p o d;go_wp2;go_round
   case rel=>exact⟨k+1,x*256+b,by omega,by go_num,by rw[Aa r],Ab (by rw[Aa u,Aa a])⟩
   case measure=>simp[intOf];omega
  ·have h:k=s.size:=by omega
   subst h;rw[<-o,List.take_length]at a;go_wp2;go_ret;exact⟨CC (by rw[Aa a]),rfl⟩
def gN(s:ByteArray)(k:Int):Nat:=if (k=1\/k=2\/k=4)/\k<=(s.size:Int)then num ((tx s).take k.toNat)else 0
def gE(s:ByteArray)(k:Int):Nat:=if¬(k=1\/k=2\/k=4)then 1 else if (s.size:Int)<k then 2 else 0
theorem cU(h:¬EL k):gN s k=0/\gE s k=1:=by
 unfold gN gE;exact⟨if_neg fun a=>h a.1,if_pos h⟩
theorem Yq(h:EL k)(b:(s.size:Int)<k):gN s k=0/\gE s k=2:=by
 unfold gN gE;exact⟨if_neg fun a=>by omega,by rw[if_neg (fun a=>a h),if_pos b]⟩
theorem Np(h:EL k)(a:k<=(s.size:Int)):gN s k=num ((tx s).take k.toNat)/\gE s k=0:=by
 unfold gN gE;exact⟨if_pos ⟨h,a⟩,by rw[if_neg (fun b=>b h),if_neg (by omega)]⟩
theorem cY{k f:IntKind}{a d b e:Int}(h:a=d)(i:b=e):Ending.returned (.tuple #[.int k a,.int f b])=.returned (.tuple #[.int k d,.int f e]):=by rw[h,i]
theorem Sd(s:ByteArray)(k:Int)(w:World):
  Calls Tryz.prog 173 #[.string s,.int .i64 k] w fun e w'=>e=.returned (.tuple #[.int .i64 ((gN s k:Nat):Int),.int .i64 ((gE s k:Nat):Int)])/\w'=w:=by
 by_cases h:EL k
 ·by_cases l:(s.size:Int)<k
  ·obtain⟨a,b⟩:=Yq h l
   rw[a,b];have d:=Ab (fun wx=>ON k h wx);clear h a b;go_enter Tryz.func173,Tryz.ntmps173;go_wp2_with (go_at_call 171;refine(Aa d _).mono ?_;rintro e w' ⟨rfl,rfl⟩);go_ret2;exact⟨rfl,rfl⟩
  ·obtain⟨a,b⟩:=Np (s:=s) h (by omega)
   rw[a,b];have d:=Ab (fun wx=>ON k h wx);obtain⟨W,rfl,hW⟩:=TU h;have f:(s.extract 0 W).size=W:=by rw[ByteArray.size_extract];omega
   have i:=Ab (fun wx=>S7 (s.extract 0 W) (by omega) wx);have j:=Ab (show num (tx (s.extract 0 W))=num ((tx s).take W) by rw[Ex];rfl);have m:num (tx (s.extract 0 W))<256^4:=I3 (Ck _) (by rw[AU];omega);generalize num (tx (s.extract 0 W))=x at*;clear h a b f hW;go_enter Tryz.func173,Tryz.ntmps173;go_wp2_with (first|(go_at_call 171;refine(Aa d _).mono ?_;rintro e w' ⟨rfl,rfl⟩)|(go_at_call 207;refine(Aa i _).mono ?_;rintro e w' ⟨rfl,rfl⟩));go_ret2;rw[Int.toNat_natCast];exact⟨cY (by rw[<-Aa j]) rfl,rfl⟩
 ·obtain⟨a,b⟩:=cU (s:=s) h
  rw[a,b];have d:=Ab (fun wx=>Vl k h wx);clear h a b;go_enter Tryz.func173,Tryz.ntmps173;go_wp2_with (go_at_call 171;refine(Aa d _).mono ?_;rintro e w' ⟨rfl,rfl⟩);go_ret2;exact⟨rfl,rfl⟩
def IS:Ren:=⟨fun|165=>204|166=>219|170=>220|105=>189|99=>224|206=>265|212=>223|263=>263|264=>264|167=>205|169=>206|240=>251|241=>252|276=>276|277=>277|n=>n,fun|0=>0|3=>3|4=>4|5=>5|9=>9|20=>20|37=>165|70=>296|72=>298|75=>300|80=>136|46=>305|51=>112|53=>265|76=>313|109=>316|146=>357|148=>359|127=>176|164=>371|n=>n,fun|n=>n⟩
theorem pH:Lays.n167 Tryz.prog IS:={
 mixed:=by kernel_rfl
 f167:=Tryz.func205.trans (congrArg some (by kernel_rfl))
 f240:=Tryz.func251.trans (congrArg some (by kernel_rfl))
 f276:=Tryz.func276.trans (congrArg some (by kernel_rfl))
 t0:=Tryz.underlying0
 a0:=Tryz.isAgg0
 z0:=Tryz.sizeOf0
 v0:=Tryz.zeroValue0
 t4:=Tryz.underlying4
 a4:=Tryz.isAgg4
 z4:=Tryz.sizeOf4
 v4:=Tryz.zeroValue4
 t5:=Tryz.underlying5
 a5:=Tryz.isAgg5
 z5:=Tryz.sizeOf5
 v5:=Tryz.zeroValue5
 t9:=Tryz.underlying9
 a9:=Tryz.isAgg9
 z9:=Tryz.sizeOf9
 v9:=Tryz.zeroValue9
 t20:=Tryz.underlying20
 a20:=Tryz.isAgg20
 z20:=Tryz.sizeOf20
 v20:=Tryz.zeroValue20
 t37:=Tryz.underlying165
 a37:=Tryz.isAgg165
 z37:=Tryz.sizeOf165
 v37:=Tryz.zeroValue165
 t70:=Tryz.underlying296
 a70:=Tryz.isAgg296
 z70:=Tryz.sizeOf296
 v70:=Tryz.zeroValue296
 t72:=Tryz.underlying298
 a72:=Tryz.isAgg298
 z72:=Tryz.sizeOf298
 v72:=Tryz.zeroValue298
 t75:=Tryz.underlying300
 a75:=Tryz.isAgg300
 z75:=Tryz.sizeOf300
 v75:=Tryz.zeroValue300
 t164:=Tryz.underlying371
 a164:=Tryz.isAgg371
 z164:=Tryz.sizeOf371
 v164:=Tryz.zeroValue371}
theorem pF:Lays.n165 Tryz.prog IS:={
 mixed:=by kernel_rfl
 f165:=Tryz.func204.trans (congrArg some (by kernel_rfl))
 f240:=Tryz.func251.trans (congrArg some (by kernel_rfl))
 f241:=Tryz.func252.trans (congrArg some (by kernel_rfl))
 f276:=Tryz.func276.trans (congrArg some (by kernel_rfl))
 f277:=Tryz.func277.trans (congrArg some (by kernel_rfl))
 t0:=Tryz.underlying0
 a0:=Tryz.isAgg0
 z0:=Tryz.sizeOf0
 v0:=Tryz.zeroValue0
 t3:=Tryz.underlying3
 a3:=Tryz.isAgg3
 z3:=Tryz.sizeOf3
 v3:=Tryz.zeroValue3
 t4:=Tryz.underlying4
 a4:=Tryz.isAgg4
 z4:=Tryz.sizeOf4
 v4:=Tryz.zeroValue4
 t9:=Tryz.underlying9
 a9:=Tryz.isAgg9
 z9:=Tryz.sizeOf9
 v9:=Tryz.zeroValue9
 t20:=Tryz.underlying20
 a20:=Tryz.isAgg20
 z20:=Tryz.sizeOf20
 v20:=Tryz.zeroValue20
 t37:=Tryz.underlying165
 a37:=Tryz.isAgg165
 z37:=Tryz.sizeOf165
 v37:=Tryz.zeroValue165
 t70:=Tryz.underlying296
 a70:=Tryz.isAgg296
 z70:=Tryz.sizeOf296
 v70:=Tryz.zeroValue296
 t72:=Tryz.underlying298
 a72:=Tryz.isAgg298
 z72:=Tryz.sizeOf298
 v72:=Tryz.zeroValue298
 t164:=Tryz.underlying371
 a164:=Tryz.isAgg371
 z164:=Tryz.sizeOf371
 v164:=Tryz.zeroValue371}
theorem pI:Lays.n169 Tryz.prog IS:={
 mixed:=by kernel_rfl
 f169:=Tryz.func206.trans (congrArg some (by kernel_rfl))
 t0:=Tryz.underlying0
 a0:=Tryz.isAgg0
 z0:=Tryz.sizeOf0
 v0:=Tryz.zeroValue0
 t3:=Tryz.underlying3
 a3:=Tryz.isAgg3
 z3:=Tryz.sizeOf3
 v3:=Tryz.zeroValue3
 t9:=Tryz.underlying9
 a9:=Tryz.isAgg9
 z9:=Tryz.sizeOf9
 v9:=Tryz.zeroValue9
 t37:=Tryz.underlying165
 a37:=Tryz.isAgg165
 z37:=Tryz.sizeOf165
 v37:=Tryz.zeroValue165
 t70:=Tryz.underlying296
 a70:=Tryz.isAgg296
 z70:=Tryz.sizeOf296
 v70:=Tryz.zeroValue296
 t72:=Tryz.underlying298
 a72:=Tryz.isAgg298
 z72:=Tryz.sizeOf298
 v72:=Tryz.zeroValue298
 t127:=Tryz.underlying176
 a127:=Tryz.isAgg176
 z127:=Tryz.sizeOf176
 v127:=Tryz.zeroValue176}
theorem pG:Lays.n166 Tryz.prog IS:={
 mixed:=by kernel_rfl
 f166:=Tryz.func219.trans (congrArg some (by kernel_rfl))
 f240:=Tryz.func251.trans (congrArg some (by kernel_rfl))
 f276:=Tryz.func276.trans (congrArg some (by kernel_rfl))
 t0:=Tryz.underlying0
 a0:=Tryz.isAgg0
 z0:=Tryz.sizeOf0
 v0:=Tryz.zeroValue0
 t3:=Tryz.underlying3
 a3:=Tryz.isAgg3
 z3:=Tryz.sizeOf3
 v3:=Tryz.zeroValue3
 t4:=Tryz.underlying4
 a4:=Tryz.isAgg4
 z4:=Tryz.sizeOf4
 v4:=Tryz.zeroValue4
 t9:=Tryz.underlying9
 a9:=Tryz.isAgg9
 z9:=Tryz.sizeOf9
 v9:=Tryz.zeroValue9
 t20:=Tryz.underlying20
 a20:=Tryz.isAgg20
 z20:=Tryz.sizeOf20
 v20:=Tryz.zeroValue20
 t37:=Tryz.underlying165
 a37:=Tryz.isAgg165
 z37:=Tryz.sizeOf165
 v37:=Tryz.zeroValue165
 t70:=Tryz.underlying296
 a70:=Tryz.isAgg296
 z70:=Tryz.sizeOf296
 v70:=Tryz.zeroValue296
 t72:=Tryz.underlying298
 a72:=Tryz.isAgg298
 z72:=Tryz.sizeOf298
 v72:=Tryz.zeroValue298
 t75:=Tryz.underlying300
 a75:=Tryz.isAgg300
 z75:=Tryz.sizeOf300
 v75:=Tryz.zeroValue300
 t164:=Tryz.underlying371
 a164:=Tryz.isAgg371
 z164:=Tryz.sizeOf371
 v164:=Tryz.zeroValue371}
theorem pJ:Lays.n170 Tryz.prog IS:={
 mixed:=by kernel_rfl
 f170:=Tryz.func220.trans (congrArg some (by kernel_rfl))
 t0:=Tryz.underlying0
 a0:=Tryz.isAgg0
 z0:=Tryz.sizeOf0
 v0:=Tryz.zeroValue0
 t3:=Tryz.underlying3
 a3:=Tryz.isAgg3
 z3:=Tryz.sizeOf3
 v3:=Tryz.zeroValue3
 t37:=Tryz.underlying165
 a37:=Tryz.isAgg165
 z37:=Tryz.sizeOf165
 v37:=Tryz.zeroValue165
 t70:=Tryz.underlying296
 a70:=Tryz.isAgg296
 z70:=Tryz.sizeOf296
 v70:=Tryz.zeroValue296
 t72:=Tryz.underlying298
 a72:=Tryz.isAgg298
 z72:=Tryz.sizeOf298
 v72:=Tryz.zeroValue298}
theorem pE:Lays.n105 Tryz.prog IS:={
 mixed:=by kernel_rfl
 f99:=Tryz.func224.trans (congrArg some (by kernel_rfl))
 f105:=Tryz.func189.trans (congrArg some (by kernel_rfl))
 f165:=Tryz.func204.trans (congrArg some (by kernel_rfl))
 f166:=Tryz.func219.trans (congrArg some (by kernel_rfl))
 f169:=Tryz.func206.trans (congrArg some (by kernel_rfl))
 f170:=Tryz.func220.trans (congrArg some (by kernel_rfl))
 f206:=Tryz.func265.trans (congrArg some (by kernel_rfl))
 f212:=Tryz.func223.trans (congrArg some (by kernel_rfl))
 f240:=Tryz.func251.trans (congrArg some (by kernel_rfl))
 f241:=Tryz.func252.trans (congrArg some (by kernel_rfl))
 f263:=Tryz.func263.trans (congrArg some (by kernel_rfl))
 f264:=Tryz.func264.trans (congrArg some (by kernel_rfl))
 f276:=Tryz.func276.trans (congrArg some (by kernel_rfl))
 f277:=Tryz.func277.trans (congrArg some (by kernel_rfl))
 t0:=Tryz.underlying0
 a0:=Tryz.isAgg0
 z0:=Tryz.sizeOf0
 v0:=Tryz.zeroValue0
 t3:=Tryz.underlying3
 a3:=Tryz.isAgg3
 z3:=Tryz.sizeOf3
 v3:=Tryz.zeroValue3
 t4:=Tryz.underlying4
 a4:=Tryz.isAgg4
 z4:=Tryz.sizeOf4
 v4:=Tryz.zeroValue4
 t5:=Tryz.underlying5
 a5:=Tryz.isAgg5
 z5:=Tryz.sizeOf5
 v5:=Tryz.zeroValue5
 t9:=Tryz.underlying9
 a9:=Tryz.isAgg9
 z9:=Tryz.sizeOf9
 v9:=Tryz.zeroValue9
 t20:=Tryz.underlying20
 a20:=Tryz.isAgg20
 z20:=Tryz.sizeOf20
 v20:=Tryz.zeroValue20
 t37:=Tryz.underlying165
 a37:=Tryz.isAgg165
 z37:=Tryz.sizeOf165
 v37:=Tryz.zeroValue165
 t46:=Tryz.underlying305
 a46:=Tryz.isAgg305
 z46:=Tryz.sizeOf305
 v46:=Tryz.zeroValue305
 t51:=Tryz.underlying112
 a51:=Tryz.isAgg112
 z51:=Tryz.sizeOf112
 v51:=Tryz.zeroValue112
 t53:=Tryz.underlying265
 a53:=Tryz.isAgg265
 z53:=Tryz.sizeOf265
 v53:=Tryz.zeroValue265
 t70:=Tryz.underlying296
 a70:=Tryz.isAgg296
 z70:=Tryz.sizeOf296
 v70:=Tryz.zeroValue296
 t72:=Tryz.underlying298
 a72:=Tryz.isAgg298
 z72:=Tryz.sizeOf298
 v72:=Tryz.zeroValue298
 t75:=Tryz.underlying300
 a75:=Tryz.isAgg300
 z75:=Tryz.sizeOf300
 v75:=Tryz.zeroValue300
 t76:=Tryz.underlying313
 a76:=Tryz.isAgg313
 z76:=Tryz.sizeOf313
 v76:=Tryz.zeroValue313
 t109:=Tryz.underlying316
 a109:=Tryz.isAgg316
 z109:=Tryz.sizeOf316
 v109:=Tryz.zeroValue316
 t127:=Tryz.underlying176
 a127:=Tryz.isAgg176
 z127:=Tryz.sizeOf176
 v127:=Tryz.zeroValue176
 t146:=Tryz.underlying357
 a146:=Tryz.isAgg357
 z146:=Tryz.sizeOf357
 v146:=Tryz.zeroValue357
 t148:=Tryz.underlying359
 a148:=Tryz.isAgg359
 z148:=Tryz.sizeOf359
 v148:=Tryz.zeroValue359
 t164:=Tryz.underlying371
 a164:=Tryz.isAgg371
 z164:=Tryz.sizeOf371
 v164:=Tryz.zeroValue371}
theorem Lb:Builder.Extra Tryz.prog IS:={
 sizeBuilder:=by kernel_rfl
 liesBuilder:=by kernel_rfl
 t5:=Tryz.underlying5
 a5:=Tryz.isAgg5
 z5:=Tryz.sizeOf5
 v5:=Tryz.zeroValue5
 infoByte:=by kernel_rfl
 cellsByte:=by kernel_rfl
 sizeByte:=by kernel_rfl
 neB5:=by decide}
def DM(xs:List Nat):List Value:=xs.map fun(x:Nat)=>Value.int .u8 (x:Int)
theorem NJ(xs:List Nat):(DM xs).length=xs.length:=by simp[DM]
theorem eX(xs:List Nat)(x:Nat):DM xs++[.int .u8 (x:Int)]=DM (xs++[x]):=by simp[DM]
theorem dV{xs:List Nat}(h:bytes xs):Lib.byteCells (xs.map UInt8.ofNat)=DM xs:=by
 unfold Lib.byteCells DM;rw[List.map_map];apply List.map_congr_left;intro x a;have:=h x a;simp[Nat.mod_eq_of_lt this]
def GF(w:World)(B b:Nat)(xs:List Nat):Prop:=bytes xs/\Lib.IsBuilder 298 5 B b (DM xs) w
theorem Tv(B b n:Nat)(w:World)(f:B<=b)(d:w.heap[b]? =some (.cells #[.pointer none,.slice none 0 0] 298 (0,0)))(a:B<=w.heap.size)(i:n<=1073741824):
  Calls Tryz.prog 204 #[.pointer (some ⟨b,0,none⟩),.int .i64 n] w fun e w'=>e=.returned (.tuple #[])/\GF w' B b []/\Below B w w':=
 (Any.Builder_Grow_fresh pF Lb B b n w f d a (by omega)).mono fun e w' h=>⟨h.1,⟨Jx,.inr h.2.1⟩,h.2.2⟩
theorem jg(B b:Nat)(xs:List Nat)(x:Nat)(w:World)(h:GF w B b xs)(d:x<256)(i:xs.length<=1073741824)(a:B<=w.heap.size):
  Calls Tryz.prog 205 #[.pointer (some ⟨b,0,none⟩),.int .u8 (x:Int)] w fun e w'=>e=.returned .nilIface/\GF w' B b (xs++[x])/\Below B w w':=
 (Any.Builder_WriteByte pH Lb B b (DM xs) (x:Int) w h.2 (by rw[NJ];omega) a).mono fun e w' k=>
  ⟨k.1,⟨Gh h.1 (fun y f=>by rw[List.mem_singleton.1 f];exact d),.inr (by have:=k.2.1;rw[eX]at this;exact this)⟩,k.2.2⟩
theorem VA(B b:Nat)(xs:List Nat)(w:World)(h:GF w B b xs)(a:B<=w.heap.size):
  Calls Tryz.prog 206 #[.pointer (some ⟨b,0,none⟩)] w fun e w'=>e=.returned (.string (st xs))/\Below B w w':=
 (Any.Builder_String_any pI Lb B b (xs.map UInt8.ofNat) w (by rw[dV h.1];exact h.2) a)
theorem ey(s:ByteArray):Lib.strCells s=DM (tx s):=by
 unfold Lib.strCells DM tx;rw[List.map_map];rfl
theorem dT(xs a:List Nat):DM xs++DM a=DM (xs++a):=by simp[DM]
theorem ko(B b:Nat)(xs:List Nat)(s:ByteArray)(w:World)(h:GF w B b xs)(d:xs.length+s.size<=1073741824)(a:B<=w.heap.size):
  Calls Tryz.prog 219 #[.pointer (some ⟨b,0,none⟩),.string s] w fun e w'=>e=.returned (.tuple #[.int .i64 s.size,.nilIface])/\GF w' B b (xs++tx s)/\Below B w w':=
 (Any.Builder_WriteString pG Lb B b (DM xs) s w h.2 (by rw[NJ];omega) a).mono fun e w' k=>
  ⟨k.1,⟨Gh h.1 (Ck s),.inr (by have:=k.2.1;rw[ey,dT]at this;exact this)⟩,k.2.2⟩
theorem pK(B b:Nat)(xs:List Nat)(w:World)(h:GF w B b xs):
  Calls Tryz.prog 220 #[.pointer (some ⟨b,0,none⟩)] w fun e w'=>e=.returned (.int .i64 xs.length)/\w'=w:=
 (Any.Builder_Len pJ B b (DM xs) w h.2).mono fun e w' k=>by rw[NJ]at k;exact k
theorem dv(c:Nat):(⟨(Lib.repeatL [0] c).toArray⟩:ByteArray)=st (List.replicate c 0):=by
 have h:=Lib.repeatL_replicate 0 1 c;rw[Nat.mul_one]at h;rw[show([0]:List UInt8)=List.replicate 1 0 from rfl,h];unfold st;rw[List.map_replicate];rfl
theorem ed(c:Nat)(w:World)(a:c<=1048576):
  Calls Tryz.prog 189 #[.string ⟨#[0]⟩,.int .i64 c] w fun e w'=>e=.returned (.string (st (List.replicate c 0)))/\Below w.heap.size w w':=
 (Any.strings_Repeat pE Lb ⟨#[0]⟩ c w (by omega) (by show 1*c<=_;omega)).mono fun e w' k=>by
  rw[<-dv];exact k
end Go.Proofs.YtfpmnekaockodaaGreatDoor
