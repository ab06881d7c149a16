/-
  Laws that the proof stands on.
-/
import Derived.Test.YtmmikiikddokgaaGreatDoorU7
import Derived.Laws.Cover2
namespace Go.Proofs.YtmmikiikddokgaaGreatDoor
open Go.ChangeShapes Go.WideShapes Go.ChangeAt Go.RowKit
set_option linter.unusedVariables false
set_option linter.unusedSimpArgs false
set_option maxRecDepth 4000
theorem Xf : Tryz.prog.globalNamed "bucketline/soliton.plain" = some 1 := by kernel_rfl
theorem Yy:(Tryz.prog.globals[1]?).map (·.type)=some 362:=by kernel_rfl
theorem Xo:Tryz.prog.cellsOf 362=127:=by kernel_rfl
theorem Xm:Tryz.prog.cellsOf 112=1:=by kernel_rfl
def CH:List Int:=[524288,174762,87381,52428,34952,24966,18724,14563,11650,9532,7943,6721,5761,4993,4369,3855,3426,3066,2759,2496,2269,2072,1899,1747,1613,1493,1387,1291,1205,1127,1057,992,934,881,832,787,745,707,672,639,608,580,554,529,506,485,464,445,427,411,395,380,366,353,340,328,317,306,296,286,277,268,260,252,244,237,230,223,217,210,205,199,194,188,183,179,174,170,165,161,157,154,150,146,143,140,136,133,130,128,125,122,119,117,114,112,110,108,105,103,101,99,97,96,94,92,90,89,87,85,84,82,81,79,78,77,75,74,73,72,71,69,68,67,66,65,64]
theorem il:CH.length=127:=by decide+kernel
theorem ik(i:Nat)(a:i<127):CH.getD i 0=((1048576/((i+2)*(i+1)):Nat):Int):=by
 have h:∀j:Fin 127,CH.getD j.val 0=((1048576/((j.val+2)*(j.val+1)):Nat):Int):=by decide+kernel
 exact h ⟨i,a⟩
theorem lE{P:Program}{w:World}{x:String×DataW Unit}{r:List (String×DataW Unit)}(h:laidMet P (x::r) w):laidMet P r w:=by
 obtain⟨ps,⟨g,t,cs,d,p,q,_,_,_,_,e,rfl⟩,c,a⟩:=h;exact⟨q,e,(List.nodup_append.1 c).2.1,fun b off hp=>a b off (List.mem_append_right _ hp)⟩
set_option maxRecDepth 100000 in
theorem ZI {W : World} (h : laidMetH Tryz.prog Rows.netChecksRow.laid W) : Lib.TabIs Tryz.prog W "bucketline/soliton.plain" .u32 CH :=
 Lib.tabIs_of_head (rest:=[]) Xf Yy Tryz.underlying362 Tryz.underlying112 Xm Xo (lE h)
structure Br(w:World):Prop where
 tab:Tab w
 pl:BX w
theorem Br.below{w w':World}(h:Br w)(a:Below w.heap.size w w'):Br w':=⟨h.tab.below a,h.pl.below a⟩
theorem Zi{W:World}(h:laidMetH Tryz.prog Rows.netChecksRow.laid W):Br W:=
 ⟨ZH h,fun i a=>by rw[(ZI h).cell Xf i (by rw[il];exact a),ik i a]⟩
structure Cd(w:World)(f:BU):Prop where
 nds:BW w f.a f.n f.ds
 len:f.n<=9223372036854775807
 obj:f.obj.size<=9223372036854775807
 rate:f.rate<18446744073709551616
 tos:∀i,i<f.n->(f.ds.getD i .dflt).n<=9223372036854775807/\((f.ds.getD i .dflt).a=none->(f.ds.getD i .dflt).n=0/\(f.ds.getD i .dflt).c=0)
end Go.Proofs.YtmmikiikddokgaaGreatDoor
namespace Go.Proofs.YtmmikiikddokgaaGreatDoor
open Go.RowKit
set_option linter.unusedVariables false
set_option linter.unusedSimpArgs false
set_option maxRecDepth 4000
structure Gt where
 kd:Int
 nd:Int
 n:Int
 at_:Int
 by_:Int
 a:Option Addr
 dn:Nat
 dc:Nat
 xs:List Nat
def Gt.dflt:Gt:=⟨0,0,0,0,0,none,0,0,[]⟩
def Gt.cells(e:Gt):List Value:=[.int .i64 e.kd,.int .i64 e.nd,.int .i64 e.n,.int .i64 e.at_,.int .i64 e.by_,.slice e.a e.dn e.dc]
def Gt.val(e:Gt):Value:=.agg #[.int .i64 e.kd,.int .i64 e.nd,.int .i64 e.n,.int .i64 e.at_,.int .i64 e.by_,.slice e.a e.dn e.dc]
end Go.Proofs.YtmmikiikddokgaaGreatDoor
namespace Go.Proofs.YtmmikiikddokgaaGreatDoor
open Go.ChangeShapes Go.WideShapes Go.ChangeAt Go.RowKit
set_option linter.unusedVariables false
set_option linter.unusedSimpArgs false
set_option maxRecDepth 4000
theorem Xn:Tryz.prog.cellsOf 42=6:=by kernel_rfl
theorem oA{W:World}{H:Type}{enc:TypeId×Value->H}{g:Nat}{cs:List Value}{x:DataW H×List MemPlace}(k:cs.length=6)
  (h:DataW.trod enc Tryz.prog W 0 (fun _=>true) true g 42 cs=some x):∃d:Gt,cs=d.cells/\RowAt W d.a d.dn d.xs/\d.dn<=9223372036854775807:=by
 match cs,k with
 |[c0,c1,c2,c3,c4,c5],_=>
  obtain⟨e,n,_,_,_,j,f⟩:=DataW.trod_struct Tryz.underlying42 h;have G:e.length=6:=j;obtain⟨I,m⟩:=JO (l:=e) (i:=0) (by omega);obtain⟨J,o⟩:=JO (l:=e) (i:=1) (by omega);obtain⟨K,p⟩:=JO (l:=e) (i:=2) (by omega);obtain⟨L,q⟩:=JO (l:=e) (i:=3) (by omega);obtain⟨N,r⟩:=JO (l:=e) (i:=4) (by omega);obtain⟨O,s⟩:=JO (l:=e) (i:=5) (by omega);obtain⟨y,rfl⟩:=KR ((f 0 _ rfl).trans m);obtain⟨z,rfl⟩:=KR ((f 1 _ rfl).trans o);obtain⟨C,rfl⟩:=KR ((f 2 _ rfl).trans p);obtain⟨D,rfl⟩:=KR ((f 3 _ rfl).trans q);obtain⟨E,rfl⟩:=KR ((f 4 _ rfl).trans r);obtain⟨a,l,c,xs,rfl,v,u,_⟩:=lb ((f 5 _ rfl).trans s);exact⟨⟨y,z,C,D,E,a,l,c,xs⟩,rfl,v,u⟩
theorem bC{W:World}{H:Type}{enc:TypeId×Value->H}{base:Nat}{v:Value}{d:DataW H}{ps:List MemPlace}(q:Value.okWide Tryz.prog W .any base 42 v)
  (h:DataW.Trod enc Tryz.prog W 0 (fun _=>true) true 42 v d ps):∃f:Gt,v=f.val/\RowAt W f.a f.dn f.xs/\f.dn<=9223372036854775807:=by
 obtain⟨cs,rfl,c⟩:=okWide_struct Tryz.underlying42 q;obtain⟨g,j⟩:=h;obtain⟨cs⟩:=cs
 match cs,c.trans Xn with
 |[c0,c1,c2,c3,c4,c5],_=>
  obtain⟨f,e,m,o⟩:=oA (cs:=[c0,c1,c2,c3,c4,c5]) rfl (by
   obtain⟨u,n,r,s,a3,k,p⟩:=DataW.trod_struct Tryz.underlying42 j;exact j)
  refine⟨f,?_,m,o⟩;have l:[c0,c1,c2,c3,c4,c5]=f.cells:=e;show Value.agg [c0,c1,c2,c3,c4,c5].toArray=f.val;rw[l];rfl
end Go.Proofs.YtmmikiikddokgaaGreatDoor
namespace Go.Proofs.YtmmikiikddokgaaGreatDoor
open Go.RowKit
set_option linter.unusedVariables false
set_option linter.unusedSimpArgs false
set_option maxRecDepth 4000
theorem KT{k e:IntKind}{a b c d:Int}(h:a=c)(f:b=d):Ending.returned (.tuple #[.int k a,.int e b])=.returned (.tuple #[.int k c,.int e d]):=by rw[h,f]
theorem ZV{n z:Nat}(h:0<n%z\/n/z=0):kc n z=n/z+1:=if_pos h
theorem bG{n z:Nat}(h:¬(0<n%z\/n/z=0)):kc n z=n/z:=if_neg h
set_option maxHeartbeats 400000 in
theorem Vl(n z:Int)(w:World)(Q:n<=9223372036854775807):
  Calls Tryz.prog 25 #[.int .i64 n,.int .i64 z] w fun e w'=>e=.returned (.tuple #[.int .i64 (planK n z),.int .i64 (planE n z)])/\w'=w:=by
 by_cases h:n<0\/z<1\/64<z
 ·rw[(UL h).1,(UL h).2]
  by_cases D:n<0
  ·clear h
   go_enter Tryz.func25,Tryz.ntmps25;go_wp2;go_ret2;exact⟨rfl,rfl⟩
  ·by_cases E:z<1
   ·clear h
    go_enter Tryz.func25,Tryz.ntmps25;go_wp2;go_ret2;exact⟨rfl,rfl⟩
   ·have P:64<z:=by omega
    clear h;go_enter Tryz.func25,Tryz.ntmps25;go_wp2;go_ret2;exact⟨rfl,rfl⟩
 ·obtain⟨N,rfl⟩:∃N:Nat,n=(N:Int):=⟨n.toNat,by omega⟩
  obtain⟨Z,rfl⟩:∃Z:Nat,z=(Z:Int):=⟨z.toNat,by omega⟩;have s:1<=Z:=by omega
  have u:Z<=64:=by omega
  have K:(1:Int)<=(Z:Int):=by omega
  have L:(Z:Int)<=64:=by omega
  have H:(0:Int)<=(N:Int):=by omega
  have eq:(N:Int)/(Z:Int)=((N/Z:Nat):Int):=by simp
  have O:(N:Int)%(Z:Int)=((N%Z:Nat):Int):=by simp
  have R:N/Z<=N:=Nat.div_le_self _ _;have I:N/Z+N%Z<=N:=by
   have D:=Nat.div_add_mod N Z;have E:=Nat.le_mul_of_pos_left (N/Z) (show 0<Z by omega);omega
  have g:=Ab (fun h=>ZV (n:=N) (z:=Z) h);have m:=Ab (fun h=>bG (n:=N) (z:=Z) h);have d:=Ab (fun h=>PI (n:=N) s u h);have f:=Ab (fun h=>mG (n:=N) s u h);generalize kc N Z=k at*;obtain⟨y,j⟩:∃y,planE (N:Int) (Z:Int)=y:=⟨_,rfl⟩;obtain⟨C,l⟩:∃C,planK (N:Int) (Z:Int)=C:=⟨_,rfl⟩;rw[j,l];rw[j,l]at d f;clear h j l;generalize N/Z=q at*;generalize N%Z=r at*;by_cases J:0<r
  ·have a:=Aa g (.inl J)
   have o:=Ab a;by_cases p:128<q+1
   ·have G:(128:Int)<(q:Int)+1:=by omega
    have c:=Ab (Aa f (by omega));clear g m d f a;go_enter Tryz.func25,Tryz.ntmps25;go_wp2;go_ret2;exact⟨KT (Aa c).2.symm (Aa c).1.symm,rfl⟩
   ·have c:=Ab (Aa d (by omega))
    clear g m d f a;go_enter Tryz.func25,Tryz.ntmps25;go_wp2;go_ret2;exact⟨KT (by rw[(Aa c).2,Aa o];go_num) (Aa c).1.symm,rfl⟩
  ·by_cases v:q=0
   ·subst v
    have a:=Aa g (.inr rfl);have o:=Ab a;have c:=Ab (Aa d (by omega));clear g m d f a;go_enter Tryz.func25,Tryz.ntmps25;go_wp2;go_ret2;exact⟨KT (by rw[(Aa c).2,Aa o];rfl) (Aa c).1.symm,rfl⟩
   ·have a:=Aa m (by omega)
    have o:=Ab a;by_cases p:128<q
    ·have c:=Ab (Aa f (by omega))
     clear g m d f a;go_enter Tryz.func25,Tryz.ntmps25;go_wp2;go_ret2;exact⟨KT (Aa c).2.symm (Aa c).1.symm,rfl⟩
    ·have c:=Ab (Aa d (by omega))
     clear g m d f a;go_enter Tryz.func25,Tryz.ntmps25;go_wp2;go_ret2;exact⟨KT (by rw[(Aa c).2,Aa o]) (Aa c).1.symm,rfl⟩
end Go.Proofs.YtmmikiikddokgaaGreatDoor
namespace Go.Proofs.YtmmikiikddokgaaGreatDoor
open Go.RowKit
set_option linter.unusedVariables false
set_option linter.unusedSimpArgs false
set_option maxRecDepth 4000
variable {F:Nat->Prop}{w w1 w2 w':World}
structure Tu(F:Nat->Prop)(w w':World):Prop where
 os:w'.os=w.os
 tape:w'.tape=w.tape
 output:w'.output=w.output
 size:w.heap.size<=w'.heap.size
 block:∀k,k<w.heap.size->¬F k->w'.heap[k]? =w.heap[k]?
theorem Tu.refl(F:Nat->Prop)(w:World):Tu F w w:=⟨rfl,rfl,rfl,Nat.le_refl _,fun _ _ _=>rfl⟩
theorem Tu.trans{G:Nat->Prop}(h:Tu F w w1)(k:Tu G w1 w2)(e:∀j,j<w.heap.size->G j->F j):Tu F w w2:=
 ⟨k.os.trans h.os,k.tape.trans h.tape,k.output.trans h.output,Nat.le_trans h.size k.size,fun j a c=>(k.block j (Nat.lt_of_lt_of_le a h.size) fun d=>c (e j a d)).trans (h.block j a c)⟩
theorem Tu.of_below(h:Below w.heap.size w w'):Tu F w w':=⟨h.os,h.tape,h.output,h.size,fun j a _=>h.block j a⟩
theorem Tu.of_gb{r:Option Nat}(h:w.grownBy w' r)(d:∀j,j<w.heap.size->r=some j->F j):Tu F w w':=
 ⟨h.os,h.tape,h.output,h.size,fun j a c=>h.block j a fun e=>c (d j a e.symm)⟩
theorem Tu.below(h:Tu F w w'){B:Nat}(c:B<=w.heap.size)(d:∀j,j<B->¬F j):Below B w w':=
 ⟨h.os,h.tape,h.output,h.size,fun j a=>h.block j (Nat.lt_of_lt_of_le a c) (d j a)⟩
theorem Tu.then(h:Tu F w w1)(k:Below w1.heap.size w1 w2):Tu F w w2:=h.trans (Tu.of_below (F:=F) k) fun _ _ h=>h
theorem Tu.after(h:Below w.heap.size w w1)(k:Tu F w1 w2):Tu F w w2:=(Tu.of_below (F:=F) h).trans k fun _ _ h=>h
theorem Own.blkU{B g:Nat}{v:Value}{xs:List Nat}(h:Own w B v xs)(c:v.ownBlock=some g):∃a,w.heap[g]? =some (.cells a 265 (0,0)):=by
 rcases h.2.2 with⟨rfl,_⟩|⟨g',cap,a,rfl,_,d,_⟩
 ·cases c
 ·simp only[Value.ownBlock,Option.some.injEq]at c
  exact⟨a,c▸d⟩
theorem Own.tu{B:Nat}{v:Value}{xs:List Nat}(h:Own w B v xs)(ht:Tu F w w')(f:∀j,v.ownBlock=some j->¬F j):Own w' B v xs:=by
 refine⟨h.1,h.2.1,?_⟩;rcases h.2.2 with e|⟨g,cap,c,d,k,a,r⟩
 ·exact .inl e
 ·exact .inr ⟨g,cap,c,d,k,(ht.block g (Array.getElem?_eq_some_iff.1 a).1 (f g (by rw[d];rfl))).trans a,r⟩
theorem Gl{q:Nat}(h:Below w.heap.size w w1)(ht:Tu (fun j=>j=q) w1 w2)(c:w.heap.size<=q):Below w.heap.size w w2:=
 h.trans (ht.below h.size fun j a e=>by omega)
end Go.Proofs.YtmmikiikddokgaaGreatDoor
namespace Go.Proofs.YtmmikiikddokgaaGreatDoor.Ech
variable {B A:List Nat}{x i b:Nat}
def JZ:Nat->Nat->Nat
 |0,_=>0
 |f+1,x=>if x%2=1 then 0 else JZ f (x/2)+1
def low(x:Nat):Nat:=JZ x x
theorem Oq:∀f x,x≠0->x<=f->x.testBit (JZ f x)=true/\∀j,j<JZ f x->x.testBit j=false
 |0,x,h,a=>absurd (Nat.le_zero.1 a) h
 |f+1,x,h,a=>by
  unfold JZ;by_cases e:x%2=1
  ·rw[if_pos e]
   exact⟨by rw[Nat.testBit_zero];simpa using e,fun j g=>by omega⟩
  ·rw[if_neg e]
   obtain⟨c,d⟩:=Oq f (x/2) (by omega) (by omega);refine⟨by rw[Nat.testBit_succ];exact c,fun j g=>?_⟩;cases j with
   |zero=>rw[Nat.testBit_zero];simpa using e
   |succ j=>rw[Nat.testBit_succ];exact d j (by omega)
theorem low_bit(h:x≠0):x.testBit (low x)=true:=(Oq x x h (Nat.le_refl _)).1
theorem low_none{j:Nat}(h:x≠0)(a:j<low x):x.testBit j=false:=(Oq x x h (Nat.le_refl _)).2 j a
theorem ne_of_bit(h:x.testBit i=true):x≠0:=by
 rintro rfl;simp at h
theorem low_unique(h:x.testBit i=true)(d:∀j,j<i->x.testBit j=false):low x=i:=by
 have c:=ne_of_bit h;rcases Nat.lt_trichotomy (low x) i with a|a|a
 ·have:=d _ a;rw[low_bit c]at this;cases this
 ·exact a
 ·have:=low_none c a;rw[h]at this;cases this
theorem QC(h:x.testBit i=true):low x<=i:=by
 rcases Nat.lt_or_ge i (low x)with a|a
 ·have:=low_none (ne_of_bit h) a;rw[h]at this;cases this
 ·exact a
theorem SZ(b p q:Nat):(b^^^p)^^^(b^^^q)=p^^^q:=by
 apply Nat.eq_of_testBit_eq;intro i;simp only[Nat.testBit_xor];cases b.testBit i<;>cases p.testBit i<;>cases q.testBit i<;>rfl
theorem VO(b p q:Nat):(b^^^p)^^^q=b^^^(p^^^q):=Nat.xor_assoc b p q
theorem PE(b p q:Nat):p^^^(b^^^q)=b^^^(p^^^q):=by
 apply Nat.eq_of_testBit_eq;intro i;simp only[Nat.testBit_xor];cases b.testBit i<;>cases p.testBit i<;>cases q.testBit i<;>rfl
theorem eq_of_xor{a:Nat}(h:a^^^b=0):a=b:=by
 apply Nat.eq_of_testBit_eq;intro i;have:=congrArg (fun x=>x.testBit i) h;simp only[Nat.testBit_xor,Nat.zero_testBit]at this;revert this;cases a.testBit i<;>cases b.testBit i<;>simp
theorem qm(a b:Nat):(a^^^b)^^^b=a:=by rw[Nat.xor_assoc,Nat.xor_self,Nat.xor_zero]
def red(B:List Nat)(v:Nat):Nat:=B.foldl (fun r b=>if b≠0/\r.testBit (low b)=true then r^^^b else r) v
def BR:List Nat->Nat->Nat
 |[],_=>0
 |b::B,x=>if x.testBit (low b)=true then b^^^BR B x else BR B x
def Red(B:List Nat):Prop:=(∀b∈B,b≠0)/\B.Pairwise fun a b=>low a<low b/\a.testBit (low b)=false
def Sp(B:List Nat)(x:Nat):Prop:=∃l:List Nat,(∀b∈l,b∈B)/\l.foldr (fun b a=>b^^^a) 0=x
theorem Sp.zero:Sp B 0:=⟨[],(fun _ h=>by cases h),rfl⟩
theorem Sp.add(f:b∈B)(h:Sp B x):Sp B (b^^^x):=by
 obtain⟨l,d,rfl⟩:=h;refine⟨b::l,fun c a=>?_,rfl⟩;rcases List.mem_cons.1 a with e|a
 ·rw[e];exact f
 ·exact d c a
theorem Sp.ind{P:Nat->Prop}(d:P 0)(f:∀b x,b∈B->P x->P (b^^^x)){x:Nat}(h:Sp B x):P x:=by
 obtain⟨l,a,rfl⟩:=h
 induction l with
 |nil=>exact d
 |cons b l g=>exact f b _ (a b List.mem_cons_self) (g fun c e=>a c (List.mem_cons_of_mem _ e))
theorem Sp.of_mem(h:b∈B):Sp B b:=by
 have:=Sp.add h Sp.zero;rwa[Nat.xor_zero]at this
theorem Sp.xor{y:Nat}(h:Sp B x)(k:Sp B y):Sp B (x^^^y):=by
 refine Sp.ind (P:=fun x=>Sp B (x^^^y)) (by rw[Nat.zero_xor];exact k) (fun b x a c=>?_) h;rw[VO];exact .add a c
theorem Sp.of(h:∀a∈A,Sp B a)(k:Sp A x):Sp B x:=by
 exact Sp.ind (P:=fun x=>Sp B x) .zero (fun b x c d=>(h _ c).xor d) k
theorem Sp.mono(h:∀a∈A,a∈B)(k:Sp A x):Sp B x:=k.of fun a c=>.of_mem (h a c)
theorem UB(B:List Nat)(x y:Nat):BR B (x^^^y)=BR B x^^^BR B y:=by
 induction B with
 |nil=>simp[BR]
 |cons b B a=>
  simp only[BR,Nat.testBit_xor,a];cases x.testBit (low b)<;>cases y.testBit (low b)
  ·simp
  ·simp[PE]
  ·simp[VO]
  ·simp only[Bool.xor_self,if_true]
   rw[SZ];rfl
theorem L4(h:∀b∈B,x.testBit (low b)=false):BR B x=0:=by
 induction B with
 |nil=>rfl
 |cons b B c=>
  simp only[BR];rw[h b List.mem_cons_self,if_neg (by decide)];exact c fun b a=>h b (List.mem_cons_of_mem _ a)
theorem Nv(h:∀b∈B,b.testBit i=false):(BR B x).testBit i=false:=by
 induction B with
 |nil=>simp[BR]
 |cons b B e=>
  have c:=h b List.mem_cons_self;have a:=e fun b d=>h b (List.mem_cons_of_mem _ d);simp only[BR];split
  ·rw[Nat.testBit_xor,c,a];rfl
  ·exact a
theorem PN(B:List Nat)(x:Nat):Sp B (BR B x):=by
 induction B with
 |nil=>exact .zero
 |cons b B e=>
  have c:Sp (b::B) (BR B x):=e.mono fun a d=>List.mem_cons_of_mem _ d;simp only[BR];split
  ·exact .add List.mem_cons_self c
  ·exact c
theorem Red.tail(h:Red (b::B)):Red B:=⟨fun a c=>h.1 a (List.mem_cons_of_mem _ c),(List.pairwise_cons.1 h.2).2⟩
theorem Red.head(h:Red (b::B)):∀a∈B,low b<low a/\b.testBit (low a)=false:=(List.pairwise_cons.1 h.2).1
theorem Red.low_lt(h:Red (b::B)){j:Nat}(d:j<=low b):∀a∈B,a.testBit j=false:=fun a c=>
 low_none (h.1 a (List.mem_cons_of_mem _ c)) (Nat.lt_of_le_of_lt d (h.head a c).1)
theorem Red.nil:Red []:=⟨(fun _ h=>by cases h),List.Pairwise.nil⟩
theorem Red.two:∀{B:List Nat},Red B->∀{a c:Nat},a∈B->c∈B->a≠c->low a≠low c/\a.testBit (low c)=false
 |[],_,_,_,j,_,_=>by cases j
 |b::B,h,a,c,j,l,f=>by
  rcases List.mem_cons.1 j with k|d
  ·rcases List.mem_cons.1 l with g|e
   ·exact absurd (k.trans g.symm) f
   ·have:=h.head c e
    rw[k];exact⟨by omega,this.2⟩
  ·rcases List.mem_cons.1 l with g|e
   ·have:=h.head a d
    rw[g];exact⟨by omega,h.low_lt (Nat.le_refl _) a d⟩
   ·exact h.tail.two d e f
theorem UA:∀{B:List Nat},Red B->∀{b:Nat},b∈B->BR B b=b
 |[],_,_,f=>by cases f
 |c::B,h,b,f=>by
  simp only[BR];rcases List.mem_cons.1 f with e|d
  ·rw[e,if_pos (low_bit (h.1 c List.mem_cons_self)),L4 (fun a g=>(h.head a g).2),Nat.xor_zero]
  ·rw[h.low_lt (Nat.le_refl _) b d,if_neg (by decide)]
   exact UA h.tail d
theorem Pp(h:Red B){x:Nat}(k:Sp B x):BR B x=x:=by
 refine Sp.ind (P:=fun x=>BR B x=x) (L4 fun b _=>Nat.zero_testBit _) (fun b x a c=>?_) k;rw[UB,UA h a,c]
theorem Uz:∀{B:List Nat},Red B->∀{b:Nat} (x:Nat),b∈B->(BR B x).testBit (low b)=x.testBit (low b)
 |[],_,_,_,d=>by cases d
 |c::B,h,b,x,d=>by
  simp only[BR];rcases List.mem_cons.1 d with e|a
  ·have g:=Nv (x:=x) (h.low_lt (Nat.le_refl (low c)))
   rw[e];split
   ·rename_i f;rw[Nat.testBit_xor,g,low_bit (h.1 c List.mem_cons_self),f];rfl
   ·rename_i f;rw[g];simpa using f
  ·have j:=Uz h.tail x a
   split
   ·rw[Nat.testBit_xor,(h.head b a).2,j];simp
   ·exact j
theorem K6:∀{B:List Nat},Red B->∀v,red B v=v^^^BR B v
 |[],_,v=>by simp[red,BR]
 |c::B,h,v=>by
  show red B _=_;rw[K6 h.tail];simp only[BR];by_cases d:v.testBit (low c)=true
  ·rw[if_pos ⟨h.1 c List.mem_cons_self,d⟩,if_pos d,UB,L4 (fun a e=>(h.head a e).2),Nat.xor_zero,Nat.xor_assoc]
  ·rw[if_neg (fun k=>d k.2),if_neg d]
theorem PL(h:Red B)(v:Nat){b:Nat}(a:b∈B):(red B v).testBit (low b)=false:=by
 rw[K6 h,Nat.testBit_xor,Uz h v a];cases v.testBit (low b)<;>rfl
theorem red_zero(h:Red B)(v:Nat):red B v=0↔Sp B v:=by
 rw[K6 h];constructor
 ·intro k
  rw[eq_of_xor k];exact PN B v
 ·intro k
  rw[Pp h k,Nat.xor_self]
def upd(r b:Nat):Nat:=if b.testBit (low r)=true then b^^^r else b
def put(r:Nat):List Nat->List Nat
 |[]=>[r]
 |b::B=>if low r<low b then r::b::B else b::put r B
def ins(B:List Nat)(v:Nat):List Nat:=if red B v=0 then B else put (red B v) (B.map (upd (red B v)))
theorem I2{r x:Nat}:∀{B:List Nat},x∈put r B↔x=r\/x∈B
 |[]=>by simp[put]
 |b::B=>by
  simp only[put];split
  ·simp
  ·rw[List.mem_cons,I2,List.mem_cons]
   constructor
   ·rintro(h|h|h)
    ·exact .inr (.inl h)
    ·exact .inl h
    ·exact .inr (.inr h)
   ·rintro(h|h|h)
    ·exact .inr (.inl h)
    ·exact .inl h
    ·exact .inr (.inr h)
theorem SD(r:Nat):∀B:List Nat,(put r B).length=B.length+1
 |[]=>rfl
 |b::B=>by
  simp only[put];split
  ·rfl
  ·simp[SD r B]
theorem TM{r:Nat}:∀{C:List Nat},(C.Pairwise fun a b=>low a<low b/\a.testBit (low b)=false)->(∀c∈C,low c≠low r/\c.testBit (low r)=false/\r.testBit (low c)=false)->
  (put r C).Pairwise fun a b=>low a<low b/\a.testBit (low b)=false
 |[],_,_=>by simp[put]
 |c::C,h,k=>by
  obtain⟨j,l⟩:=List.pairwise_cons.1 h;simp only[put];split
  ·rename_i g
   refine List.pairwise_cons.2 ⟨fun a f=>?_,h⟩;refine⟨?_,(k a f).2.2⟩;rcases List.mem_cons.1 f with e|d
   ·rw[e];exact g
   ·have:=(j a d).1;omega
  ·rename_i g
   have m:=k c List.mem_cons_self;refine List.pairwise_cons.2 ⟨fun a f=>?_,TM l fun a f=>k a (List.mem_cons_of_mem _ f)⟩;rcases I2.1 f with e|d
   ·rw[e];exact⟨by omega,m.2.1⟩
   ·exact j a d
theorem upd_low(h:Red B){v b:Nat}(g:red B v≠0)(f:b∈B):low (upd (red B v) b)=low b/\upd (red B v) b≠0:=by
 have c:=PL h v f;have a:=h.1 b f;unfold upd;split
 ·rename_i k
  have m:low b<low (red B v):=by
   have n:=QC k;have o:low b≠low (red B v):=by
    intro e;rw[e,low_bit g]at c;cases c
   omega
  have d:(b^^^red B v).testBit (low b)=true:=by rw[Nat.testBit_xor,low_bit a,c];rfl
  exact⟨low_unique d fun j l=>by rw[Nat.testBit_xor,low_none a l,low_none g (by omega)];rfl,ne_of_bit d⟩
 ·exact⟨rfl,a⟩
theorem YQ(h:Red B){v b c:Nat}(a:c∈B):(upd (red B v) b).testBit (low c)=b.testBit (low c):=by
 unfold upd;split
 ·rw[Nat.testBit_xor,PL h v a];simp
 ·rfl
theorem YR{r:Nat}(c:r≠0):(upd r b).testBit (low r)=false:=by
 unfold upd;split
 ·rename_i a;rw[Nat.testBit_xor,a,low_bit c];rfl
 ·rename_i a;simpa using a
theorem Red.ins(h:Red B)(v:Nat):Red (ins B v):=by
 unfold Ech.ins;split
 ·exact h
 ·rename_i f
  refine⟨fun x n=>?_,TM ?_ ?_⟩
  ·rcases I2.1 n with e|k
   ·rw[e];exact f
   ·obtain⟨b,d,rfl⟩:=List.mem_map.1 k
    exact(upd_low h f d).2
  ·rw[List.pairwise_map]
   refine List.Pairwise.imp_of_mem ?_ h.2;intro a b l d g;rw[(upd_low h f l).1,(upd_low h f d).1,YQ h d];exact g
  ·intro c m
   obtain⟨b,d,rfl⟩:=List.mem_map.1 m;have j:=PL h v d;rw[(upd_low h f d).1];refine⟨fun e=>?_,YR f,j⟩;rw[e,low_bit f]at j;cases j
theorem qc(r b:Nat):b=upd r b\/b=r^^^upd r b:=by
 unfold upd;split
 ·right
  rw[PE,Nat.xor_self,Nat.xor_zero]
 ·exact .inl rfl
theorem Qe(h:Red B)(v x:Nat):Sp (ins B v) x↔Sp (v::B) x:=by
 have q:Sp (v::B) (BR B v):=(PN B v).mono fun a d=>List.mem_cons_of_mem _ d;have g:Sp (v::B) (red B v):=by rw[K6 h];exact(Sp.of_mem List.mem_cons_self).xor q
 unfold ins;split
 ·rename_i o
  have l:=(red_zero h v).1 o
  exact⟨fun k=>k.mono fun a d=>List.mem_cons_of_mem _ d,fun k=>k.of fun a d=>by
   rcases List.mem_cons.1 d with e|c
   ·rw[e];exact l
   ·exact .of_mem c⟩
 ·rename_i o
  have n:∀b∈B,Sp (put (red B v) (B.map (upd (red B v)))) b:=fun b j=>by
   have m:Sp (put (red B v) (B.map (upd (red B v)))) (upd (red B v) b):=.of_mem (I2.2 (.inr (List.mem_map.2 ⟨b,j,rfl⟩)));rcases qc (red B v) b with e|e
   ·rw[e];exact m
   ·rw[e];exact(Sp.of_mem (I2.2 (.inl rfl))).xor m
  constructor
  ·intro k
   refine k.of fun a d=>?_;rcases I2.1 d with e|c
   ·rw[e];exact g
   ·obtain⟨b,j,rfl⟩:=List.mem_map.1 c
    have f:Sp (v::B) b:=.of_mem (List.mem_cons_of_mem _ j);unfold upd;split
    ·exact f.xor g
    ·exact f
  ·intro k
   refine k.of fun a d=>?_;rcases List.mem_cons.1 d with e|c
   ·have l:v=red B v^^^BR B v:=by rw[K6 h,qm]
    have p:=(Sp.of_mem (I2.2 (.inl rfl))).xor ((PN B v).of n);rw[<-l]at p;rw[e];exact p
   ·exact n a c
theorem fd(B:List Nat)(v:Nat):(ins B v).length<=B.length+1:=by
 unfold ins;split
 ·omega
 ·rw[SD,List.length_map];exact Nat.le_refl _
def basis(l:List Nat):List Nat:=l.foldl ins []
theorem Oi:∀(l B:List Nat),Red B->Red (l.foldl ins B)/\(∀x,Sp (l.foldl ins B) x↔Sp (B++l) x)/\(l.foldl ins B).length<=B.length+l.length
 |[],B,h=>⟨h,fun x=>by simp,by simp⟩
 |v::l,B,h=>by
  obtain⟨g,j,m⟩:=Oi l (ins B v) (h.ins v);refine⟨g,fun x=>?_,?_⟩
  ·show Sp (l.foldl ins (ins B v)) x↔_
   rw[j];constructor
   ·intro k
    refine k.of fun a d=>?_;rcases List.mem_append.1 d with d|d
    ·refine((Qe h v a).1 (.of_mem d)).mono fun c f=>?_
     rcases List.mem_cons.1 f with e|f
     ·rw[e];simp
     ·simp[f]
    ·exact .of_mem (by simp[d])
   ·intro k
    refine k.of fun a d=>?_;rcases List.mem_append.1 d with d|d
    ·exact((Qe h v a).2 (.of_mem (List.mem_cons_of_mem _ d))).mono fun c f=>List.mem_append_left _ f
    ·rcases List.mem_cons.1 d with e|d
     ·rw[e]
      exact((Qe h v v).2 (.of_mem List.mem_cons_self)).mono fun c f=>List.mem_append_left _ f
     ·exact .of_mem (List.mem_append_right _ d)
  ·show(l.foldl ins (ins B v)).length<=_
   have:=fd B v;simp only[List.length_cons];omega
theorem red_basis(l:List Nat):Red (basis l):=(Oi l [] .nil).1
theorem sp_basis(l:List Nat)(x:Nat):Sp (basis l) x↔Sp l x:=(Oi l [] .nil).2.1 x
theorem U8:∀{A:List Nat},Red A->∀{x:Nat},BR A x≠0->∃a∈A,low (BR A x)=low a
 |[],_,x,h=>by simp[BR]at h
 |c::A,h,x,d=>by
  simp only[BR]at d⊢;split
  ·have g:=h.1 c List.mem_cons_self
   refine⟨c,List.mem_cons_self,low_unique ?_ fun j f=>?_⟩
   ·rw[Nat.testBit_xor,low_bit g,Nv (h.low_lt (Nat.le_refl _))];rfl
   ·rw[Nat.testBit_xor,low_none g f,Nv (h.low_lt (Nat.le_of_lt f))];rfl
  ·rename_i l
   rw[if_neg l]at d;obtain⟨a,k,e⟩:=U8 h.tail d;exact⟨a,List.mem_cons_of_mem _ k,e⟩
theorem QD(h:Red A){x:Nat}(k:Sp A x)(c:x≠0):∃a∈A,low x=low a:=by
 have e:=Pp h k;have:=U8 h (x:=x) (by rw[e];exact c);rwa[e]at this
theorem Wf(f:Red A)(k:Red B)(o:∀x,Sp A x↔Sp B x):∀a∈A,a∈B:=by
 intro a g;obtain⟨b,l,h⟩:=QD k ((o a).1 (.of_mem g)) (f.1 a g);have s:Sp A (a^^^b):=(Sp.of_mem g).xor ((o b).2 (.of_mem l));have p:BR A (a^^^b)=0:=by
  refine L4 fun c m=>?_;rw[Nat.testBit_xor];by_cases e:a=c
  ·subst e
   rw[low_bit (f.1 a g),h,low_bit (k.1 b l)];rfl
  ·obtain⟨d,r,j⟩:=QD k ((o c).1 (.of_mem m)) (f.1 c m)
   have q:=f.two g m e;have n:b≠d:=by
    rintro rfl;exact q.1 (h.trans j.symm)
   rw[q.2,j,(k.two l r n).2];rfl
 rw[Pp f s]at p;rw[eq_of_xor p];exact l
theorem St:∀{A B:List Nat},Red A->Red B->(∀x,x∈A↔x∈B)->A=B
 |[],[],_,_,_=>rfl
 |[],b::B,_,_,h=>by have:=(h b).2 List.mem_cons_self;cases this
 |a::A,[],_,_,h=>by have:=(h a).1 List.mem_cons_self;cases this
 |a::A,b::B,c,d,h=>by
  have e:a=b:=by
   rcases List.mem_cons.1 ((h a).1 List.mem_cons_self)with e|l
   ·exact e
   ·rcases List.mem_cons.1 ((h b).2 List.mem_cons_self)with e|m
    ·exact e.symm
    ·have n:=(d.head a l).1
     have o:=(c.head b m).1;omega
  subst e;have f:a∉A:=fun k=>by have:=(c.head a k).1;omega
  have g:a∉B:=fun k=>by have:=(d.head a k).1;omega
  rw[St c.tail d.tail fun x=>?_];constructor
  ·intro k
   rcases List.mem_cons.1 ((h x).1 (List.mem_cons_of_mem _ k))with e|j
   ·rw[e]at k;exact absurd k f
   ·exact j
  ·intro k
   rcases List.mem_cons.1 ((h x).2 (List.mem_cons_of_mem _ k))with e|j
   ·rw[e]at k;exact absurd k g
   ·exact j
theorem uniq(a:Red A)(c:Red B)(d:∀x,Sp A x↔Sp B x):A=B:=
 St a c fun x=>⟨Wf a c d x,Wf c a (fun y=>(d y).symm) x⟩
end Go.Proofs.YtmmikiikddokgaaGreatDoor.Ech
