/- Laws for the proof. -/
import Derived.Test.YtfpmnekaockodaaGreatDoorU24
namespace Go.Proofs.YtfpmnekaockodaaGreatDoor
open Go.RowKit Go.Sort
set_option linter.all false
set_option maxRecDepth 4000
set_option maxHeartbeats 8000000
variable {t i k:Int}{rs:List (List Nat)}{bs:List ByteArray}{xs:List Nat}{ps:List PKV}{ts:List RV}{g gb B m j s N P R:Nat}{v:Value}{w w':World}
def XB(gb:Nat)(t i:Int):List Value:=[.iface 200 (.pointer (some ⟨gb,0,none⟩)),.int .i64 t,.int .i64 i]
def EP(g gb:Nat)(v:Value)(k:Nat):Prop:=k=g\/CG gb v k
structure Aq(w:World)(g gb B m:Nat)(t i:Int)(v:Value)(ps:List PKV):Prop where
 blk:BkA 169 w g (XB gb t i)
 lo:B<=g
 buf:Ay w gb B m v ps
theorem Aq.below(h:Aq w g gb B m t i v ps)(a:Below w.heap.size w w'):Aq w' g gb B m t i v ps:=⟨h.blk.below a,h.lo,h.buf.below a⟩
theorem Aq.mono{B':Nat}(h:Aq w g gb B m t i v ps)(a:B'<=B):Aq w g gb B' m t i v ps:=⟨h.blk,Nat.le_trans a h.lo,h.buf.mono a⟩
theorem Aq.lt(h:Aq w g gb B m t i v ps):g<w.heap.size:=h.blk.lt
theorem Aq.lob(h:Aq w g gb B m t i v ps):B<=w.heap.size:=h.buf.lob
theorem Aq.cells(h:Aq w g gb B m t i v ps):w.cell? ⟨g,0,none⟩=some (.iface 200 (.pointer (some ⟨gb,0,none⟩)))/\w.cell? ⟨g,1,none⟩=some (.int .i64 t)/\w.cell? ⟨g,2,none⟩=some (.int .i64 i):=
 ⟨h.blk.at 0 rfl,h.blk.at 1 rfl,h.blk.at 2 rfl⟩
theorem Aq.out(h:Aq w g gb B m t i v ps):¬CG gb v g:=fun a=>by
 rcases a with e|e
 ·exact h.blk.ne h.buf.blk (by decide) e
 ·exact h.blk.neP h.buf.own (by decide) e
theorem Aq.low(h:Aq w g gb B m t i v ps):∀j,j<B->¬EP g gb v j:=fun j b a=>by
 rcases a with rfl|a
 ·have:=h.lo;omega
 ·exact h.buf.low j b a
theorem Aq.words(h:Aq w g gb B m t i v ps):∀j a,w.heap[j]? =some (.cells a 265 (0,0))->¬EP g gb v j:=fun j a c b=>by
 rcases b with rfl|b
 ·exact h.blk.ne c (by decide) rfl
 ·exact h.buf.words j a c b
theorem Aq.keeps(h:Aq w g gb B m t i v ps)(ht:Tu (EP g gb v) w w'):Below B w w':=ht.below h.lob h.low
theorem Aq.step{w0:World}(h:Aq w g gb B m t i v ps)(a:Below B w0 w)(ht:Tu (EP g gb v) w w'):Below B w0 w':=a.trans (h.keeps ht)
theorem Aq.tu{F:Nat->Prop}(h:Aq w g gb B m t i v ps)(ht:Tu F w w')(b:∀j,EP g gb v j->¬F j)(d:∀j a,w.heap[j]? =some (.cells a 265 (0,0))->¬F j):Aq w' g gb B m t i v ps:=
 ⟨h.blk.tu ht (b g (.inl rfl)),h.lo,h.buf.tu ht (fun j c=>b j (.inr c)) d⟩
theorem XC(h:Tu (CG gb v) w w'):Tu (EP g gb v) w w':=(Tu.refl (EP g gb v) w).trans h fun _ _ e=>.inr e
theorem Aq.bufs{v':Value}{a:List PKV}(h:Aq w g gb B m t i v ps)(b:Ay w' gb B m v' a)(ht:Tu (CG gb v) w w'):Aq w' g gb B m t i v' a:=
 ⟨h.blk.tu ht h.out,h.lo,b⟩
theorem Aq.inc(h:Aq w g gb B m t i v ps)(a:Int):Aq (w.setCell ⟨g,2,none⟩ (.int .i64 a)) g gb B m t a v ps/\Tu (fun j=>j=g) w (w.setCell ⟨g,2,none⟩ (.int .i64 a)):=by
 have b:=Be w g 2 (.int .i64 a);exact⟨⟨h.blk.set 2 _,h.lo,h.buf.tu b (fun j f e=>h.out (e▸f)) (fun j c d e=>h.blk.ne d (by decide) e.symm)⟩,b⟩
theorem ZP(t:Int)(h:Ay w gb B m v ps):Aq (w.alloc (.cells #[.iface 200 (.pointer (some ⟨gb,0,none⟩)),.int .i64 t,.int .i64 0] 169)) w.heap.size gb B m t 0 v ps:=
 ⟨AN 169 w (XB gb t 0),h.lob,h.below ((Below.refl _ _).alloc (Nat.le_refl _) _)⟩
theorem Aq.apart{T:TypeId}{b:Nat}{u0 u1:Value}(h:Aq w g gb B m t i v ps)(a:AW T w b u0 u1)(d:T≠169)(f:T≠237)(l:T≠75):¬EP g gb v b:=fun o=>by
 rcases o with e|e|e
 ·exact h.blk.ne a (Ne.symm d) e.symm
 ·exact h.buf.blk.ne a (Ne.symm f) e.symm
 ·obtain⟨c,n⟩:=h.buf.own.blk e
  unfold AW at a;rw[n]at a;simp only[Option.some.injEq,Obj.cells.injEq]at a;exact l a.2.1.symm
theorem Aq.drawn{T:TypeId}{b:Nat}{u0 u1:Value}(h:Aq w g gb B m t i v ps)(a:AW T w b u0 u1)(d:T≠169)(f:T≠237)(l:T≠75)(n:T≠265)(p:w.grownBy w' (some b)):Aq w' g gb B m t i v ps:=
 h.tu (Tu.of_gb (F:=fun j=>j=b) p fun j _ e=>(Option.some.inj e).symm) (fun j q e=>h.apart a d f l (e▸q)) fun j c o e=>by
  subst e;unfold AW at a;rw[o]at a;simp only[Option.some.injEq,Obj.cells.injEq]at a;exact n a.2.1.symm
theorem Run.le{rs:List RV}(e:Dm rs){j:Nat}{kn:List Nat}{bs:List ByteArray}(h:Run k rs j kn bs):j<=k.toNat:=by
 cases j with
 |zero=>exact Nat.zero_le _
 |succ j=>
  have c:=h;obtain⟨a,b,r,f,d,_⟩:=h;have ht:=List.find?_some d;unfold Cv at ht;rw[Bool.and_eq_true]at ht;exact(Run.known (Gg ht.1).1 e c).le
theorem qn{kn:List Nat}(h:ts.map core=toldTo k kn bs k.toNat):ts.length<=k.toNat:=by
 have:=congrArg List.length h;rw[List.length_map]at this;have:=SS k kn bs k.toNat;omega
theorem Iu{kn:List Nat}(d:Kn k j kn bs){x:List Nat×ByteArray}(c:x∈toldTo k kn bs k.toNat):∃b:Nat,b<k.toNat/\Ai kn b=true/\x=(unitL k (b:Int),bs.getD b ByteArray.empty):=by
 unfold toldTo at c;rw[List.mem_map]at c;obtain⟨b,a,rfl⟩:=c;rw[List.mem_filter,List.mem_range]at a;exact⟨b,a.1,a.2,rfl⟩
theorem ju{kn:List Nat}(a:Kn k j kn bs)(p:Ae w ts)(h:ts.map core=toldTo k kn bs k.toNat):Af ts:=fun i=>by
 by_cases c:i<ts.length
 ·have o:core (ts.getD i .dflt)∈toldTo k kn bs k.toNat:=by
   rw[<-h,List.getD_eq_getElem?_getD,List.getElem?_eq_getElem c];exact List.mem_map.2 ⟨_,List.getElem_mem c,rfl⟩
  obtain⟨b,q,_,e⟩:=Iu a o;have d:=D8 a.size;have n:=(p.get c).1.1;have f:(ts.getD i .dflt).xs=unitL k (b:Int):=congrArg Prod.fst e;have l:(ts.getD i .dflt).s=bs.getD b ByteArray.empty:=congrArg Prod.snd e;have:=JN (k:=k) (b:=b) (by omega);have:=D6 k;refine⟨by rw[<-n,f];omega,by rw[l];exact a.short b⟩
 ·rw[List.getD_eq_getElem?_getD,List.getElem?_eq_none (by omega)]
  exact⟨Nat.zero_le _,Nat.zero_le _⟩
theorem AM.kn{rs:List RV}{kn:List Nat}(h:AM k rs kn bs)(a:Dm rs)(c:0<sizeOfK k):∃j,Kn k j kn bs:=by
 obtain⟨⟨j,b⟩,_⟩:=h;exact⟨j,Run.known c a b⟩
theorem DJ.short{rs:List RV}{u:Option Addr}{H c1:Nat}{b:List RV}{y:Option Addr}{I c2:Nat}{a:List RV}(h:DJ w w' k rs u H c1 b y I c2 a)(p:Dm rs)(Q:Af rs)(z:∀r∈rs,r.xs.length<=10):Af b/\Af a/\b.length<=128/\a.length<=rs.length:=by
 obtain⟨kn,bs,o,o1,D,c,o2,E,d,O⟩:=h;have e:a.length<=rs.length:=by
  have:=congrArg List.length d;unfold restL at this;rw[List.length_map,List.length_map]at this;have:=List.length_filter_le (FU k kn) rs;omega
 by_cases C:sizeOfK k=0
 ·obtain⟨J,K,L⟩:=I0 (rs:=rs) C
  obtain⟨rfl,rfl⟩:=o.uniq J;rw[K]at c;rw[L]at d;rw[List.map_eq_nil_iff]at c d;subst c d;exact⟨L6,L6,by simp,e⟩
 ·obtain⟨j,f⟩:=o.kn p (by omega)
  have l:=D8 f.size;refine⟨ju f D c,Tl E d fun x n=>?_,by have:=qn c;omega,e⟩;unfold restL at n;rw[List.mem_map]at n;obtain⟨r,A,rfl⟩:=n;have q:=(List.mem_filter.1 A).1;exact⟨by rw[Ju];exact z r q,UN f.short (p r q).2⟩
theorem QH{a:Option Addr}{n:Nat}{rs:List RV}(h:Aj w a n rs)(f:Af rs):∀r∈rs,r.xs.length<=10:=fun r e=>by
 obtain⟨i,d,rfl⟩:=List.mem_iff_getElem.1 e;have b:=h.2.1 i (by rw[<-h.1];exact d);have c:=f i;rw[List.getD_eq_getElem?_getD,List.getElem?_eq_getElem d]at b c;simp only[Option.getD_some]at b c;rw[b.1];exact c.1
def F5(x:Nat)(kn:List Nat):Nat->Nat
 |0=>x
 |n+1=>if (Ai kn n&&(F5 x kn n).testBit n)=true then F5 x kn n^^^2^n else F5 x kn n
theorem WU(x:Nat)(kn:List Nat):∀n i,(F5 x kn n).testBit i=(x.testBit i&& !(Ai kn i&&decide (i<n)))
 |0,i=>by simp[F5]
 |n+1,i=>by
  have b:=WU x kn n;unfold F5;by_cases e:i=n
  ·subst e
   split
   ·rename_i h
    rw[Bool.and_eq_true]at h;rw[Nat.testBit_xor,Nat.testBit_two_pow,h.2,h.1];simp
   ·rename_i h
    rw[b];rw[b]at h;cases d:Ai kn i<;>cases f:x.testBit i<;>simp_all
  ·have a:(i<n+1)=(i<n):=propext (by omega)
   split
   ·have c:decide (n=i)=false:=decide_eq_false (fun h=>e h.symm)
    rw[Nat.testBit_xor,Nat.testBit_two_pow,b,c,Bool.xor_false];simp only[a]
   ·rw[b]
    simp only[a]
theorem Q7{S:List Nat}{kn:List Nat}(h:∀b,Ai kn b=true->Ech.Sp S (2^b))(x:Nat):∀n,Ech.Sp S (F5 x kn n)↔Ech.Sp S x
 |0=>Iff.rfl
 |n+1=>by
  rw[<-Q7 h x n,show F5 x kn (n+1)=(if (Ai kn n&&(F5 x kn n).testBit n)=true then F5 x kn n^^^2^n else F5 x kn n) from rfl];split
  ·rename_i d
   rw[Bool.and_eq_true]at d;have c:=h n d.1;constructor
   ·intro a
    have:=a.xor c;rwa[Nat.xor_assoc,Nat.xor_self,Nat.xor_zero]at this
   ·intro a
    exact a.xor c
  ·exact Iff.rfl
theorem XI{kn:List Nat}(a:Ac xs):val (dropL xs kn)=F5 (val xs) kn (64*xs.length):=by
 apply Nat.eq_of_testBit_eq;intro i;rw[CX (Hj a _),Hf,WU,CX a];by_cases b:i<64*xs.length
 ·simp[b]
 ·rw[E1 xs i (by omega)];simp
theorem PC{S:List Nat}{kn:List Nat}(a:Ac xs)(h:∀b,Ai kn b=true->Ech.Sp S (2^b)):Ech.Sp S (val (dropL xs kn))↔Ech.Sp S (val xs):=by
 rw[XI a,Q7 h]
theorem La{b:Nat}(a:Ac xs)(h:∀i,Ai xs i=decide (i=b)):val xs=2^b:=by
 apply Nat.eq_of_testBit_eq;intro i;rw[CX a,h,Nat.testBit_two_pow];by_cases e:i=b
 ·simp[e]
 ·rw[decide_eq_false e,decide_eq_false (fun h=>e h.symm)]
theorem XJ(a:Ac xs)(h:cnt xs=0):val xs=0:=by
 apply Nat.eq_of_testBit_eq;intro i;rw[CX a,O6.1 h,Nat.zero_testBit]
theorem Run.sp{k:Int}{rs:List RV}(d:Dm rs){S:List Nat}(q:∀r∈rs,AV k r.xs=true->Ech.Sp S (val r.xs)):∀{j:Nat} {kn:List Nat} {bs:List ByteArray},Run k rs j kn bs->∀b,Ai kn b=true->Ech.Sp S (2^b)
 |0,kn,bs,⟨f,l⟩,b,c=>by rw[f,Jw]at c;cases c
 |j+1,kn,bs,⟨o,y,r,f,l,z,H⟩,b,c=>by
  have x:=Run.sp d q f;have h:=List.mem_of_find?_eq_some l;obtain⟨u,a,D,E,A,C⟩:=KL (d r h).1 (List.find?_some l);have p:=Run.known (Gg u).1 d f;have n:=D8 p.size;rw[z,Iw _ _ _ _ (by rw[p.len];omega)]at c;by_cases e:b=blkOf o r
  ·have:=(PC (d r h).1 x).2 (q r h u)
   rw[La (Hj (d r h).1 _) a]at this;rw[e];exact this
  ·rw[if_neg e]at c
   exact x b c
theorem TE{rs:List RV}{kn:List Nat}(q:AM k rs kn bs)(o:Dm rs)(x:Nat):
  Ech.Sp (((toldTo k kn bs k.toNat++restL k rs kn bs).map Prod.fst).map val) x↔Ech.Sp ((vecsL (rs.filter fun r=>AV k r.xs)).map val) x:=by
 by_cases K:sizeOfK k=0
 ·obtain⟨L,O,Q⟩:=I0 (rs:=rs) K
  obtain⟨rfl,rfl⟩:=q.uniq L;have:(rs.filter fun r=>AV k r.xs)=[]:=List.filter_eq_nil_iff.2 fun r _ a=>by have:=(Gg a).1;omega
  rw[O,Q,this];exact Iff.rfl
 ·obtain⟨j,n⟩:=q.kn o (by omega)
  have D:=D8 n.size
  have p:∀r∈rs,AV k r.xs=true->val r.xs∈(vecsL (rs.filter fun r=>AV k r.xs)).map val:=fun r f a=>
   List.mem_map.2 ⟨r.xs,List.mem_map.2 ⟨r,List.mem_filter.2 ⟨f,a⟩,rfl⟩,rfl⟩
  have I:∀b,Ai kn b=true->Ech.Sp ((vecsL (rs.filter fun r=>AV k r.xs)).map val) (2^b):=by
   obtain⟨⟨S,C⟩,_⟩:=q;exact Run.sp o (fun r f a=>.of_mem (p r f a)) C
  have J:∀b,Ai kn b=true->Ech.Sp (((toldTo k kn bs k.toNat++restL k rs kn bs).map Prod.fst).map val) (2^b):=fun b u=>by
   have z:=n.below b u;refine .of_mem (List.mem_map.2 ⟨unitL k (b:Int),List.mem_map.2 ⟨(unitL k (b:Int),bs.getD b ByteArray.empty),List.mem_append.2 (.inl ?_),rfl⟩,La (Fm (by omega)) (I7 n.size (by omega))⟩);unfold toldTo;exact List.mem_map.2 ⟨b,List.mem_filter.2 ⟨List.mem_range.2 z,u⟩,rfl⟩
  constructor
  ·refine fun h=>h.of fun y E=>?_
   obtain⟨v,a,rfl⟩:=List.mem_map.1 E;obtain⟨c,l,rfl⟩:=List.mem_map.1 a;rcases List.mem_append.1 l with l|l
   ·obtain⟨b,u,A,rfl⟩:=Iu n l
    show Ech.Sp _ (val (unitL k (b:Int)));rw[La (Fm (by omega)) (I7 n.size (by omega))];exact I b A
   ·unfold restL at l
    obtain⟨r,f,rfl⟩:=List.mem_map.1 l;have d:=List.mem_filter.1 f;have a:AV k r.xs=true:=by
     have:=d.2;unfold FU at this;rw[Bool.and_eq_true,Bool.and_eq_true]at this;exact this.1.1
    exact(PC (o r d.1).1 I).2 (.of_mem (p r d.1 a))
  ·refine fun h=>h.of fun y E=>?_
   obtain⟨v,a,rfl⟩:=List.mem_map.1 E;obtain⟨r,f,rfl⟩:=List.mem_map.1 a;have d:=List.mem_filter.1 f;refine(PC (o r d.1).1 J).1 ?_;by_cases H:cnt (dropL r.xs kn)=0
   ·rw[XJ (Hj (o r d.1).1 _) H];exact .zero
   ·have e:=List.find?_eq_none.1 q.2 r d.1
    unfold Cv at e;rw[d.2,Bool.true_and,decide_eq_true_eq]at e;refine .of_mem (List.mem_map.2 ⟨dropL r.xs kn,List.mem_map.2 ⟨(dropL r.xs kn,Do bs r.xs r.s),List.mem_append.2 (.inr ?_),rfl⟩,rfl⟩);unfold restL;refine List.mem_map.2 ⟨r,List.mem_filter.2 ⟨d.1,?_⟩,rfl⟩;unfold FU;rw[d.2,decide_eq_false H,decide_eq_false e];rfl
theorem Xd{A V:List (List Nat)}(c:AC 1048576 A)(d:AC 1048576 V)(h:∀x,Ech.Sp (A.map val) x↔Ech.Sp (V.map val) x):(Cj A).length=(Cj V).length:=by
 have a:=Kx c;have b:=Kx d;have e:Ech.basis (A.map val)=Ech.basis (V.map val):=Ech.uniq (Ech.red_basis _) (Ech.red_basis _) fun x=>by rw[Ech.sp_basis,Ech.sp_basis];exact h x
 have:=congrArg List.length (a.trans (e.trans b.symm));rwa[List.length_map,List.length_map]at this
theorem ek{us:List RV}(a:Af ts)(b:Af us):Af (ts++us):=fun i=>by
 by_cases c:i<ts.length
 ·rw[List.getD_eq_getElem?_getD,List.getElem?_append_left c,<-List.getD_eq_getElem?_getD];exact a i
 ·rw[List.getD_eq_getElem?_getD,List.getElem?_append_right (by omega),<-List.getD_eq_getElem?_getD];exact b _
theorem AD.at(h:AD w B v xs)(f:0<xs.length):
  ∃g cap,v=.slice (some ⟨g,0,none⟩) xs.length cap/\B<=g/\g<w.heap.size/\(∀i,i<xs.length->w.cell? ⟨g,i,none⟩=some (.int .i64 ((xs.getD i 0:Nat):Int)))/\∀i,w.frozen? ⟨g,i,none⟩=false:=by
 have a:w.ownsRow B 3 1 v xs.length (D9 xs):=h;rcases h.2 with⟨rfl,n⟩|⟨g,cap,b,rfl,c,d,f,o,l,ht⟩
 ·omega
 ·refine⟨g,cap,rfl,c,(Array.getElem?_eq_some_iff.1 d).1,fun i e=>?_,fun i=>a.frozenAt i⟩
  rw[a.cellAt i (by omega),Sy xs i e]
theorem AD.stored{cap n:Nat}(h:AD w B (.slice (some ⟨g,0,none⟩) n cap) xs)(i x:Nat):
  AD (w.setCell ⟨g,i,none⟩ (.int .i64 (x:Int))) B (.slice (some ⟨g,0,none⟩) n cap) (xs.set i x):=by
 obtain rfl:n=xs.length:=by
  obtain⟨a,c,e,_⟩:=h.ints;simp only[Value.slice.injEq]at e;exact e.2.1
 have b:w.ownsRow B 3 1 (.slice (some ⟨g,0,none⟩) xs.length cap) xs.length (D9 xs):=h;have:=(b.stored i (.int .i64 (x:Int))).1;rw[gX]at this;show World.ownsRow _ B 3 1 _ (xs.set i x).length _;rw[List.length_set];exact this
theorem lT(w:World)(n:Nat)(b:n<=1048576)(xs:List Nat)(a:xs=List.replicate n 0):
  AD (w.alloc (.cells (madeCells #[.int .i64 0] n) 3)) w.heap.size (.slice (some ⟨w.heap.size,0,none⟩) n n) xs:=by
 subst a;refine⟨by simp[D9],.inr ⟨w.heap.size,n,madeCells #[.int .i64 0] n,by simp,Nat.le_refl _,heap_alloc_new w _,by simp,by unfold maxLen;omega,by simp[size_madeCells],?_⟩⟩;rw[toList_madeCells_one,List.take_of_length_le (by simp)];simp[D9]
def Ft(fs:List Nat)(k:Nat):List Nat:=fs.take k++List.replicate (fs.length-k) 0
theorem dx(fs:List Nat):Ft fs 0=List.replicate fs.length 0:=by simp[Ft]
theorem fD(fs:List Nat):Ft fs fs.length=fs:=by simp[Ft]
theorem dI(fs:List Nat)(k:Nat)(a:k<=fs.length):(Ft fs k).length=fs.length:=by simp[Ft];omega
theorem eI(fs:List Nat)(k:Nat)(a:k<fs.length):(Ft fs k).set k (fs.getD k 0)=Ft fs (k+1):=by
 unfold Ft;have b:(fs.take k).length=k:=by simp;omega
 rw[List.set_append_right _ _ (by omega),b,Nat.sub_self,List.take_succ_eq_append_getElem a,List.append_assoc,show fs.length-k=(fs.length-(k+1))+1 by omega,List.replicate_succ,List.set_cons_zero];simp[List.getD_eq_getElem?_getD,List.getElem?_eq_getElem a]
def C3(rs:List (List Nat)):List Nat:=rs.map fun b=>(firstI b).toNat
theorem Iq(rs:List (List Nat)):(C3 rs).length=rs.length:=by simp[C3]
theorem NS(rs:List (List Nat))(i:Nat)(h:i<rs.length):(C3 rs).getD i 0=(firstI (rs.getD i [])).toNat:=by
 simp[C3,List.getD_eq_getElem?_getD,List.getElem?_eq_getElem h]
theorem gK(a:Option Addr)(n c:Nat)(rs:List (List Nat))(w:World)(ht:Tab w)(h:VecsAt w a n rs)(hf:AC 1048576 rs)(hn:n<=100000)(hp:∀i,i<n->0<=firstI (rs.getD i [])):
  Calls Tryz.prog 286 #[.slice a n c] w fun e w'=> ∃v,e=.returned v/\AD w' w.heap.size v (C3 rs)/\Below w.heap.size w w':=by
 obtain rfl:n=rs.length:=h.1.symm;obtain⟨i0,x,z,C,A⟩:=info_parts Vf
 have ab:∀wx:World,(Instr.makeSlice 27 (.int .i64 (rs.length:Int)) (.int .i64 (rs.length:Int))).run Tryz.prog wx=.ok (.slice (some ⟨wx.heap.size,0,none⟩) rs.length rs.length) (wx.alloc (.cells (madeCells #[.int .i64 0] rs.length) 3)):=fun wx=>by
  have:=run_make (P:=Tryz.prog) wx 27 3 i0 (.int .i64 0) Tryz.underlying27 x z .i64 .i64 (rs.length:Int) (rs.length:Int) (by omega) (Int.le_refl _) (by rw[A];omega) (by omega);rw[C]at this;simpa [Value.cells]using this
 have K:=Ab (lT w rs.length (by omega) (Ft (C3 rs) 0) (by rw[dx,Iq]));have q:Hid (Below w.heap.size w (w.alloc (.cells (madeCells #[.int .i64 0] rs.length) 3))):=Ab ((Below.refl _ _).alloc (Nat.le_refl _) _);clear x z C A;go_enter Tryz.func286,Tryz.ntmps286;go_wp2;go_loopw [11] (fun i wr=> ∃k:Nat,k<=rs.length/\i=.int .i64 k/\Hid (AD wr w.heap.size (.slice (some ⟨w.heap.size,0,none⟩) rs.length rs.length) (Ft (C3 rs) k))/\Hid (Below w.heap.size w wr)) (fun i _=>rs.length-(intOf i).toNat)
 case atStart=>exact⟨0,Nat.zero_le _,rfl,K,q⟩
 case round=>
  obtain⟨k,hk,rfl,D,I⟩:=hrel;have E:=Aa I;by_cases d:k<rs.length
  ·obtain⟨b,off,rfl,W⟩:=(h.below E).at d
   obtain⟨Z,ci,Q,o⟩:=W k d;have O:=Aa D;have S:(Ft (C3 rs) k).length=rs.length:=by rw[dI _ _ (by rw[Iq];exact hk),Iq]
   obtain⟨g,cap,V,_,_,r,u⟩:=O.at (by omega);simp only[Value.slice.injEq,Option.some.injEq,Addr.mk.injEq,and_true]at V;obtain⟨rfl, -, -⟩:=V;have H:=r k (by omega);have aa:=u k;obtain⟨f,l⟩:∃f:Nat,firstI (rs.getD k [])=(f:Int):=⟨_,(Int.toNat_of_nonneg (hp k d)).symm⟩;have L:=JE Z _ ci (rs.getD k []) wr (ht.below E) o (hf.getD k).2;rw[l]at L;have X:=Ab L;have T:=O.stored k f;rw[show f=(C3 rs).getD k 0 by rw[NS rs k d,l];rfl,eI _ _ (by rw[Iq];exact d),show(C3 rs).getD k 0=f by rw[NS rs k d,l];rfl]at T;have Y:=Ab T;have J:=Ab (E.setCell (p:=⟨w.heap.size,k,none⟩) (by exact Nat.le_refl _) (.int .i64 (f:Int)));clear W o h O S r u L T l E I D K q hp;generalize rs.getD k []=y at*;go_wp2_with fail;refine(Aa X).mono ?_;rintro e w1 ⟨rfl,hw⟩;obtain rfl:=hw.symm;go_wp2;go_roundw
   case rel=>exact⟨k+1,by omega,by go_num,Y,J⟩
   case measure=>simp[intOf];omega
  ·obtain rfl:k=rs.length:=by omega
   rw[show rs.length=(C3 rs).length from(Iq rs).symm,fD,Iq]at D;clear h K q;go_wp2;go_ret;exact⟨_,rfl,Aa D,Aa I⟩
def G7(a:List Nat)(s N:Nat)(rs:List (List Nat)):Prop:=a.length=N*s/\rs.length=N/\∀i,i<N->(rs.getD i []).length=s/\∀j,j<s->a.getD (i*s+j) 0=(rs.getD i []).getD j 0
theorem ML{i:Nat}(a:i<N)(b:j<s):i*s+j<N*s:=by
 have h:(i+1)*s<=N*s:=Nat.mul_le_mul_right s a;rw[Nat.add_mul,Nat.one_mul]at h;omega
theorem qJ{i b d:Nat}(f:j<s)(e:d<s)(h:i*s+j=b*s+d):i=b/\j=d:=by
 rcases Nat.lt_trichotomy i b with a|a|a
 ·have c:(i+1)*s<=b*s:=Nat.mul_le_mul_right s a
  rw[Nat.add_mul,Nat.one_mul]at c;omega
 ·subst a;exact⟨rfl,by omega⟩
 ·have c:(b+1)*s<=i*s:=Nat.mul_le_mul_right s a
  rw[Nat.add_mul,Nat.one_mul]at c;omega
theorem OJ(rs:List (List Nat))(i j:Nat)(r:List Nat)(a:i<rs.length):(rs.set i r).getD j []=if j=i then r else rs.getD j []:=by
 rw[List.getD_eq_getElem?_getD];by_cases h:j=i
 ·subst h;rw[List.getElem?_set_self a,if_pos rfl];rfl
 ·rw[List.getElem?_set_ne (Ne.symm h),if_neg h,<-List.getD_eq_getElem?_getD]
theorem G7.set{p:List Nat}(h:G7 p s N rs){i q:Nat}(n:i<N)(o:q<s)(y:Nat):G7 (p.set (i*s+q) y) s N (rs.set i ((rs.getD i []).set q y)):=by
 have r:=ML n o;refine⟨by rw[List.length_set];exact h.1,by rw[List.length_set];exact h.2.1,fun d c=>?_⟩;rw[OJ rs i d _ (by rw[h.2.1];exact n)];obtain⟨f,l⟩:=h.2.2 d c;by_cases e:d=i
 ·subst e
  rw[if_pos rfl];refine⟨by rw[List.length_set];exact f,fun j a=>?_⟩;rw[DZ,DZ];by_cases b:j=q
  ·subst b;rw[if_pos ⟨rfl,by rw[h.1];exact r⟩,if_pos ⟨rfl,by omega⟩]
  ·rw[if_neg (fun k=>b (by have:=k.1;omega)),if_neg (fun k=>b k.1)]
   exact l j a
 ·rw[if_neg e]
  refine⟨f,fun j a=>?_⟩;rw[DZ,if_neg (fun k=>e (qJ a o k.1).1)];exact l j a
def AI(w:World)(B P R s N:Nat)(rs:List (List Nat)):Prop:=
 ∃a,G7 a s N rs/\Own w B (.slice (some ⟨P,0,none⟩) a.length a.length) a/\(∀i,i<N->w.cell? ⟨R,i,none⟩=some (.slice (some ⟨P,i*s,none⟩) s s))/\R≠P
theorem AI.below(h:AI w B P R s N rs)(b:Below w.heap.size w w'):AI w' B P R s N rs:=by
 obtain⟨l,d,e,a,f⟩:=h;exact⟨l,d,e.below b,fun i c=>(b.cell (World.block_lt_of_cell? w _ (a i c))).trans (a i c),f⟩
theorem AI.len(h:AI w B P R s N rs):rs.length=N/\∀i,i<N->(rs.getD i []).length=s:=by
 obtain⟨c,a,_⟩:=h;exact⟨a.2.1,fun i b=>(a.2.2 i b).1⟩
theorem AI.row(h:AI w B P R s N rs){i:Nat}(c:i<N):RowAt w (some ⟨P,i*s,none⟩) s (rs.getD i [])/\w.cell? ⟨R,i,none⟩=some (.slice (some ⟨P,i*s,none⟩) s s)/\
  ∀j,j<s->w.frozen? ⟨P,i*s+j,none⟩=false:=by
 obtain⟨A,b,d,p,z⟩:=h;obtain⟨y,n⟩:=b.2.2 i c;refine⟨⟨y,fun x u=>?_,?_⟩,p i c,fun j a=>?_⟩
 ·obtain⟨j,a,rfl⟩:=List.getElem_of_mem u
  have:=n j (by omega);rw[List.getD_eq_getElem?_getD (l:=rs.getD i []),List.getElem?_eq_getElem a,Option.getD_some]at this;rw[<-this];exact d.1.get _
 ·by_cases o:s=0
  ·exact .inl o
  ·refine .inr ⟨P,i*s,rfl,fun j a=>?_⟩
   have f:=ML c a;obtain⟨g,cap,e,_,_,q,_⟩:=d.at (by rw[b.1];omega);simp only[Value.slice.injEq,Option.some.injEq,Addr.mk.injEq,and_true]at e;obtain⟨rfl,_⟩:=e;rw[q _ (by rw[b.1];exact f),n j a]
 ·have f:=ML c a
  obtain⟨g,cap,e,_,_,_,r⟩:=d.at (by rw[b.1];omega);simp only[Value.slice.injEq,Option.some.injEq,Addr.mk.injEq,and_true]at e;obtain⟨rfl,_⟩:=e;exact r _
theorem AI.stored(h:AI w B P R s N rs){i q:Nat}(a:i<N)(l:q<s)(y:Nat)(n:y<18446744073709551616):
  AI (w.setCell ⟨P,i*s+q,none⟩ (.int .u64 (y:Int))) B P R s N (rs.set i ((rs.getD i []).set q y)):=by
 obtain⟨o,c,d,f,b⟩:=h;refine⟨o.set (i*s+q) y,c.set a l y,?_,fun i a=>(BF w P _ _).cell (f i a) (fun e=>b (Option.some.inj e)),b⟩;rw[List.length_set];exact d.stored _ y n
theorem AI.vecs(h:AI w B P R s N rs){k:Nat}(r:k<=N):VecsAt w (some ⟨R,0,none⟩) k (rs.take k):=by
 have d:=h.len;have o:∀i,i<k->(rs.take k).getD i []=rs.getD i []:=fun i a=>by rw[List.getD_eq_getElem?_getD,List.getElem?_take_of_lt a,<-List.getD_eq_getElem?_getD]
 refine⟨by rw[List.length_take,d.1];omega,.inr ⟨R,0,rfl,fun i a=>?_⟩,fun b off i p n q e a c=>?_⟩
 ·obtain⟨f,l,_⟩:=h.row (show i<N by omega)
  rw[o i a,Nat.zero_add,d.2 i (by omega)];exact⟨_,s,l,f⟩
 ·simp only[Option.some.injEq,Addr.mk.injEq,and_true]at e
  obtain⟨rfl,rfl⟩:=e;rw[Nat.zero_add,(h.row (show i<N by omega)).2.1]at c;simp only[Option.some.injEq,Value.slice.injEq]at c;omega
theorem AI.low(h:AI w B P R s N rs):B<=P/\P<w.heap.size:=by
 obtain⟨c,b,a,_⟩:=h;exact a.lt rfl
theorem Y7(x k:Nat)(b:x<18446744073709551616)(a:k<64):bits .or .u64 (x:Int) ((2^k:Nat):Int)=((setW x k true:Nat):Int):=by
 have c:2^k<2^64:=Nat.pow_lt_pow_right (by decide) a;rw[u64_or_nat x _ b (by omega),Xl]
theorem Pi(P off s c i x:Nat)(w:World)(p:i<64*s)(r:s<=1048576)(f:w.cell? ⟨P,off+i/64,none⟩=some (.int .u64 (x:Int)))(o:x<18446744073709551616)(b:w.frozen? ⟨P,off+i/64,none⟩=false):
  Calls Tryz.prog 289 #[.slice (some ⟨P,off,none⟩) s c,.int .i64 (i:Int)] w fun e w'=>e=.returned (.tuple #[])/\w'=w.setCell ⟨P,off+i/64,none⟩ (.int .u64 ((setW x (i%64) true:Nat):Int)):=by
 obtain⟨q,h⟩:∃q,i/64=q:=⟨_,rfl⟩;have l:q<s:=by omega
 have n:IntKind.i64.wrap ((i:Int).tdiv 64)=(q:Int):=by
  rw[Int.tdiv_eq_ediv_of_nonneg (by omega)];simp[IntKind.wrap,IntKind.bits,IntKind.signed];omega
 have a:=Pr (i:Int);have d:=Y7 x (i%64) o (by omega);rw[show((i:Int)%64).toNat=i%64 by omega]at a;rw[h]at f b⊢;generalize setW x (i%64) true=y at*;rw[<-a]at d;clear a;go_enter Tryz.func289,Tryz.ntmps289;go_wp2;go_end0;exact⟨rfl,rfl⟩
end Go.Proofs.YtfpmnekaockodaaGreatDoor
