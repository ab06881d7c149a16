/- Laws for the proof. -/
import Derived.Test.YtfpmnekaockodaaGreatDoorU24
set_option linter.all false
open Go.Proofs.Tryz
open List renaming getD_eq_getElem?_getD->U,getElem?_eq_getElem->α,length_map->ζ,length_set->η,replicate->ο,length->π
open Option.some renaming injEq->β,inj->υ
open Option renaming none->γ,some->ε,getD_some->ς
open Go.Value.slice renaming injEq->δ
open Go.Value renaming slice->θ
open Bool renaming and_eq_true->ι
open Nat renaming eq_of_testBit_eq->κ,mul_le_mul_right->μ,testBit_two_pow->ν,le_refl->ξ,zero_le->ρ,add_mul->σ,one_mul->τ
namespace Go.Proofs.YtfpmnekaockodaaGreatDoor
open Go.RowKit Go.Sort
set_option maxRecDepth 4000
set_option maxHeartbeats 8000000
variable {t i k:Int}{rs:List (List Nat)}{bs:List ByteArray}{xs:List Nat}{ps:List PKV}{ts:List RV}{g gb B m j s N P R:Nat}{v:Value}{w w':World}
def XA(gb:Nat)(t i:Int):List Value:=[.iface 200 (.pointer (ε ⟨gb,0,γ⟩)),.int .i64 t,.int .i64 i]
def GA(g gb:Nat)(v:Value)(k:Nat):Prop:=k=g\/CO gb v k
structure AA(w:World)(g gb B m:Nat)(t i:Int)(v:Value)(ps:List PKV):Prop where
 blk:BkA 169 w g (XA gb t i)
 lo:B<=g
 buf:Av w gb B m v ps
def AA.below(h:AA w g gb B m t i v ps)(a:Below w.heap.size w w'):AA w' g gb B m t i v ps:=⟨h.blk.below a,h.lo,h.buf.below a⟩
def AA.mono{B':Nat}(h:AA w g gb B m t i v ps)(a:B'<=B):AA w g gb B' m t i v ps:=⟨h.blk,Nat.le_trans a h.lo,h.buf.mono a⟩
def AA.cells(h:AA w g gb B m t i v ps):w.cell? ⟨g,0,γ⟩=ε (.iface 200 (.pointer (ε ⟨gb,0,γ⟩)))/\w.cell? ⟨g,1,γ⟩=ε (.int .i64 t)/\w.cell? ⟨g,2,γ⟩=ε (.int .i64 i):=
 ⟨h.blk.at 0 rfl,h.blk.at 1 rfl,h.blk.at 2 rfl⟩
def AA.out(h:AA w g gb B m t i v ps):¬CO gb v g:=fun a=>by
 rcases a with e|e
 ·exact h.blk.ne h.buf.blk (by decide) e
 ·exact h.blk.neP h.buf.own (by decide) e
def AA.low(h:AA w g gb B m t i v ps):∀j,j<B->¬GA g gb v j:=fun j b a=>by
 rcases a with rfl|a
 ·have:=h.lo;omega
 ·exact h.buf.low j b a
def AA.tu{F:Nat->Prop}(h:AA w g gb B m t i v ps)(ht:Tu F w w')(b:∀j,GA g gb v j->¬F j)(d:∀j a,w.heap[j]? =ε (.cells a 265 (0,0))->¬F j):AA w' g gb B m t i v ps:=
 ⟨h.blk.tu ht (b g (.inl rfl)),h.lo,h.buf.tu ht (fun j c=>b j (.inr c)) d⟩
def XC(h:Tu (CO gb v) w w'):Tu (GA g gb v) w w':=(Tu.refl (GA g gb v) w).trans h fun _ _ e=>.inr e
def AA.bufs{v':Value}{a:List PKV}(h:AA w g gb B m t i v ps)(b:Av w' gb B m v' a)(ht:Tu (CO gb v) w w'):AA w' g gb B m t i v' a:=
 ⟨h.blk.tu ht h.out,h.lo,b⟩
def cI(t:Int)(h:Av w gb B m v ps):AA (w.alloc (.cells #[.iface 200 (.pointer (ε ⟨gb,0,γ⟩)),.int .i64 t,.int .i64 0] 169)) w.heap.size gb B m t 0 v ps:=
 ⟨AI 169 w (XA gb t 0),h.lob,h.below ((Below.refl _ _).alloc (ξ _) _)⟩
def AA.apart{T:TypeId}{b:Nat}{u0 u1:Value}(h:AA w g gb B m t i v ps)(a:A5 T w b u0 u1)(d:T≠169)(f:T≠237)(l:T≠75):¬GA g gb v b:=fun o=>by
 rcases o with e|e|e
 ·exact h.blk.ne a (Ne.symm d) e.symm
 ·exact h.buf.blk.ne a (Ne.symm f) e.symm
 ·obtain⟨c,n⟩:=h.buf.own.blk e
  unfold A5 at a;rw[n]at a;simp only[β,Obj.cells.injEq]at a;exact l a.2.1.symm
def AA.drawn{T:TypeId}{b:Nat}{u0 u1:Value}(h:AA w g gb B m t i v ps)(a:A5 T w b u0 u1)(d:T≠169)(f:T≠237)(l:T≠75)(n:T≠265)(p:w.grownBy w' (ε b)):AA w' g gb B m t i v ps:=
 h.tu (Tu.of_gb (F:=fun j=>j=b) p fun j _ e=>(υ e).symm) (fun j q e=>h.apart a d f l (e▸q)) fun j c o e=>by
  subst e;unfold A5 at a;rw[o]at a;simp only[β,Obj.cells.injEq]at a;exact n a.2.1.symm
def XR{kn:List Nat}(h:ts.map core=toldTo k kn bs k.toNat):ts.length<=k.toNat:=by
 have:=congrArg π h;rw[ζ]at this;have:=SW k kn bs k.toNat;omega
def Iw{kn:List Nat}(d:Kn k j kn bs){x:List Nat×ByteArray}(c:x∈toldTo k kn bs k.toNat):∃b:Nat,b<k.toNat/\Ah kn b=true/\x=(unitL k (b:Int),bs.getD b ByteArray.empty):=by
 unfold toldTo at c;rw[List.mem_map]at c;obtain⟨b,a,rfl⟩:=c;rw[List.mem_filter,List.mem_range]at a;exact⟨b,a.1,a.2,rfl⟩
def kQ{kn:List Nat}(a:Kn k j kn bs)(p:Ae w ts)(h:ts.map core=toldTo k kn bs k.toNat):Af ts:=fun i=>by
 by_cases c:i<ts.length
 ·have o:core (ts.getD i .dflt)∈toldTo k kn bs k.toNat:=by
   rw[<-h,U,α c];exact List.mem_map.2 ⟨_,List.getElem_mem c,rfl⟩
  obtain⟨b,q,_,e⟩:=Iw a o;have d:=DV a.size;have n:=(p.get c).1.1;have f:(ts.getD i .dflt).xs=unitL k (b:Int):=congrArg Prod.fst e;have l:(ts.getD i .dflt).s=bs.getD b ByteArray.empty:=congrArg Prod.snd e;have:=JL (k:=k) (b:=b) (by omega);have:=DU k;refine⟨by rw[<-n,f];omega,by rw[l];exact a.short b⟩
 ·rw[U,List.getElem?_eq_none (by omega)]
  exact⟨ρ _,ρ _⟩
def AN.kn{rs:List RV}{kn:List Nat}(h:AN k rs kn bs)(a:Dx rs)(c:0<sizeOfK k):∃j,Kn k j kn bs:=by
 obtain⟨⟨j,b⟩,_⟩:=h;exact⟨j,Run.known c a b⟩
def DH.short{rs:List RV}{u:Option Addr}{H c1:Nat}{b:List RV}{y:Option Addr}{I c2:Nat}{a:List RV}(h:DH w w' k rs u H c1 b y I c2 a)(p:Dx rs)(Q:Af rs)(z:∀r∈rs,r.xs.length<=10):Af b/\Af a/\b.length<=128/\a.length<=rs.length:=by
 obtain⟨kn,bs,o,o1,D,c,o2,E,d,O⟩:=h;have e:a.length<=rs.length:=by
  have:=congrArg π d;unfold restL at this;rw[ζ,ζ]at this;have:=List.length_filter_le (Fz k kn) rs;omega
 by_cases C:sizeOfK k=0
 ·obtain⟨J,K,L⟩:=I0 (rs:=rs) C
  obtain⟨rfl,rfl⟩:=o.uniq J;rw[K]at c;rw[L]at d;rw[List.map_eq_nil_iff]at c d;subst c d;exact⟨L5,L5,by simp,e⟩
 ·obtain⟨j,f⟩:=o.kn p (by omega)
  have l:=DV f.size;refine⟨kQ f D c,SP E d fun x n=>?_,by have:=XR c;omega,e⟩;unfold restL at n;rw[List.mem_map]at n;obtain⟨r,A,rfl⟩:=n;have q:=(List.mem_filter.1 A).1;exact⟨by rw[Jv];exact z r q,Ut f.short (p r q).2⟩
def QW{a:Option Addr}{n:Nat}{rs:List RV}(h:Aj w a n rs)(f:Af rs):∀r∈rs,r.xs.length<=10:=fun r e=>by
 obtain⟨i,d,rfl⟩:=List.mem_iff_getElem.1 e;have b:=h.2.1 i (by rw[<-h.1];exact d);have c:=f i;rw[U,α d]at b c;simp only[ς]at b c;rw[b.1];exact c.1
def F3(x:Nat)(kn:List Nat):Nat->Nat
 |0=>x
 |n+1=>if (Ah kn n&&(F3 x kn n).testBit n)=true then F3 x kn n^^^2^n else F3 x kn n
def WV(x:Nat)(kn:List Nat):∀n i,(F3 x kn n).testBit i=(x.testBit i&& !(Ah kn i&&decide (i<n)))
 |0,i=>by simp[F3]
 |n+1,i=>by
  have b:=WV x kn n;unfold F3;by_cases e:i=n
  ·subst e
   split
   ·rename_i h
    rw[ι]at h;rw[Nat.testBit_xor,ν,h.2,h.1];simp
   ·rename_i h
    rw[b];rw[b]at h;cases d:Ah kn i<;>cases f:x.testBit i<;>simp_all
  ·have a:(i<n+1)=(i<n):=propext (by omega)
   split
   ·have c:decide (n=i)=false:=decide_eq_false (fun h=>e h.symm)
    rw[Nat.testBit_xor,ν,b,c,Bool.xor_false];simp only[a]
   ·rw[b]
    simp only[a]
def QP{S:List Nat}{kn:List Nat}(h:∀b,Ah kn b=true->Ech.Sp S (2^b))(x:Nat):∀n,Ech.Sp S (F3 x kn n)↔Ech.Sp S x
 |0=>Iff.rfl
 |n+1=>by
  rw[<-QP h x n,show F3 x kn (n+1)=(if (Ah kn n&&(F3 x kn n).testBit n)=true then F3 x kn n^^^2^n else F3 x kn n) from rfl];split
  ·rename_i d
   rw[ι]at d;have c:=h n d.1;constructor
   ·intro a
    have:=a.xor c;rwa[Nat.xor_assoc,Nat.xor_self,Nat.xor_zero]at this
   ·intro a
    exact a.xor c
  ·exact Iff.rfl
def XY{kn:List Nat}(a:Ac xs):val (dropL xs kn)=F3 (val xs) kn (64*xs.length):=by
 apply κ;intro i;rw[CL (Hn a _),Hk,WV,CL a];by_cases b:i<64*xs.length
 ·simp[b]
 ·rw[EV xs i (by omega)];simp
def P9{S:List Nat}{kn:List Nat}(a:Ac xs)(h:∀b,Ah kn b=true->Ech.Sp S (2^b)):Ech.Sp S (val (dropL xs kn))↔Ech.Sp S (val xs):=by
 rw[XY a,QP h]
def K9{b:Nat}(a:Ac xs)(h:∀i,Ah xs i=decide (i=b)):val xs=2^b:=by
 apply κ;intro i;rw[CL a,h,ν];by_cases e:i=b
 ·simp[e]
 ·rw[decide_eq_false e,decide_eq_false (fun h=>e h.symm)]
def XZ(a:Ac xs)(h:cnt xs=0):val xs=0:=by
 apply κ;intro i;rw[CL a,Pa.1 h,Nat.zero_testBit]
def Run.sp{k:Int}{rs:List RV}(d:Dx rs){S:List Nat}(q:∀r∈rs,AX k r.xs=true->Ech.Sp S (val r.xs)):∀{j:Nat} {kn:List Nat} {bs:List ByteArray},Run k rs j kn bs->∀b,Ah kn b=true->Ech.Sp S (2^b)
 |0,kn,bs,⟨f,l⟩,b,c=>by rw[f,Jx]at c;cases c
 |j+1,kn,bs,⟨o,y,r,f,l,z,H⟩,b,c=>by
  have x:=Run.sp d q f;have h:=List.mem_of_find?_eq_some l;obtain⟨u,a,D,E,A,C⟩:=KO (d r h).1 (List.find?_some l);have p:=Run.known (GS u).1 d f;have n:=DV p.size;rw[z,Iy _ _ _ _ (by rw[p.len];omega)]at c;by_cases e:b=blkOf o r
  ·have:=(P9 (d r h).1 x).2 (q r h u)
   rw[K9 (Hn (d r h).1 _) a]at this;rw[e];exact this
  ·rw[if_neg e]at c
   exact x b c
def UK{rs:List RV}{kn:List Nat}(q:AN k rs kn bs)(o:Dx rs)(x:Nat):
  Ech.Sp (((toldTo k kn bs k.toNat++restL k rs kn bs).map Prod.fst).map val) x↔Ech.Sp ((vecsL (rs.filter fun r=>AX k r.xs)).map val) x:=by
 by_cases K:sizeOfK k=0
 ·obtain⟨L,O,Q⟩:=I0 (rs:=rs) K
  obtain⟨rfl,rfl⟩:=q.uniq L;have:(rs.filter fun r=>AX k r.xs)=[]:=List.filter_eq_nil_iff.2 fun r _ a=>by have:=(GS a).1;omega
  rw[O,Q,this];exact Iff.rfl
 ·obtain⟨j,n⟩:=q.kn o (by omega)
  have D:=DV n.size
  have p:∀r∈rs,AX k r.xs=true->val r.xs∈(vecsL (rs.filter fun r=>AX k r.xs)).map val:=fun r f a=>
   List.mem_map.2 ⟨r.xs,List.mem_map.2 ⟨r,List.mem_filter.2 ⟨f,a⟩,rfl⟩,rfl⟩
  have I:∀b,Ah kn b=true->Ech.Sp ((vecsL (rs.filter fun r=>AX k r.xs)).map val) (2^b):=by
   obtain⟨⟨S,C⟩,_⟩:=q;exact Run.sp o (fun r f a=>.of_mem (p r f a)) C
  have J:∀b,Ah kn b=true->Ech.Sp (((toldTo k kn bs k.toNat++restL k rs kn bs).map Prod.fst).map val) (2^b):=fun b u=>by
   have z:=n.below b u;refine .of_mem (List.mem_map.2 ⟨unitL k (b:Int),List.mem_map.2 ⟨(unitL k (b:Int),bs.getD b ByteArray.empty),List.mem_append.2 (.inl ?_),rfl⟩,K9 (Fh (by omega)) (I7 n.size (by omega))⟩);unfold toldTo;exact List.mem_map.2 ⟨b,List.mem_filter.2 ⟨List.mem_range.2 z,u⟩,rfl⟩
  constructor
  ·refine fun h=>h.of fun y E=>?_
   obtain⟨v,a,rfl⟩:=List.mem_map.1 E;obtain⟨c,l,rfl⟩:=List.mem_map.1 a;rcases List.mem_append.1 l with l|l
   ·obtain⟨b,u,A,rfl⟩:=Iw n l
    show Ech.Sp _ (val (unitL k (b:Int)));rw[K9 (Fh (by omega)) (I7 n.size (by omega))];exact I b A
   ·unfold restL at l
    obtain⟨r,f,rfl⟩:=List.mem_map.1 l;have d:=List.mem_filter.1 f;have a:AX k r.xs=true:=by
     have:=d.2;unfold Fz at this;rw[ι,ι]at this;exact this.1.1
    exact(P9 (o r d.1).1 I).2 (.of_mem (p r d.1 a))
  ·refine fun h=>h.of fun y E=>?_
   obtain⟨v,a,rfl⟩:=List.mem_map.1 E;obtain⟨r,f,rfl⟩:=List.mem_map.1 a;have d:=List.mem_filter.1 f;refine(P9 (o r d.1).1 J).1 ?_;by_cases H:cnt (dropL r.xs kn)=0
   ·rw[XZ (Hn (o r d.1).1 _) H];exact .zero
   ·have e:=List.find?_eq_none.1 q.2 r d.1
    unfold CE at e;rw[d.2,Bool.true_and,decide_eq_true_eq]at e;refine .of_mem (List.mem_map.2 ⟨dropL r.xs kn,List.mem_map.2 ⟨(dropL r.xs kn,Dw bs r.xs r.s),List.mem_append.2 (.inr ?_),rfl⟩,rfl⟩);unfold restL;refine List.mem_map.2 ⟨r,List.mem_filter.2 ⟨d.1,?_⟩,rfl⟩;unfold Fz;rw[d.2,decide_eq_false H,decide_eq_false e];rfl
def W9{A V:List (List Nat)}(c:Ay 1048576 A)(d:Ay 1048576 V)(h:∀x,Ech.Sp (A.map val) x↔Ech.Sp (V.map val) x):(Ce A).length=(Ce V).length:=by
 have a:=KH c;have b:=KH d;have e:Ech.basis (A.map val)=Ech.basis (V.map val):=Ech.uniq (Ech.red_basis _) (Ech.red_basis _) fun x=>by rw[Ech.sp_basis,Ech.sp_basis];exact h x
 have:=congrArg π (a.trans (e.trans b.symm));rwa[ζ,ζ]at this
def eh{us:List RV}(a:Af ts)(b:Af us):Af (ts++us):=fun i=>by
 by_cases c:i<ts.length
 ·rw[U,List.getElem?_append_left c,<-U];exact a i
 ·rw[U,List.getElem?_append_right (by omega),<-U];exact b _
def AC.at(h:AC w B v xs)(f:0<xs.length):
  ∃g cap,v=.slice (ε ⟨g,0,γ⟩) xs.length cap/\B<=g/\g<w.heap.size/\(∀i,i<xs.length->w.cell? ⟨g,i,γ⟩=ε (.int .i64 ((xs.getD i 0:Nat):Int)))/\∀i,w.frozen? ⟨g,i,γ⟩=false:=by
 have a:w.ownsRow B 3 1 v xs.length (DW xs):=h;rcases h.2 with⟨rfl,n⟩|⟨g,cap,b,rfl,c,d,f,o,l,ht⟩
 ·omega
 ·refine⟨g,cap,rfl,c,(Array.getElem?_eq_some_iff.1 d).1,fun i e=>?_,fun i=>a.frozenAt i⟩
  rw[a.cellAt i (by omega),SE xs i e]
def AC.stored{cap n:Nat}(h:AC w B (.slice (ε ⟨g,0,γ⟩) n cap) xs)(i x:Nat):
  AC (w.setCell ⟨g,i,γ⟩ (.int .i64 (x:Int))) B (.slice (ε ⟨g,0,γ⟩) n cap) (xs.set i x):=by
 obtain rfl:n=xs.length:=by
  obtain⟨a,c,e,_⟩:=h.ints;simp only[δ]at e;exact e.2.1
 have b:w.ownsRow B 3 1 (.slice (ε ⟨g,0,γ⟩) xs.length cap) xs.length (DW xs):=h;have:=(b.stored i (.int .i64 (x:Int))).1;rw[hU]at this;show World.ownsRow _ B 3 1 _ (xs.set i x).length _;rw[η];exact this
def lp(w:World)(n:Nat)(b:n<=1048576)(xs:List Nat)(a:xs=ο n 0):
  AC (w.alloc (.cells (madeCells #[.int .i64 0] n) 3)) w.heap.size (.slice (ε ⟨w.heap.size,0,γ⟩) n n) xs:=by
 subst a;refine⟨by simp[DW],.inr ⟨w.heap.size,n,madeCells #[.int .i64 0] n,by simp,ξ _,heap_alloc_new w _,by simp,by unfold maxLen;omega,by simp[size_madeCells],?_⟩⟩;rw[toList_madeCells_one,List.take_of_length_le (by simp)];simp[DW]
def Fo(fs:List Nat)(k:Nat):List Nat:=fs.take k++ο (fs.length-k) 0
def eT(fs:List Nat):Fo fs 0=ο fs.length 0:=by simp[Fo]
def fd(fs:List Nat):Fo fs fs.length=fs:=by simp[Fo]
def dr(fs:List Nat)(k:Nat)(a:k<=fs.length):(Fo fs k).length=fs.length:=by simp[Fo];omega
def eS(fs:List Nat)(k:Nat)(a:k<fs.length):(Fo fs k).set k (fs.getD k 0)=Fo fs (k+1):=by
 unfold Fo;have b:(fs.take k).length=k:=by simp;omega
 rw[List.set_append_right _ _ (by omega),b,Nat.sub_self,List.take_succ_eq_append_getElem a,List.append_assoc,show fs.length-k=(fs.length-(k+1))+1 by omega,List.replicate_succ,List.set_cons_zero];simp[U,α a]
def CW(rs:List (List Nat)):List Nat:=rs.map fun b=>(firstI b).toNat
def It(rs:List (List Nat)):(CW rs).length=rs.length:=by simp[CW]
def NU(rs:List (List Nat))(i:Nat)(h:i<rs.length):(CW rs).getD i 0=(firstI (rs.getD i [])).toNat:=by
 simp[CW,U,α h]
def ft(a:Option Addr)(n c:Nat)(rs:List (List Nat))(w:World)(ht:Tab w)(h:VecsAt w a n rs)(hf:Ay 1048576 rs)(hn:n<=100000)(hp:∀i,i<n->0<=firstI (rs.getD i [])):
  Calls Tryz.prog 286 #[θ a n c] w fun e w'=> ∃v,e=.returned v/\AC w' w.heap.size v (CW rs)/\Below w.heap.size w w':=by
 obtain rfl:n=rs.length:=h.1.symm;obtain⟨i0,x,z,C,A⟩:=info_parts Vp
 have ab:∀wx:World,(Instr.makeSlice 27 (.int .i64 (rs.length:Int)) (.int .i64 (rs.length:Int))).run Tryz.prog wx=.ok (.slice (ε ⟨wx.heap.size,0,γ⟩) rs.length rs.length) (wx.alloc (.cells (madeCells #[.int .i64 0] rs.length) 3)):=fun wx=>by
  have:=run_make (P:=Tryz.prog) wx 27 3 i0 (.int .i64 0) underlying27 x z .i64 .i64 (rs.length:Int) (rs.length:Int) (by omega) (Int.le_refl _) (by rw[A];omega) (by omega);rw[C]at this;simpa [Value.cells]using this
 have K:=Ab (lp w rs.length (by omega) (Fo (CW rs) 0) (by rw[eT,It]));have q:Hid (Below w.heap.size w (w.alloc (.cells (madeCells #[.int .i64 0] rs.length) 3))):=Ab ((Below.refl _ _).alloc (ξ _) _);clear x z C A;go_enter func286,ntmps286;go_wp2;go_loopw [11] (fun i wr=> ∃k:Nat,k<=rs.length/\i=.int .i64 k/\Hid (AC wr w.heap.size (.slice (ε ⟨w.heap.size,0,γ⟩) rs.length rs.length) (Fo (CW rs) k))/\Hid (Below w.heap.size w wr)) (fun i _=>rs.length-(intOf i).toNat)
 case atStart=>exact⟨0,ρ _,rfl,K,q⟩
 case round=>
  obtain⟨k,hk,rfl,D,I⟩:=hrel;have E:=Aa I;by_cases d:k<rs.length
  ·obtain⟨b,off,rfl,W⟩:=(h.below E).at d
   obtain⟨Z,ci,Q,o⟩:=W k d;have O:=Aa D;have S:(Fo (CW rs) k).length=rs.length:=by rw[dr _ _ (by rw[It];exact hk),It]
   obtain⟨g,cap,V,_,_,r,u⟩:=O.at (by omega);simp only[δ,β,Addr.mk.injEq,and_true]at V;obtain⟨rfl, -, -⟩:=V;have H:=r k (by omega);have aa:=u k;obtain⟨f,l⟩:∃f:Nat,firstI (rs.getD k [])=(f:Int):=⟨_,(Int.toNat_of_nonneg (hp k d)).symm⟩;have L:=JF Z _ ci (rs.getD k []) wr (ht.below E) o (hf.getD k).2;rw[l]at L;have X:=Ab L;have T:=O.stored k f;rw[show f=(CW rs).getD k 0 by rw[NU rs k d,l];rfl,eS _ _ (by rw[It];exact d),show(CW rs).getD k 0=f by rw[NU rs k d,l];rfl]at T;have Y:=Ab T;have J:=Ab (E.setCell (p:=⟨w.heap.size,k,γ⟩) (by exact ξ _) (.int .i64 (f:Int)));clear W o h O S r u L T l E I D K q hp;generalize rs.getD k []=y at*;go_wp2_with fail;refine(Aa X).mono ?_;rintro e w1 ⟨rfl,hw⟩;obtain rfl:=hw.symm;go_wp2;go_roundw
   case rel=>exact⟨k+1,by omega,by go_num,Y,J⟩
   case measure=>simp[intOf];omega
  ·obtain rfl:k=rs.length:=by omega
   rw[show rs.length=(CW rs).length from(It rs).symm,fd,It]at D;clear h K q;go_wp2;go_ret;exact⟨_,rfl,Aa D,Aa I⟩
def Ha(a:List Nat)(s N:Nat)(rs:List (List Nat)):Prop:=a.length=N*s/\rs.length=N/\∀i,i<N->(rs.getD i []).length=s/\∀j,j<s->a.getD (i*s+j) 0=(rs.getD i []).getD j 0
def MP{i:Nat}(a:i<N)(b:j<s):i*s+j<N*s:=by
 have h:(i+1)*s<=N*s:=μ s a;rw[σ,τ]at h;omega
def qh{i b d:Nat}(f:j<s)(e:d<s)(h:i*s+j=b*s+d):i=b/\j=d:=by
 rcases Nat.lt_trichotomy i b with a|a|a
 ·have c:(i+1)*s<=b*s:=μ s a
  rw[σ,τ]at c;omega
 ·subst a;exact⟨rfl,by omega⟩
 ·have c:(b+1)*s<=i*s:=μ s a
  rw[σ,τ]at c;omega
def OJ(rs:List (List Nat))(i j:Nat)(r:List Nat)(a:i<rs.length):(rs.set i r).getD j []=if j=i then r else rs.getD j []:=by
 rw[U];by_cases h:j=i
 ·subst h;rw[List.getElem?_set_self a,if_pos rfl];rfl
 ·rw[List.getElem?_set_ne (Ne.symm h),if_neg h,<-U]
def Ha.set{p:List Nat}(h:Ha p s N rs){i q:Nat}(n:i<N)(o:q<s)(y:Nat):Ha (p.set (i*s+q) y) s N (rs.set i ((rs.getD i []).set q y)):=by
 have r:=MP n o;refine⟨by rw[η];exact h.1,by rw[η];exact h.2.1,fun d c=>?_⟩;rw[OJ rs i d _ (by rw[h.2.1];exact n)];obtain⟨f,l⟩:=h.2.2 d c;by_cases e:d=i
 ·subst e
  rw[if_pos rfl];refine⟨by rw[η];exact f,fun j a=>?_⟩;rw[DT,DT];by_cases b:j=q
  ·subst b;rw[if_pos ⟨rfl,by rw[h.1];exact r⟩,if_pos ⟨rfl,by omega⟩]
  ·rw[if_neg (fun k=>b (by have:=k.1;omega)),if_neg (fun k=>b k.1)]
   exact l j a
 ·rw[if_neg e]
  refine⟨f,fun j a=>?_⟩;rw[DT,if_neg (fun k=>e (qh a o k.1).1)];exact l j a
def AK(w:World)(B P R s N:Nat)(rs:List (List Nat)):Prop:=
 ∃a,Ha a s N rs/\Own w B (.slice (ε ⟨P,0,γ⟩) a.length a.length) a/\(∀i,i<N->w.cell? ⟨R,i,γ⟩=ε (.slice (ε ⟨P,i*s,γ⟩) s s))/\R≠P
def AK.below(h:AK w B P R s N rs)(b:Below w.heap.size w w'):AK w' B P R s N rs:=by
 obtain⟨l,d,e,a,f⟩:=h;exact⟨l,d,e.below b,fun i c=>(b.cell (World.block_lt_of_cell? w _ (a i c))).trans (a i c),f⟩
def AK.len(h:AK w B P R s N rs):rs.length=N/\∀i,i<N->(rs.getD i []).length=s:=by
 obtain⟨c,a,_⟩:=h;exact⟨a.2.1,fun i b=>(a.2.2 i b).1⟩
def AK.row(h:AK w B P R s N rs){i:Nat}(c:i<N):RowAt w (ε ⟨P,i*s,γ⟩) s (rs.getD i [])/\w.cell? ⟨R,i,γ⟩=ε (.slice (ε ⟨P,i*s,γ⟩) s s)/\
  ∀j,j<s->w.frozen? ⟨P,i*s+j,γ⟩=false:=by
 obtain⟨A,b,d,p,z⟩:=h;obtain⟨y,n⟩:=b.2.2 i c;refine⟨⟨y,fun x u=>?_,?_⟩,p i c,fun j a=>?_⟩
 ·obtain⟨j,a,rfl⟩:=List.getElem_of_mem u
  have:=n j (by omega);rw[U (l:=rs.getD i []),α a,ς]at this;rw[<-this];exact d.1.get _
 ·by_cases o:s=0
  ·exact .inl o
  ·refine .inr ⟨P,i*s,rfl,fun j a=>?_⟩
   have f:=MP c a;obtain⟨g,cap,e,_,_,q,_⟩:=d.at (by rw[b.1];omega);simp only[δ,β,Addr.mk.injEq,and_true]at e;obtain⟨rfl,_⟩:=e;rw[q _ (by rw[b.1];exact f),n j a]
 ·have f:=MP c a
  obtain⟨g,cap,e,_,_,_,r⟩:=d.at (by rw[b.1];omega);simp only[δ,β,Addr.mk.injEq,and_true]at e;obtain⟨rfl,_⟩:=e;exact r _
def AK.stored(h:AK w B P R s N rs){i q:Nat}(a:i<N)(l:q<s)(y:Nat)(n:y<18446744073709551616):
  AK (w.setCell ⟨P,i*s+q,γ⟩ (.int .u64 (y:Int))) B P R s N (rs.set i ((rs.getD i []).set q y)):=by
 obtain⟨o,c,d,f,b⟩:=h;refine⟨o.set (i*s+q) y,c.set a l y,?_,fun i a=>(Bz w P _ _).cell (f i a) (fun e=>b (υ e)),b⟩;rw[η];exact d.stored _ y n
def AK.vecs(h:AK w B P R s N rs){k:Nat}(r:k<=N):VecsAt w (ε ⟨R,0,γ⟩) k (rs.take k):=by
 have d:=h.len;have o:∀i,i<k->(rs.take k).getD i []=rs.getD i []:=fun i a=>by rw[U,List.getElem?_take_of_lt a,<-U]
 refine⟨by rw[List.length_take,d.1];omega,.inr ⟨R,0,rfl,fun i a=>?_⟩,fun b off i p n q e a c=>?_⟩
 ·obtain⟨f,l,_⟩:=h.row (show i<N by omega)
  rw[o i a,Nat.zero_add,d.2 i (by omega)];exact⟨_,s,l,f⟩
 ·simp only[β,Addr.mk.injEq,and_true]at e
  obtain⟨rfl,rfl⟩:=e;rw[Nat.zero_add,(h.row (show i<N by omega)).2.1]at c;simp only[β,δ]at c;omega
def Zx(x k:Nat)(b:x<18446744073709551616)(a:k<64):bits .or .u64 (x:Int) ((2^k:Nat):Int)=((setW x k true:Nat):Int):=by
 have c:2^k<2^64:=Nat.pow_lt_pow_right (by decide) a;rw[u64_or_nat x _ b (by omega),Xk]
def Po(P off s c i x:Nat)(w:World)(p:i<64*s)(r:s<=1048576)(f:w.cell? ⟨P,off+i/64,γ⟩=ε (.int .u64 (x:Int)))(o:x<18446744073709551616)(b:w.frozen? ⟨P,off+i/64,γ⟩=false):
  Calls Tryz.prog 289 #[.slice (ε ⟨P,off,γ⟩) s c,.int .i64 (i:Int)] w fun e w'=>e=.returned (.tuple #[])/\w'=w.setCell ⟨P,off+i/64,γ⟩ (.int .u64 ((setW x (i%64) true:Nat):Int)):=by
 obtain⟨q,h⟩:∃q,i/64=q:=⟨_,rfl⟩;have l:q<s:=by omega
 have n:IntKind.i64.wrap ((i:Int).tdiv 64)=(q:Int):=by
  rw[Int.tdiv_eq_ediv_of_nonneg (by omega)];simp[IntKind.wrap,IntKind.bits,IntKind.signed];omega
 have a:=PB (i:Int);have d:=Zx x (i%64) o (by omega);rw[show((i:Int)%64).toNat=i%64 by omega]at a;rw[h]at f b⊢;generalize setW x (i%64) true=y at*;rw[<-a]at d;clear a;go_enter func289,ntmps289;go_wp2;go_end0;exact⟨rfl,rfl⟩
end Go.Proofs.YtfpmnekaockodaaGreatDoor
