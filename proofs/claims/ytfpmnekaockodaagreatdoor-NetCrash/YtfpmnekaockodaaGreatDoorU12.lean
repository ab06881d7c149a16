/- Laws for the proof. -/
import Derived.Test.YtfpmnekaockodaaGreatDoorU11
import Derived.Lib.UnsafeStr
import Derived.Laws.Concat
import Derived.Deep.RegionHeld3
import Derived.Deep.AppendLies
set_option linter.all false
open Go.Proofs.Tryz
open Go.Value renaming int->U,int->ι,string->ν,slice->ρ
open Go.IntKind renaming i64->α
open List renaming getD_eq_getElem?_getD->β,getElem?_append_right->ς
open Go.RowKit renaming Below->γ
open Go.Proofs.Tryz renaming prog->δ
open Go.Ending renaming returned->ε
open Option.some renaming injEq->ζ
open Go renaming World->η,Value->κ,Calls->σ
open Option renaming some->θ,none->ξ
open Go.RowKit.Below renaming refl->μ
open Nat renaming le_refl->ο,zero_le->π
namespace Go.Proofs.YtfpmnekaockodaaGreatDoor
open Go.RowKit Go.Sort
set_option maxRecDepth 4000
set_option maxHeartbeats 8000000
def OK(a:Option Addr)(n c:Nat)(d:List RV)(w:η)(h:Aj w a n d)(K:n<=1048576):
  σ δ 164 #[ρ a n c] w fun e w'=> ∃v,e=ε v/\Gb w' w.heap.size v d/\γ w.heap.size w w':=by
 obtain rfl:=h.1;have N:=Ab h;have S:=Q0 d.length K;have u:=QZ w d.length K;rw[<-S7]at u;have u:=Ab u;have q:Hid (γ w.heap.size w (w.alloc (.cells (madeCells #[ρ none 0 0] d.length) 40))):=Ab ((μ _ _).alloc (ο _) _);clear h;go_enter func164,ntmps164;go_wp2;go_loopw [11] (fun i wr=> ∃k:Nat,k<=d.length/\i=U α k/\Hid (wr.ownsRow w.heap.size 40 1 (.slice (θ ⟨w.heap.size,0,ξ⟩) d.length d.length) d.length (E1 d k))/\Hid (γ w.heap.size w wr)) (fun i _=>d.length-(intOf i).toNat)
 case atStart=>exact⟨0,π _,rfl,u,q⟩
 case round=>
  obtain⟨k,X,rfl,D,C⟩:=hrel;clear u q;by_cases l:k<d.length
  ·obtain⟨b,off,rfl,y⟩:=((Aa N).below (Aa C)).at l
   obtain⟨O,P⟩:=y k l;have J:(k:Int)<(d.length:Int):=by omega
   have I:=S6 d k l;have A:(E1 d k)[k]? =θ (ρ none 0 0):=by
    unfold E1;have R:((d.take k).map fun r=>Value.slice r.a r.n r.c).length=k:=by simp;omega
    rw[ς (by omega),R,Nat.sub_self,List.getElem?_replicate,if_pos (by omega)]
   generalize d.getD k .dflt=r at*;have f:γ wr.heap.size wr (wr.alloc (.cells #[.slice r.a r.n r.c,ν r.s] 73)):=(μ _ _).alloc (ο _) _;have E:=LL (Aa D) f;have j:=E.cellAt k (by omega);rw[A]at j;have Q:=E.frozenAt k;have o:=(E.stored k (.slice r.a r.n r.c)).1;rw[I]at o;have x:=(Ad (Aa C) f).setCell (p:=⟨w.heap.size,k,ξ⟩) (ο _) (.slice r.a r.n r.c);obtain⟨V,W⟩:=GT wr (.slice r.a r.n r.c) (ν r.s);have L:=Ab o;have H:=Ab x;clear y E o x f I A D C;go_wp2;go_roundw
   case rel=>exact⟨k+1,by omega,by go_num,L,H⟩
   case measure=>simp[intOf];omega
  ·obtain rfl:k=d.length:=by omega
   rw[TK]at D;go_wp2;go_ret;exact⟨_,rfl,Aa D,Aa C⟩
def KR(a:List RV):(vecsL a).length=a.length:=by simp[vecsL]
def mP(a:Option Addr)(n c:Nat)(d:List RV)(w:η)(ht:Tab w)(h:Aj w a n d)(u:Ae w d)(A:Af d)(E:n<=100000):
  σ δ 128 #[ρ a n c] w fun e w'=>e=ε (U α ((keepL (vecsL d) d.length).length:Int))/\γ w.heap.size w w':=by
 obtain rfl:=h.1;have y:=Ab (OK a d.length c d w h (by omega));have x:=Ab (fun(w1:η) (q:Option Addr) (c1:Nat) (D:γ w.heap.size w w1) (H:VecsAt w1 q d.length (vecsL d))=>Vs q d.length c1 (vecsL d) w1 (ht.below D) H (Qt u A) E);have C:=Ab u;clear h u A ht;go_enter func128,ntmps128;go_wp2_with fail;refine(Aa y).mono ?_;rintro e w1 ⟨v1,rfl,l,f⟩;obtain⟨q,c1,rfl,p⟩:=l.vecs ((Aa C).below f);have b:=Aa x w1 q c1 f p;rw[KR]at b;have b:=Ab b;have i:=Ab f;clear l f p y x;go_wp2_with fail;refine(Aa b).mono ?_;rintro e w2 ⟨v2,rfl,o,j⟩;obtain⟨I,c2,rfl,s⟩:=o.ints;have r:=Ab (Ad (Aa i) j);clear o j s b i;go_wp2;go_ret;exact⟨rfl,Aa r⟩
def VX{s:ByteArray}(h:s.size=0):s=⟨#[]⟩:=by
 apply Jj;have a:(tx s).length=0:=by rw[AR];exact h
 rw[List.eq_nil_of_length_eq_zero a];rfl
def jL(s:ByteArray)(w:η)(R:s.size<=1048576):
  σ δ 64 #[ν s] w fun e w'=>e=ε (ν s)/\γ w.heap.size w w':=by
 by_cases I:s.size=0
 ·obtain rfl:=VX I
  go_enter func64,ntmps64;go_wp2;go_ret;exact⟨rfl,μ _ _⟩
 ·have N:¬((s.size:Int)=0):=by omega
  obtain⟨E,d,C,f,D⟩:=info_parts Qc;have q:Tryz.prog.cellsOf 5=1:=by simp[Program.cellsOf,d,f]
  have A:=fun W=>run_make (P:=δ) W 165 5 E (U .u8 0) underlying165 d C α α (s.size:Int) (s.size:Int) (by omega) (by omega) (by rw[D];omega) (by omega);simp only[Int.toNat_natCast]at A;have r:(madeCells (ι .u8 0).cells (s.size*E.size)).size=s.size:=by rw[size_madeCells,f,Nat.mul_one]
  generalize madeCells (ι .u8 0).cells (s.size*E.size)=a at*;have c:(w.alloc (.cells a 5)).heap[w.heap.size]? =θ (.cells a 5 (0,0)):=by
   show(w.heap.push _)[w.heap.size]? =_;simp
  have l:γ w.heap.size w (w.alloc (.cells a 5)):=(μ _ _).alloc (ο _) _;have O:=RC (P:=δ) (w.alloc (.cells a 5)) 165 9 3 5 w.heap.size s.size s.size s a 5 underlying165 (by rw[d];simp[f]) c r rfl;have u:=setRow_heap (w.alloc (.cells a 5)) w.heap.size a (s.data.map fun b=>ι .u8 (b.toNat:Int)) 5 (0,0) c;have J:(s.data.map fun b=>ι .u8 (b.toNat:Int)).size=s.size:=by rw[Array.size_map];rfl
  have y:s.data.toList.length=s.size:=Array.length_toList;have i:γ w.heap.size w ((w.alloc (.cells a 5)).setRow w.heap.size (s.data.map fun b=>ι .u8 (b.toNat:Int))):=l.trans ⟨rfl,rfl,rfl,by simp,fun k Q=>setRow_other _ _ k _ (by omega)⟩;have o:∀(j:Nat) (x:UInt8),s.data.toList[j]? =θ x->((w.alloc (.cells a 5)).setRow w.heap.size (s.data.map fun b=>ι .u8 (b.toNat:Int))).cell? ((⟨w.heap.size,0,ξ⟩:Addr).add j)=θ (U .u8 x.toNat):=by
   intro j x K;have e:(⟨w.heap.size,0,ξ⟩:Addr).add j=⟨w.heap.size,j,ξ⟩:=by unfold Addr.add;split<;>simp_all
   rw[e,cell_setRow_same _ _ j _ _ _ _ c];rw[Array.getElem?_toList]at K;simp[K]
  have h:=Lib.run_unsafeString_row (P:=δ) ((w.alloc (.cells a 5)).setRow w.heap.size (s.data.map fun b=>ι .u8 (b.toNat:Int))) 176 3 9 5 underlying176 q w.heap.size s.size (by unfold World.shape?;rw[u];exact congrArg (fun n=>θ (5,n)) J) s.data.toList
   (fun e=>I (by rw[<-y,e];rfl)) (by rw[y];omega) (by rw[y];omega) o
  rw[y]at h;have H:(⟨s.data.toList.toArray⟩:ByteArray)=s:=by cases s;simp
  rw[H]at h;generalize (w.alloc (.cells a 5)).setRow w.heap.size (s.data.map fun b=>ι .u8 (b.toNat:Int))=w1 at*;have L:=Ab (Lib.below_freeze i (p:=⟨w.heap.size,0,ξ⟩) (ο _) s.size);clear o i J u l c r y H q;go_enter func64,ntmps64;go_wp2;go_ret;exact⟨rfl,Aa L⟩
def GR(s:ByteArray)(w:η)(c:s.size<=1048576):
  σ δ 33 #[ν s] w fun e w'=>e=ε (ν s)/\γ w.heap.size w w':=by
 go_enter func33,ntmps33;go_wp2_with fail;refine(jL s w c).mono ?_;rintro e w1 ⟨rfl,a⟩;have b:=Ab a;clear a;go_wp2;go_ret;exact⟨rfl,Aa b⟩
variable {ov:Bool}{k z:Int}{rs:List RV}{g B m:Nat}{F:Nat->Prop}{T:TypeId}{v0 v1 v2 v3 v4 v:κ}{w w':η}
def BG(T:TypeId)(w:η)(g:Nat)(v0 v1 v2 v3 v4:κ):Prop:=w.heap[g]? =θ (.cells #[v0,v1,v2,v3,v4] T (0,0))
def YW(T:TypeId)(w:η)(v0 v1 v2 v3 v4:κ):BG T (w.alloc (.cells #[v0,v1,v2,v3,v4] T)) w.heap.size v0 v1 v2 v3 v4:=by
 show(w.heap.push _)[w.heap.size]? =_;simp
def BG.lt(h:BG T w g v0 v1 v2 v3 v4):g<w.heap.size:=(Array.getElem?_eq_some_iff.1 h).1
def BG.belowB(h:BG T w g v0 v1 v2 v3 v4)(a:γ B w w')(b:g<B):BG T w' g v0 v1 v2 v3 v4:=(a.block g b).trans h
def BG.below(h:BG T w g v0 v1 v2 v3 v4)(a:γ w.heap.size w w'):BG T w' g v0 v1 v2 v3 v4:=h.belowB a h.lt
def BG.tu(h:BG T w g v0 v1 v2 v3 v4)(ht:Tu F w w')(a:¬F g):BG T w' g v0 v1 v2 v3 v4:=(ht.block g h.lt a).trans h
def BG.kept{row:Option Nat}(h:BG T w g v0 v1 v2 v3 v4)(b:w.grownBy w' row)(a:θ g≠row):BG T w' g v0 v1 v2 v3 v4:=(b.block g h.lt a).trans h
def BG.at(h:BG T w g v0 v1 v2 v3 v4):w.cell? ⟨g,0,ξ⟩=θ v0/\w.cell? ⟨g,1,ξ⟩=θ v1/\w.cell? ⟨g,2,ξ⟩=θ v2/\w.cell? ⟨g,3,ξ⟩=θ v3/\w.cell? ⟨g,4,ξ⟩=θ v4:=by
 unfold BG at h;refine⟨?_,?_,?_,?_,?_⟩<;>(rw[cell_of_row w g _ _ _ _ h];rfl)
def BG.frz(h:BG T w g v0 v1 v2 v3 v4)(i:Nat):w.frozen? ⟨g,i,ξ⟩=false:=by
 unfold BG at h;simp[World.frozen?,h]
def BG.set3(h:BG T w g v0 v1 v2 v3 v4)(u:κ):BG T (w.setCell ⟨g,3,ξ⟩ u) g v0 v1 v2 u v4:=heap_setCell_same w g 3 _ _ u h
def BG.set4(h:BG T w g v0 v1 v2 v3 v4)(u:κ):BG T (w.setCell ⟨g,4,ξ⟩ u) g v0 v1 v2 v3 u:=heap_setCell_same w g 4 _ _ u h
def Ak.tu(h:Ak w B v rs)(ht:Tu F w w')(e:∀j,v.ownBlock=θ j->¬F j):Ak w' B v rs:=by
 refine⟨h.1,?_⟩;rcases h.2 with d|⟨g,cap,b,c,f,a,r⟩
 ·exact .inl d
 ·exact .inr ⟨g,cap,b,c,f,(ht.block g (Array.getElem?_eq_some_iff.1 a).1 (e g (by rw[c];rfl))).trans a,r⟩
def Ak.blk5(h:Ak w B v rs)(b:v.ownBlock=θ g):∃a,w.heap[g]? =θ (.cells a 73 (0,0)):=by
 rcases h.2 with⟨rfl,_⟩|⟨g',cap,a,rfl,_,c,_⟩
 ·cases b
 ·simp only[Value.ownBlock,ζ]at b
  exact⟨a,b▸c⟩
def AD(w:η)(B:Nat)(rs:List RV):Prop:=∀r∈rs,Own w B (.slice r.a r.n r.c) r.xs
def AD.nil(w:η)(B:Nat):AD w B []:=fun r a=>by cases a
def AD.below(h:AD w B rs)(a:γ w.heap.size w w'):AD w' B rs:=fun r b=>(h r b).below a
def AD.mono{B':Nat}(h:AD w B rs)(a:B'<=B):AD w B' rs:=fun r b=>(h r b).mono a
def AD.snoc{r:RV}(h:AD w B rs)(d:Own w B (.slice r.a r.n r.c) r.xs):AD w B (rs++[r]):=fun x b=>by
 rcases List.mem_append.1 b with b|b
 ·exact h x b
 ·rw[List.mem_singleton.1 b];exact d
def AD.rows(h:AD w B rs):Ae w rs:=fun r b=>by
 obtain⟨a,c,e,i⟩:=(h r b).row;simp only[Value.slice.injEq]at e;obtain⟨d,f,j⟩:=e;exact⟨by rw[d,f];exact i,(h r b).cap⟩
def AD.tu(h:AD w B rs)(ht:Tu F w w')(c:∀j a,w.heap[j]? =θ (.cells a 265 (0,0))->¬F j):AD w' B rs:=fun r b=>
 (h r b).tu ht fun j e=>by
  obtain⟨a,d⟩:=(h r b).blkU e;exact c j a d
def Dk(g:Nat)(v:κ)(k:Nat):Prop:=k=g\/v.ownBlock=θ k
structure Ax(w:η)(g B:Nat)(k z:Int)(m:Nat)(v:κ)(rs:List RV)(ov:Bool):Prop where
 blk:BG 225 w g (U α k) (U α z) (U α (m:Int)) v (.bool ov)
 lo:B<=g
 own:Ak w B v rs
 rows:AD w B rs
 le:rs.length<=m
 most:m<=256
 short:Af rs
def Ax.below(h:Ax w g B k z m v rs ov)(a:γ w.heap.size w w'):Ax w' g B k z m v rs ov:=
 ⟨h.blk.below a,h.lo,h.own.below a,h.rows.below a,h.le,h.most,h.short⟩
def Ax.lt(h:Ax w g B k z m v rs ov):g<w.heap.size:=h.blk.lt
def Ax.low(h:Ax w g B k z m v rs ov):∀j,j<B->¬Dk g v j:=fun j b a=>by
 rcases a with rfl|a
 ·have:=h.lo;omega
 ·have:=(World.ownsRow.lt h.own j a).1;omega
def Ax.words(h:Ax w g B k z m v rs ov):∀j b,w.heap[j]? =θ (.cells b 265 (0,0))->¬Dk g v j:=fun j b a c=>by
 rcases c with rfl|c
 ·have:=h.blk
  unfold BG at this;rw[this]at a;simp only[ζ,Obj.cells.injEq]at a;exact absurd a.2.1 (by decide)
 ·obtain⟨d,e⟩:=h.own.blk5 c
  rw[e]at a;simp only[ζ,Obj.cells.injEq]at a;exact absurd a.2.1 (by decide)
def Ax.keeps(h:Ax w g B k z m v rs ov)(ht:Tu (Dk g v) w w')(a:B<=w.heap.size):γ B w w':=ht.below a h.low
def Ax.lob(h:Ax w g B k z m v rs ov):B<=w.heap.size:=Nat.le_of_lt (Nat.lt_of_le_of_lt h.lo h.lt)
def Ax.at(h:Ax w g B k z m v rs ov):∃a c,v=ρ a rs.length c/\Aj w a rs.length rs/\rs.length<=c/\c<=9223372036854775807:=h.own.rows h.rows.rows
def BX(k z:Int)(x:List Nat×ByteArray):Bool:=AX k x.1&&decide (0<cnt x.1)&&decide ((x.2.size:Int)=z)
def IR(k z:Int)(m:Nat)(L:List (List Nat×ByteArray))(x:List Nat×ByteArray):List (List Nat×ByteArray):=if BX k z x=true/\L.length<m then L++[x]else L
def IS(k z:Int)(m:Nat)(L:List (List Nat×ByteArray))(o:Bool)(x:List Nat×ByteArray):Bool:=if BX k z x=true/\¬L.length<m then true else o
def IQ(k z:Int)(m:Nat)(L:List (List Nat×ByteArray))(x:List Nat×ByteArray):Int:=if BX k z x=true then(if L.length<m then 0 else 5)else 1
def Af.snoc{r:RV}(h:Af rs)(c:r.n<=10)(d:r.s.size<=1000):Af (rs++[r]):=fun i=>by
 by_cases b:i<rs.length
 ·rw[β,List.getElem?_append_left b,<-β];exact h i
 ·by_cases a:i=rs.length
  ·rw[a,β,ς (ο _),Nat.sub_self];exact⟨c,d⟩
  ·rw[β,List.getElem?_eq_none (by rw[List.length_append,List.length_singleton];omega)];exact⟨π _,π _⟩
variable {ov:Bool}{k z:Int}{rs:List RV}{cs:List κ}{g B gs m:Nat}{T:TypeId}{v:κ}{w w':η}
def BkA(T:TypeId)(w:η)(g:Nat)(cs:List κ):Prop:=w.heap[g]? =θ (.cells cs.toArray T (0,0))
def AI(T:TypeId)(w:η)(cs:List κ):BkA T (w.alloc (.cells cs.toArray T)) w.heap.size cs:=by
 show(w.heap.push _)[w.heap.size]? =_;simp
def BkA.lt(h:BkA T w g cs):g<w.heap.size:=(Array.getElem?_eq_some_iff.1 h).1
def BkA.belowB(h:BkA T w g cs)(a:γ B w w')(b:g<B):BkA T w' g cs:=(a.block g b).trans h
def BkA.below(h:BkA T w g cs)(a:γ w.heap.size w w'):BkA T w' g cs:=h.belowB a h.lt
def BkA.at(h:BkA T w g cs)(i:Nat){v:κ}(a:cs[i]? =θ v):w.cell? ⟨g,i,ξ⟩=θ v:=by
 unfold BkA at h;rw[cell_of_row w g _ _ _ _ h];simpa using a
def BkA.frz(h:BkA T w g cs)(i:Nat):w.frozen? ⟨g,i,ξ⟩=false:=by
 unfold BkA at h;simp[World.frozen?,h]
def BkA.set(h:BkA T w g cs)(i:Nat)(v:κ):BkA T (w.setCell ⟨g,i,ξ⟩ v) g (cs.set i v):=by
 have:=heap_setCell_same w g i _ _ v h;rw[List.setIfInBounds_toArray]at this;exact this
def BkA.kept{row:Option Nat}(h:BkA T w g cs)(b:w.grownBy w' row)(a:θ g≠row):BkA T w' g cs:=(b.block g h.lt a).trans h
def BkA.tu{F:Nat->Prop}(h:BkA T w g cs)(ht:Tu F w w')(a:¬F g):BkA T w' g cs:=(ht.block g h.lt a).trans h
def BkA.ne{c:TypeId}{g':Nat}{a:Array κ}{d:Nat×Nat}(h:BkA T w g cs)(b:w.heap[g']? =θ (.cells a c d))(f:T≠c):g≠g':=fun e=>by
 subst e;unfold BkA at h;rw[h]at b;simp only[ζ,Obj.cells.injEq]at b;exact f b.2.1
def BkA.neS(h:BkA T w g cs)(d:Ak w B v rs)(b:T≠73):v.ownBlock≠θ g:=fun e=>by
 obtain⟨a,c⟩:=d.blk5 e;exact h.ne c b rfl
def BkA.neSt(h:BkA T w g cs)(b:Ax w gs B k z m v rs ov)(a:T≠225):g≠gs:=h.ne b.blk a
def BkA.outSt(h:BkA T w g cs)(b:Ax w gs B k z m v rs ov)(d:T≠225)(c:T≠73):¬Dk gs v g:=fun a=>by
 rcases a with a|a
 ·exact h.neSt b d a
 ·exact h.neS b.own c a
def A8(w:η)(g i:Nat)(u:κ):Tu (fun j=>j=g) w (w.setCell ⟨g,i,ξ⟩ u):=Tu.of_gb (Bz _ _ _ _) fun j _ e=>(Option.some.inj e).symm
def Ax.sets(a:Ax w gs B k z m v rs ov)(h:BkA T w g cs)(ht:Tu (fun j=>j=g) w w')(b:T≠225)(d:T≠73)(f:T≠265):Ax w' gs B k z m v rs ov:=
 ⟨a.blk.tu ht (fun e=>h.neSt a b e.symm),a.lo,a.own.tu ht (fun j l e=>h.outSt a b d (e▸ .inr l)),a.rows.tu ht (fun j c i e=>h.ne i f e.symm),a.le,a.most,a.short⟩
def BkA.setAll{us:List κ}(h:BkA T w g cs)(f:us.length=cs.length):BkA T (w.setCells g 0 us) g us:=by
 obtain⟨a,c,d,e⟩:=GK g T us 0 w cs.toArray h;unfold BkA;rw[c];have:a=us.toArray:=by
  apply Array.ext_getElem?;intro j;by_cases b:j<cs.length
  ·rw[e j (by simpa using b),if_pos (by omega)];simp
  ·rw[Array.getElem?_eq_none (by rw[d];simpa using b),Array.getElem?_eq_none (by simp;omega)]
 rw[this]
def Gq(n l h:Int)(w:η)(a:l<=n/\n<=h):σ δ 44 #[U α n,U α l,U α h] w fun e w'=>e=ε (.bool true)/\w'=w:=by
 obtain⟨b,c⟩:=a;go_enter func44,ntmps44;go_wp2;go_ret;exact⟨rfl,rfl⟩
def GX(n l h:Int)(w:η)(a:¬(l<=n/\n<=h)):σ δ 44 #[U α n,U α l,U α h] w fun e w'=>e=ε (.bool false)/\w'=w:=by
 by_cases b:l<=n
 ·have c:¬n<=h:=fun e=>a ⟨b,e⟩
  clear a;go_enter func44,ntmps44;go_wp2;go_ret;exact⟨rfl,rfl⟩
 ·clear a
  go_enter func44,ntmps44;go_wp2;go_ret;exact⟨rfl,rfl⟩
def rf(a:Option Addr)(n c:Nat)(xs:List Int)(id N:Int)(w:η)(h:IntzAt w a n xs)(hn:n<=9223372036854775807)(hN:1<=N/\N<=8)(ae:0<=id/\id<=8):
  σ δ 45 #[ρ a n c,U α id,U α N] w fun e w'=>((e=ε (.bool true)/\Bw xs id N)\/(e=ε (.bool false)/\¬Bw xs id N))/\γ w.heap.size w w':=by
 obtain rfl:=h.1;by_cases Y:N<=(xs.length:Int)
 ·have hd:decide (N<=(xs.length:Int))=true:=by simpa using Y
  clear h;go_enter func45,ntmps45;go_wp2;go_ret;exact⟨.inr ⟨rfl,fun h=>by have:=h.1;omega⟩,μ _ _⟩
 have hd:decide (N<=(xs.length:Int))=false:=by simpa using Y
 have O:(xs.length:Int)<N:=by omega
 have ad:IntKind.i64.wrap (N-1)=N-1:=by rw[IntKind.wrap_i64];omega
 have H:=Ab h;clear h;go_enter func45,ntmps45;go_wp2;go_loopw [7] (fun i wr=> ∃k:Nat,k<=xs.length/\i=U α k/\Hid (γ w.heap.size w wr)/\Hid (∀j,j<k->(0<=xs.getD j 0/\xs.getD j 0<=N-1)/\xs.getD j 0≠id/\∀k,k<j->xs.getD k 0≠xs.getD j 0)) (fun i _=>xs.length-(intOf i).toNat)
 case atStart=>exact⟨0,π _,rfl,Ab (μ _ _),Ab (fun j W=>by omega)⟩
 case round=>
  obtain⟨k,hk,rfl,I,C⟩:=hrel;by_cases l:k<xs.length
  ·have Z:(k:Int)<(xs.length:Int):=by omega
   obtain⟨b,off,rfl,D⟩:=((Aa H).below (Aa I)).at l;have o:=D k l;clear D;have d:(¬((0<=xs.getD k 0/\xs.getD k 0<=N-1)/\xs.getD k 0≠id/\∀q,q<k->xs.getD q 0≠xs.getD k 0))->¬Bw xs id N:=fun e p=>e (p.2 k l);have d:=Ab d;by_cases r:0<=xs.getD k 0/\xs.getD k 0<=N-1
   case neg=>
    have u:=Ab ((Aa d) fun p=>r p.1);generalize xs.getD k 0=x at*
    go_wp2_with (first
     |(go_at_call 44;refine(GX _ _ _ _ r).mono ?_;rintro e w1 ⟨rfl,f⟩;obtain rfl:=f.symm;clear f)
     |fail)
    go_ret;exact⟨.inr ⟨rfl,Aa u⟩,Aa I⟩
   case pos=>
    by_cases A:xs.getD k 0=id
    ·have u:=Ab ((Aa d) fun p=>p.2.1 A)
     rw[A]at o r;clear A d C
     go_wp2_with (first
      |(go_at_call 44;refine(Gq _ _ _ _ r).mono ?_;rintro e w1 ⟨rfl,f⟩;obtain rfl:=f.symm;clear f)
      |fail)
     go_ret;exact⟨.inr ⟨rfl,Aa u⟩,Aa I⟩
    ·obtain⟨x,X⟩:∃x,xs.getD k 0=x:=⟨_,rfl⟩
     have Q:=Ab X;have J:=Ab (show(0<=xs.getD k 0/\xs.getD k 0<=N-1)/\xs.getD k 0≠id from⟨r,A⟩);rw[X]at o r A;have S:(x==id)=false:=by rw[beq_eq_false_iff_ne];exact A
     clear X A
     go_wp2_with (first
      |(go_at_call 44;refine(Gq _ _ _ _ r).mono ?_;rintro e w1 ⟨rfl,f⟩;obtain rfl:=f.symm;clear f)
      |fail)
     clear o;go_loopw [8] (fun i wi=> ∃q:Nat,q<=k/\i=U α q/\Hid (γ w.heap.size w wi)/\Hid (∀j,j<q->xs.getD j 0≠xs.getD k 0)) (fun i _=>k-(intOf i).toNat)
     case atStart=>exact⟨0,π _,rfl,I,Ab (fun j W=>by omega)⟩
     case round=>
      obtain⟨q,hq,rfl,s,K⟩:=hrel;by_cases P:q<k
      ·have aa:(q:Int)<(k:Int):=by omega
       obtain⟨b',ac,L,D⟩:=((Aa H).below (Aa s)).at l;simp only[ζ,Addr.mk.injEq,and_true]at L;obtain⟨rfl,rfl⟩:=L;have o:=D k l;rw[Aa Q]at o;have V:=D q (by omega);clear D;have af:q<xs.length:=by omega
       have ab:(q:Int)<(xs.length:Int):=by omega
       by_cases E:xs.getD q 0=x
       ·have u:=Ab ((Aa d) fun p=>p.2.2 q P (E.trans (Aa Q).symm))
        rw[E]at V;clear E d K C J Q S r;go_wp2;go_region
        all_goals go_wp2
        go_ret;exact⟨.inr ⟨rfl,Aa u⟩,(Aa s).drew⟩
       ·have R:=Ab (show∀j,j<q+1->xs.getD j 0≠xs.getD k 0 from fun j W=>by
         by_cases e:j=q
         ·rw[e,Aa Q];exact E
         ·exact Aa K j (by omega))
        have e3:(xs.getD q 0==x)=false:=by rw[beq_eq_false_iff_ne];exact E
        clear E d K C J S r;generalize xs.getD q 0=y at*;go_wp2;go_region
        all_goals go_wp2
        go_roundw
        case rel=>exact⟨q+1,P,by go_num,Ab (Aa s).drew,R⟩
        case measure=>simp[intOf];omega
      ·obtain rfl:q=k:=by omega
       have HS:=Ab (show∀j,j<q+1->(0<=xs.getD j 0/\xs.getD j 0<=N-1)/\xs.getD j 0≠id/\∀k,k<j->xs.getD k 0≠xs.getD j 0 from fun j W=>by
        by_cases e:j=q
        ·rw[e];exact⟨(Aa J).1,(Aa J).2,Aa K⟩
        ·exact Aa C j (by omega))
       clear d K C J S r;go_wp2;go_roundw
       case rel=>exact⟨q+1,l,by go_num,s,HS⟩
       case measure=>simp[intOf];omega
  ·have u:=Ab (show Bw xs id N from⟨O,fun i hi=>Aa C i (by omega)⟩)
   go_wp2;go_ret;exact⟨.inl ⟨rfl,Aa u⟩,Aa I⟩
def rS(f:A1)(w:η)(j:f.n<=9223372036854775807)(h:¬LD f):σ δ 26 #[f.val] w fun e w'=>e=ε (U α 1)/\γ w.heap.size w w':=by
 obtain⟨a,n,c,ds,obj,size,spread,buffer,queue,cache,rate,timeout,target⟩:=f;simp only[A1.val]at j⊢;have d:=Ab (As w (.cells #[ρ a n c,ν obj,U α size,U α spread,U α buffer,U α queue,U α cache,.float .f64 rate,U α timeout,U α target] 25));have i:=Ab h;clear h;by_cases u:(1<=(n:Int)/\(n:Int)<=8)
 case neg=>
  go_enter func26,ntmps26
  go_wp2_with (first
   |(go_at_call 44;first|(refine(Gq _ _ _ _ (by assumption)).mono ?_;rintro e w1 ⟨rfl,b⟩;obtain rfl:=b.symm;clear b)|(refine(GX _ _ _ _ (by assumption)).mono ?_;rintro e w1 ⟨rfl,b⟩;obtain rfl:=b.symm;clear b))
   |fail)
  go_ret;exact⟨rfl,Aa d⟩
 by_cases l:(0<=spread/\spread<=128)
 case neg=>
  go_enter func26,ntmps26
  go_wp2_with (first
   |(go_at_call 44;first|(refine(Gq _ _ _ _ (by assumption)).mono ?_;rintro e w1 ⟨rfl,b⟩;obtain rfl:=b.symm;clear b)|(refine(GX _ _ _ _ (by assumption)).mono ?_;rintro e w1 ⟨rfl,b⟩;obtain rfl:=b.symm;clear b))
   |fail)
  go_ret;exact⟨rfl,Aa d⟩
 by_cases o:(1<=buffer/\buffer<=256)
 case neg=>
  go_enter func26,ntmps26
  go_wp2_with (first
   |(go_at_call 44;first|(refine(Gq _ _ _ _ (by assumption)).mono ?_;rintro e w1 ⟨rfl,b⟩;obtain rfl:=b.symm;clear b)|(refine(GX _ _ _ _ (by assumption)).mono ?_;rintro e w1 ⟨rfl,b⟩;obtain rfl:=b.symm;clear b))
   |fail)
  go_ret;exact⟨rfl,Aa d⟩
 by_cases p:(1<=queue/\queue<=256)
 case neg=>
  go_enter func26,ntmps26
  go_wp2_with (first
   |(go_at_call 44;first|(refine(Gq _ _ _ _ (by assumption)).mono ?_;rintro e w1 ⟨rfl,b⟩;obtain rfl:=b.symm;clear b)|(refine(GX _ _ _ _ (by assumption)).mono ?_;rintro e w1 ⟨rfl,b⟩;obtain rfl:=b.symm;clear b))
   |fail)
  go_ret;exact⟨rfl,Aa d⟩
 by_cases q:(0<=cache/\cache<=256)
 case neg=>
  go_enter func26,ntmps26
  go_wp2_with (first
   |(go_at_call 44;first|(refine(Gq _ _ _ _ (by assumption)).mono ?_;rintro e w1 ⟨rfl,b⟩;obtain rfl:=b.symm;clear b)|(refine(GX _ _ _ _ (by assumption)).mono ?_;rintro e w1 ⟨rfl,b⟩;obtain rfl:=b.symm;clear b))
   |fail)
  go_ret;exact⟨rfl,Aa d⟩
 by_cases r:(0<=timeout/\timeout<=1048576)
 case neg=>
  go_enter func26,ntmps26
  go_wp2_with (first
   |(go_at_call 44;first|(refine(Gq _ _ _ _ (by assumption)).mono ?_;rintro e w1 ⟨rfl,b⟩;obtain rfl:=b.symm;clear b)|(refine(GX _ _ _ _ (by assumption)).mono ?_;rintro e w1 ⟨rfl,b⟩;obtain rfl:=b.symm;clear b))
   |fail)
  go_ret;exact⟨rfl,Aa d⟩
 by_cases s:(1<=target/\target<=128)
 case neg=>
  go_enter func26,ntmps26
  go_wp2_with (first
   |(go_at_call 44;first|(refine(Gq _ _ _ _ (by assumption)).mono ?_;rintro e w1 ⟨rfl,b⟩;obtain rfl:=b.symm;clear b)|(refine(GX _ _ _ _ (by assumption)).mono ?_;rintro e w1 ⟨rfl,b⟩;obtain rfl:=b.symm;clear b))
   |fail)
  go_ret;exact⟨rfl,Aa d⟩
 exact absurd (show LD ⟨a,n,c,ds,obj,size,spread,buffer,queue,cache,rate,timeout,target⟩ from⟨⟨by show 1<=n;omega,by show n<=8;omega⟩,l,o,p,q,r,s⟩) (Aa i)
def rR(f:A1)(w:η)(h:BN w f):σ δ 26 #[f.val] w fun e w'=> ∃en:Int,e=ε (U α en)/\Bm f en/\γ w.heap.size w w':=by
 by_cases R:LD f
 case neg=>exact(rS f w h.len R).mono fun e w' ⟨he,hb⟩=>⟨1,he,.inr ⟨fun k=>R k.1,rfl⟩,hb⟩
 have E:=Ab (show∀f':A1,f'=f->∀en,Bm f' en->Bm f en from fun f' e en k=>e▸k);obtain⟨a,n,c,ds,obj,size,spread,buffer,queue,cache,rate,timeout,target⟩:=f;have ad:=R;obtain⟨Y,k1,k2,k3,k4,k5,k6⟩:=ad;have k0:1<=(n:Int)/\(n:Int)<=8:=by have k9:1<=n/\n<=8:=Y;omega
 replace k1:0<=spread/\spread<=128:=k1;replace k2:1<=buffer/\buffer<=256:=k2;replace k3:1<=queue/\queue<=256:=k3;replace k4:0<=cache/\cache<=256:=k4;replace k5:0<=timeout/\timeout<=1048576:=k5;replace k6:1<=target/\target<=128:=k6;have ho:obj.size<=9223372036854775807:=h.obj;have HB:=Ab (As w (.cells #[ρ a n c,ν obj,U α size,U α spread,U α buffer,U α queue,U α cache,.float .f64 rate,U α timeout,U α target] 25));have HX:=Ab (AI 25 w [ρ a n c,ν obj,U α size,U α spread,U α buffer,U α queue,U α cache,.float .f64 rate,U α timeout,U α target]);have HD:=Ab (BD.below h.nds (Aa HB));have ab:=Ab h.tos;have aa:=Ab (fun wx=>mX (obj.size:Int) size wx (by omega));have u:=Ab R;clear R h E Y;unfold A1.val;go_enter func26,ntmps26
 go_wp2_with (first
  |(go_at_call 44;first|(refine(Gq _ _ _ _ (by assumption)).mono ?_;rintro e w1 ⟨rfl,l⟩;obtain rfl:=l.symm;clear l)|(refine(GX _ _ _ _ (by assumption)).mono ?_;rintro e w1 ⟨rfl,l⟩;obtain rfl:=l.symm;clear l))
  |fail)
 generalize w.alloc (.cells #[ρ a n c,ν obj,U α size,U α spread,U α buffer,U α queue,U α cache,.float .f64 rate,U α timeout,U α target] 25)=W at*;have HW:=Ab (μ W.heap.size W);go_loopw [4,5] (fun s i wr=> ∃k:Nat,k<=n/\i=U α k/\s=U α (srcN ds k:Nat)/\Hid (γ W.heap.size W wr)/\Hid (∀j,j<k->(1<=(ds.getD j .dflt).kd/\(ds.getD j .dflt).kd<=3)/\Bw (ds.getD j .dflt).tos j n)) (fun _ i _=>n-(intOf i).toNat)
 case atStart=>exact⟨0,π _,rfl,rfl,HW,Ab (fun j hj=>by omega)⟩
 case round=>
  obtain⟨k,hk,rfl,rfl,D,L⟩:=hrel;rename_i wr;have V:=(Aa HX).below (Aa D);have h0:=V.at 0 rfl;have h1:=V.at 1 rfl;have h2:=V.at 2 rfl;have ac:=Ab V;have A:=Ab (Ad (Aa HB) (Aa D));clear V;have ag:=Xw ds k;by_cases o:k<n
  ·have af:(k:Int)<(n:Int):=by omega
   have hd:=(Aa HD).below (Aa D);obtain⟨b,off,ha,hc⟩:=hd.at o;obtain⟨J,ae⟩:=hc k o;have S:=hd.2.1 k o;have HT:=Ab (rf _ _ (ds.getD k .dflt).c _ (k:Int) (n:Int) _ S ((Aa ab) k o).1 k0 (by omega));have H:=Ab (show(¬((1<=(ds.getD k .dflt).kd/\(ds.getD k .dflt).kd<=3)/\Bw (ds.getD k .dflt).tos k n))->Bm ⟨a,n,c,ds,obj,size,spread,buffer,queue,cache,rate,timeout,target⟩ 1 from fun e=>.inr ⟨fun p=>e (p.2.1 k o),rfl⟩);have x:=Ab (show srcN ds (k+1)=srcN ds k+if (ds.getD k .dflt).kd=1 then 1 else 0 from rfl)
   have I:=Ab (fun(e:(1<=(ds.getD k .dflt).kd/\(ds.getD k .dflt).kd<=3)/\Bw (ds.getD k .dflt).tos k n)=>show∀j,j<k+1->(1<=(ds.getD j .dflt).kd/\(ds.getD j .dflt).kd<=3)/\Bw (ds.getD j .dflt).tos j n from fun j hj=>by
    by_cases q:j=k
    ·rw[q];exact e
    ·exact Aa L j (by omega))
   have Z:=Ab (fun wx (hb:γ wr.heap.size wr wx)=>show wx.cell? ⟨b,off+k*2,ξ⟩=θ (U α (ds.getD k .dflt).kd) from(hb.cell (p:=⟨b,off+k*2,ξ⟩) (World.block_lt_of_cell? wr _ J)).trans J);have HA:=Ab ha;subst ha;clear hc S hd HA;generalize ds.getD k .dflt=d at*;obtain⟨s1,K⟩:∃s1,srcN ds (k+1)=s1:=⟨_,rfl⟩;rw[K]at x;have P:=Ab K;clear K;generalize srcN ds k=s0 at*;by_cases N:1<=d.kd/\d.kd<=3
   case neg=>
    have E:=Ab ((Aa H) fun p=>N p.1)
    go_wp2_with (first
     |(go_at_call 44;refine(GX _ _ _ _ N).mono ?_;rintro e w1 ⟨rfl,l⟩;obtain rfl:=l.symm;clear l)
     |fail)
    go_ret;exact⟨1,rfl,Aa E,Aa A⟩
   case pos=>
    go_wp2_with (first
     |(go_at_call 44;refine(Gq _ _ _ _ N).mono ?_;rintro e w1 ⟨rfl,l⟩;obtain rfl:=l.symm;clear l)
     |fail)
    refine(Aa HT).mono ?_;rintro e w2 ⟨⟨rfl,y⟩|⟨rfl,y⟩,r⟩
    ·have X:=(Aa ac).below r
     have g0:=X.at 0 rfl;have gk:=Aa Z _ r;have C:=Ab (Ad (Aa D) r);have Q:=Ab (Aa I ⟨N,y⟩);clear X h0 h1 h2 J ae H I L y r;by_cases O:d.kd=1
     ·have hs:s1=s0+1:=by rw[Aa x,if_pos O]
      rw[O]at gk;clear N O x;go_wp2;go_roundw
      case rel=>exact⟨k+1,o,by go_num,by rw[Aa P,hs];go_num,C,Q⟩
      case measure=>simp[intOf];omega
     ·have hs:s1=s0:=by rw[Aa x,if_neg O,Nat.add_zero]
      have e2:(d.kd==1)=false:=by rw[beq_eq_false_iff_ne];exact O
      clear N O x;go_wp2;go_roundw
      case rel=>exact⟨k+1,o,by go_num,by rw[Aa P,hs],C,Q⟩
      case measure=>simp[intOf];omega
    ·have E:=Ab ((Aa H) fun p=>y p.2)
     have C:=Ab (Ad (Aa A) r);clear H I L y r;go_wp2;go_ret;exact⟨1,rfl,Aa E,Aa C⟩
  ·obtain rfl:k=n:=by omega
   by_cases q:srcN ds k=1
   ·have E:=Ab (show Bm ⟨a,k,c,ds,obj,size,spread,buffer,queue,cache,rate,timeout,target⟩ (planE obj.size size) from .inl ⟨⟨Aa u,Aa L,q⟩,rfl⟩)
    rw[q];clear L q u
    go_wp2_with (first
     |(go_at_call 46;refine(Aa aa _).mono ?_;rintro e w1 ⟨rfl,l⟩;obtain rfl:=l.symm;clear l)
     |fail)
    go_ret;exact⟨_,rfl,Aa E,Aa A⟩
   ·have E:=Ab (show Bm ⟨a,k,c,ds,obj,size,spread,buffer,queue,cache,rate,timeout,target⟩ 1 from .inr ⟨fun p=>q p.2.2,rfl⟩)
    have e2:(((srcN ds k:Nat):Int) !=1)=true:=by simp;omega
    clear L q u;go_wp2;go_ret;exact⟨1,rfl,Aa E,Aa A⟩
end Go.Proofs.YtfpmnekaockodaaGreatDoor
