/- Laws for the proof. -/
import Derived.Test.YtfpmnekaockodaaGreatDoorU6
import Derived.ProofKit
import Derived.OpenShut
import Derived.ShutString
import Derived.ChangeOld
import Derived.ChangeMaps5
import Derived.SliceStrings
import Derived.Deep.SlicePairs
import Derived.Deep.DeepHandedRow
import Derived.Lib.LaidTab
import Derived.Below
import Derived.Lib.BitFns
import Derived.Laws.Cover2
set_option linter.all false
open Go.Proofs.Tryz
open List renaming getD_eq_getElem?_getD->U,getElem?_eq_getElem->δ
open Go.Proofs.Tryz renaming prog->β
open Go.DataW renaming trod->γ,trod_struct->υ
open Go.IntKind renaming i64->ε
open List.cons renaming injEq->ζ
open Go renaming World->η,Value->ο
open Nat renaming le_refl->θ,div_le_self->ι,mul_le_mul_right->ξ,lt_or_ge->ρ,add_mul->ς,mul_le_mul->σ,le_trans->τ,zero_le->φ,one_mul->χ,mod_lt->ψ
open Option renaming none->κ,some->μ
open Go.World renaming block_lt_of_cell?->ν,cell?_spot->π
namespace Go.Proofs.YtfpmnekaockodaaGreatDoor
open Go.ChangeShapes Go.WideShapes Go.ChangeAt Go.RowKit
set_option maxRecDepth 4000
set_option maxHeartbeats 8000000
variable {fuel:Nat}{H:Type}{v:ο}{W:η}
def own:ownKnob Tryz.prog.godebug=κ:=by kernel_rfl
def W0:laidOutB β=true:=by kernel_rfl
def Rz : Tryz.prog.globalNamed "math/bits.deBruijn64tab" = μ 2 := by kernel_rfl
def qo:(Tryz.prog.globals[2]?).map (·.type)=μ 385:=by kernel_rfl
def om:Tryz.prog.cellsOf 385=64:=by kernel_rfl
def Z5:Tryz.prog.cellsOf 5=1:=by kernel_rfl
def XN {W : η} (h : laidMetH β Rows.netChecksRow.laid W) : Lib.TabIs β W "math/bits.deBruijn64tab" .u8 (Lib.deBruijn64tab.map fun (x : Nat) => (x : Int)) :=
 Lib.tabIs_of_head (rest:=_) Rz qo underlying385 underlying5 Z5 om h
def cO(h:laidMetH β Rows.netChecksRow.laid W):Tab W:=by
 intro i b;have c:(Lib.deBruijn64tab.map fun(x:Nat)=>(x:Int)).length=64:=by decide
 have:=(XN h).cell Rz i (by omega);rw[this];have a:Lib.deBruijn64tab.length=64:=by decide
 have e:i<Lib.deBruijn64tab.length:=by omega
 simp[U,δ e]
def Ix(b off i:Nat):(⟨b,off,κ⟩:Addr).add i=⟨b,off+i,κ⟩:=by
 unfold Addr.add;split
 ·rename_i h;simp_all
 ·rfl
def K4{n:Nat}(h:n<=maxLen):n<=9223372036854775807:=by simpa [maxLen]using h
def mU{enc:TypeId×ο->H}{x:DataW H×List MemPlace}
  (h:γ enc β W 0 (fun _=>true) true fuel 40 [v]=μ x):∃a len cap xs,v=.slice a len cap/\RowAt W a len xs/\len<=9223372036854775807/\len<=cap:=by
 rcases open_ints underlying40 underlying265 (by kernel_rfl) h with⟨e,_⟩|⟨x,l,c,f,e,_,B,C,E,_,d,o⟩
 ·simp only[ζ,and_true]at e
  exact⟨_,_,_,[],e,⟨rfl,(fun _ h=>by cases h),.inl rfl⟩,by decide,θ _⟩
 ·simp only[ζ,and_true]at e
  have J:f.length=c:=by simpa using E
  have p:∀z∈f,0<=z/\z<18446744073709551616:=by
   intro z k;have:=bounds_u64 (o z k);omega
  refine⟨_,_,_,(f.take l).map Int.toNat,e,⟨by simp;omega,?_,?_⟩,by have:=K4 C;omega,B⟩
  ·intro y D
   obtain⟨z,k,rfl⟩:=List.mem_map.1 D;have:=p z (List.mem_of_mem_take k);show z.toNat<18446744073709551616;omega
  ·by_cases s:l=0
   ·exact .inl s
   ·obtain⟨b,off,n⟩:=x
    have u:=d 0 (by omega);have j:n=κ:=by simpa [Addr.add]using π u
    subst j;refine .inr ⟨b,off,rfl,fun i A=>?_⟩;have m:=d i (by omega);rw[Ix]at m;rw[m];have g:i<f.length:=by omega
    have I:=p f[i] (List.getElem_mem g);have q:f.getD i 0=f[i]:=by simp[U,δ g]
    have r:((f.take l).map Int.toNat).getD i 0=f[i].toNat:=by
     simp[U,A,δ g]
    rw[q,r];rw[show((f[i].toNat:Nat):Int)=f[i] by omega]
def XK{enc:TypeId×ο->H}{x:DataW H×List MemPlace}
  (h:γ enc β W 0 (fun _=>true) true fuel 9 [v]=μ x):∃s,v=.string s/\s.size<=9223372036854775807:=by
 cases fuel with
 |zero=>simp[γ]at h
 |succ fuel=>
  cases v<;>simp[γ,underlying9]at h;exact⟨_,rfl,K4 h.1⟩
def EW{enc:TypeId×ο->H}{x:DataW H×List MemPlace}
  (h:γ enc β W 0 (fun _=>true) true fuel 3 [v]=μ x):∃a,v=.int ε a:=by
 cases fuel with
 |zero=>simp[γ]at h
 |succ fuel=>
  cases v<;>simp[γ,underlying3]at h;obtain⟨⟨rfl,_⟩,_⟩:=h;exact⟨_,rfl⟩
def Dr{α:Type}{l:List α}{i:Nat}(h:i<l.length):∃y,l[i]? =μ y:=⟨_,δ h⟩
variable {z:Nat}{w:η}
def XI(a:Option Addr)(n c:Nat)(xs:List Int)(w:η)(h:IntzAt w a n xs)(C:n<=1048576)(A:sumZ xs<=4611686018427387904):
  Calls β 230 #[.slice a n c] w fun e w'=>e=.returned (.int ε ((sumZ xs:Nat):Int))/\w'=w:=by
 obtain rfl:n=xs.length:=h.1.symm;obtain⟨S,g⟩:∃S,sumZ xs=S:=⟨_,rfl⟩;have j:=Ab (show sumZ (xs.take xs.length)=S by rw[List.take_length];exact g);have l:=Ab (fun k=>τ (N0 xs k) (Nat.le_of_eq g));have o:=Ab (fun k u=>O3 xs k u);rw[g]at A⊢;clear g;go_enter func230,ntmps230;go_wp2;go_loop [3,8] (fun t i=> ∃k q:Nat,k<=xs.length/\i=.int ε k/\t=.int ε (q:Int)/\Hid (q=sumZ (xs.take k))) (fun _ i=>xs.length-(intOf i).toNat)
 case atStart=>exact⟨0,0,φ _,rfl,rfl,Ab rfl⟩
 case round=>
  obtain⟨k,q,u,rfl,rfl,f⟩:=hrel;by_cases d:k<xs.length
  ·obtain⟨b,off,rfl,s⟩:=h.at d
   have p:=s k d;have ht:=Aa o k d;have r:=Aa l (k+1);rw[<-Aa f]at ht;rw[ht]at r;have m:=Ab ht;clear s h o l j f ht;generalize xs.getD k 0=x at*;have B:=Wk x;generalize x.toNat=z at*;go_wp2;go_round
   case rel=>exact⟨k+1,q+z,by omega,by go_num,by go_num,Ab (Aa m).symm⟩
   case measure=>simp[intOf];omega
  ·obtain rfl:k=xs.length:=by omega
   have y:=Ab ((Aa f).trans (Aa j));clear h o l j f;go_wp2;go_ret;exact⟨Cu (by rw[Aa y]),rfl⟩
def Yn(l:List Int)(k:Nat)(a:k<l.length):(l.getD k 0).toNat<=sumZ l:=by
 have b:=O3 l k a;have c:=N0 l (k+1);omega
def nV(a:Option Addr)(n c:Nat)(xs:List Int)(d:Nat)(w:η)(h:IntzAt w a n xs)(T:n<=1048576)(K:sumZ xs<=4611686018427387904)(Y:d<18446744073709551616):
  Calls β 193 #[.slice a n c,.int .u64 (d:Int)] w fun e w'=>e=.returned (.int ε ((pickD xs d:Nat):Int))/\w'=w:=by
 have l:=Ab (XI a n c xs w h T K);obtain rfl:n=xs.length:=h.1.symm;obtain⟨S,m⟩:∃S,sumZ xs=S:=⟨_,rfl⟩;obtain⟨R,q⟩:∃R,pickD xs d=R:=⟨_,rfl⟩;have r:=Ab (fun(O:S=0)=>q.symm.trans (ir (m.trans O) d));have p:=Ab (fun(P:S≠0)=>q.symm.trans (Tk (by rw[m];exact P) d));have E:=Ab (fun k J=>τ (Yn xs k J) (Nat.le_of_eq m));rw[m]at K l p;rw[q];clear m q;by_cases L:S=0
 ·subst L
  have g:=Ab (Aa r rfl);clear r p h;go_enter func193,ntmps193;go_wp2_with (go_at_call 230;refine(Aa l).mono ?_;rintro e w1 ⟨rfl,D⟩;obtain rfl:=D.symm);go_ret;exact⟨Cu (by rw[Aa g];rfl),rfl⟩
 ·have g:=Ab (Aa p L)
  have Q:d%S<S:=ψ _ (by omega);have C:(d:Int)%(S:Int)=((d%S:Nat):Int):=by simp
  have X:((S:Int)==0)=false:=by simp;omega
  clear r p;generalize d%S=N at*;go_enter func193,ntmps193;go_wp2_with (go_at_call 230;refine(Aa l).mono ?_;rintro e w1 ⟨rfl,D⟩;obtain rfl:=D.symm);go_loop [6,20] (fun t i=> ∃k x:Nat,k<=xs.length/\i=.int ε k/\t=.int .u64 (x:Int)/\x<=N/\Hid (R=Ez (xs.drop k) k x)) (fun _ i=>xs.length-(intOf i).toNat)
  case atStart=>exact⟨0,N,φ _,rfl,by first|rfl|rw[C],θ _,Ab (Aa g)⟩
  case round=>
   obtain⟨k,x,J,rfl,rfl,hx,j⟩:=hrel;by_cases f:k<xs.length
   ·obtain⟨b,off,rfl,I⟩:=h.at f
    have A:=I k f;have u:=Ab (fun B=>(Aa j).trans (mh xs k x f B));have s:=Ab (fun B=>(Aa j).trans (sQ xs k x f B));clear I h j g l;have V:=Aa E k f;clear E;generalize xs.getD k 0=y at*;have Z:=Wk y;generalize y.toNat=z at*;by_cases o:x<z
    ·have g:=Ab (Aa u o)
     clear u s;go_wp2;go_ret;exact⟨Cu (by rw[Aa g];go_num),rfl⟩
    ·have g:=Ab (Aa s o)
     clear u s;go_wp2;go_round
     case rel=>exact⟨k+1,x-z,by omega,by go_num,by go_num,by omega,g⟩
     case measure=>simp[intOf];omega
   ·obtain rfl:k=xs.length:=by omega
    have g:=Ab ((Aa j).trans (mg xs _ _));clear h j l;go_wp2;go_ret;exact⟨Cu (by rw[Aa g];rfl),rfl⟩
def DG(w:η):Prop:=∀i,i<127->w.cell? ⟨1,i,κ⟩=μ (.int .u32 ((1048576/((i+2)*(i+1)):Nat):Int))
def DG.below{w':η}(h:DG w)(b:Below w.heap.size w w'):DG w':=fun i a=>(b.cell (ν w _ (h i a))).trans (h i a)
def lC(x:Nat)(a:x<256):Lib.bitLen x=bitLen x:=by
 have h:∀j:Fin 256,Lib.bitLen j.val=bitLen j.val:=by decide+kernel
 exact h ⟨x,a⟩
def qE(x:Nat)(a:x<256):Lib.len8 (x:Int)=((bitLen x:Nat):Int):=by
 rw[Lib.len8_of (x:Int) (by omega) (by omega),Int.toNat_natCast,lC x a]
set_option maxRecDepth 100000 in
def jk(x:Nat)(b:x<256)(w:η):
  Calls β 295 #[.int .u64 (x:Int)] w fun e w'=>e=.returned (.int ε ((bitLen x:Nat):Int))/\w'=w:=by
 have H:=qE x b;have c:=fun W=>Lib.run_index_len8tab (P:=β) W 9 .u8 (x:Int) underlying9 (by omega) (by omega);rw[H]at c;clear H;have j:((bitLen x:Nat):Int)<=8:=by have:=bitLen_le8 x b;omega
 have i:(x:Int)<=255:=by omega
 generalize bitLen x=z at*;clear b;go_enter func295,ntmps295;generalize f:ByteArray.mk (List.toArray _)=T at*;have a:T=Lib.len8tab:=f.symm.trans (by kernel_rfl);clear f;rw[<-a]at c;clear a;generalize d:bodyPost _ _ _=Q at*;have g:=Ab d;clear d
 iterate 20 go_step
 refine wp_cond_split rfl (fun h=>?_) (fun h=>?_)
 ·exact absurd (of_decide_eq_true h) (by omega)
 clear h
 iterate 15 go_step
 refine wp_cond_split rfl (fun h=>?_) (fun h=>?_)
 ·exact absurd (of_decide_eq_true h) (by omega)
 clear h
 iterate 15 go_step
 refine wp_cond_split rfl (fun h=>?_) (fun h=>?_)
 ·exact absurd (of_decide_eq_true h) (by omega)
 clear h;go_wp2;rw[<-Aa g];go_ret;exact⟨rfl,rfl⟩
def XH(x:Nat)(b:x<256)(w:η):
  Calls β 267 #[.int .u64 (x:Int)] w fun e w'=>e=.returned (.int ε ((bitLen x:Nat):Int))/\w'=w:=by
 have H:=Ab (jk x b w);generalize bitLen x=z at*;go_enter func267,ntmps267;go_wp2_with (go_at_call 295;refine(Aa H).mono ?_;rintro e w1 ⟨rfl,a⟩;obtain rfl:=a.symm);go_ret;exact⟨rfl,rfl⟩
def pW(k d:Nat)(n:1<=k)(h:k<=128)(m:1<=d)(f:d<=128)(w:η)(ht:DG w):
  Calls β 231 #[.int ε (k:Int),.int ε (d:Int)] w fun e w'=>e=.returned (.int ε ((baseN k d:Nat):Int))/\w'=w:=by
 by_cases c:d=1
 ·subst c
  have l:(1048576:Int)/(k:Int)=((1048576/k:Nat):Int):=by simp
  have b:=ι 1048576 k;rw[jb];have j:(1:Int)<=(k:Int):=by omega
  generalize 1048576/k=q at*;clear ht;go_enter func231,ntmps231;go_wp2;go_ret;exact⟨Cu (by first|rfl|rw[l]),rfl⟩
 ·rw[gl c]
  obtain⟨i,rfl⟩:∃i,d=i+2:=⟨d-2,by omega⟩;have a:=ht i (by omega);rw[show(i+2)*(i+2-1)=(i+2)*(i+1) from rfl];have b:=ι 1048576 ((i+2)*(i+1));have g:((i+2:Nat):Int)-2=(i:Int):=by omega
  generalize 1048576/((i+2)*(i+1))=q at*;clear ht;go_enter func231,ntmps231;go_wp2;go_ret;exact⟨rfl,rfl⟩
def pp(k s d:Nat)(A:1<=k)(i:k<=128)(x:1<=d)(g:d<=128)(J:s<=128)(w:η):
  Calls β 232 #[.int ε (k:Int),.int ε (s:Int),.int ε (d:Int)] w fun e w'=>e=.returned (.int ε ((moreN k s d:Nat):Int))/\w'=w:=by
 by_cases a:s=0
 ·subst a
  rw[iV];go_enter func232,ntmps232;go_wp2;go_ret;exact⟨rfl,rfl⟩
 ·have K:(1:Int)<=(s:Int):=by omega
  have D:(1:Int)<=(k:Int):=by omega
  have y:(1:Int)<=(d:Int):=by omega
  have O:(k:Int)/(s:Int)=((k/s:Nat):Int):=by simp
  have E:=ι k s;by_cases b:d<k/s
  ·rw[jZ a b]
   have B:k*d<=128*128:=σ i g;have r:1*1<=k*d:=σ A x;have l:(k:Int)*(d:Int)=((k*d:Nat):Int):=by simp
   have n:(1048576*s:Int)/((k*d:Nat):Int)=((1048576*s/(k*d):Nat):Int):=by simp
   have j:=ι (1048576*s) (k*d);have C:(1:Int)<=((k*d:Nat):Int):=by omega
   generalize 1048576*s/(k*d)=q at*;generalize k*d=m at*;generalize k/s=o at*;go_enter func232,ntmps232;go_wp2;go_ret;exact⟨Cu (by first|rfl|rw[n]),rfl⟩
  ·by_cases c:d=k/s
   ·rw[iX a c]
    have u:=Ab (XH s (by omega) w);have f:=bitLen_le8 s (by omega);have I:1048576*s*bitLen s<=1048576*128*8:=σ (Nat.mul_le_mul_left _ J) f;have l:(1048576*(s:Int))*((bitLen s:Nat):Int)=((1048576*s*bitLen s:Nat):Int):=by simp
    have n:((1048576*s*bitLen s:Nat):Int)/(k:Int)=((1048576*s*bitLen s/k:Nat):Int):=by simp
    have j:=ι (1048576*s*bitLen s) k;have h:(d:Int)=((k/s:Nat):Int):=by omega
    generalize 1048576*s*bitLen s/k=q at*;generalize 1048576*s*bitLen s=p at*;generalize bitLen s=z at*;generalize k/s=o at*;subst c;clear b h;go_enter func232,ntmps232;go_wp2_with (go_at_call 267;refine(Aa u).mono ?_;rintro e w1 ⟨rfl,L⟩;obtain rfl:=L.symm);go_ret;exact⟨Cu (by first|rfl|rw[n]),rfl⟩
   ·rw[iW a (by omega)]
    generalize k/s=o at*;have N:o<d:=by omega
    clear b c;go_enter func232,ntmps232;go_wp2;go_ret;exact⟨rfl,rfl⟩
def oF(k s d:Nat):max 1 (baseN k d+moreN k s d)=Hw k s d:=rfl
def nX(k s:Nat)(O:1<=k)(l:k<=128)(Z:s<=k)(w:η)(ht:DG w):
  Calls β 194 #[.int ε (k:Int),.int ε (s:Int)] w fun e w'=> ∃v,e=.returned v/\Am w' w.heap.size v (tableL k s)/\Below w.heap.size w w':=by
 have Y:=Mf k (by omega);have B:=Ab (Me w k (by omega) (Da (tableL k s) 0) (by rw[NI,Hf]));have a:Hid (Below w.heap.size w (w.alloc (.cells (madeCells #[.int ε 0] k) 3))):=Ab ((Below.refl _ _).alloc (θ _) _);have C:decide ((k:Int)<1)=false:=by rw[decide_eq_false_iff_not];omega
 have e2:decide (128<(k:Int))=false:=by rw[decide_eq_false_iff_not];omega
 have e3:decide ((s:Int)<0)=false:=by rw[decide_eq_false_iff_not];omega
 have e4:decide (k<s)=false:=by rw[decide_eq_false_iff_not];omega
 have aa:s<=128:=by omega
 have N:=Ab O;clear O Z;go_enter func194,ntmps194;go_wp2;go_loopw [27] (fun i wr=> ∃j:Nat,j<=k/\i=.int ε j/\Hid (Am wr w.heap.size (.slice (μ ⟨w.heap.size,0,κ⟩) k k) (Da (tableL k s) j))/\Hid (Below w.heap.size w wr)) (fun i _=>k-(intOf i).toNat)
 case atStart=>exact⟨0,φ _,rfl,B,a⟩
 case round=>
  obtain⟨j,X,rfl,o,u⟩:=hrel;have E:=Aa u;by_cases b:j<k
  ·have J:=Aa o
   have K:(Da (tableL k s) j).length=k:=by rw[LG _ _ (by rw[Hf];exact X),Hf]
   obtain⟨g,cap,C,_,_,d,f⟩:=J.at (by omega);simp only[Value.slice.injEq,Option.some.injEq,Addr.mk.injEq,and_true]at C;obtain⟨rfl, -, -⟩:=C;have r:=d j (by omega);have V:=f j;have h:((j+1:Nat):Int)=(j:Int)+1:=by omega
   have D:=pW k (j+1) (Aa N) l (by omega) (by omega) wr (ht.below E);have I:=pp k s (j+1) (Aa N) l (by omega) (by omega) (by omega) wr;rw[h]at D I;have P:=Ab D;have Q:=Ab I;have S:=Vw k (j+1);have T:=Wm k s (j+1) (by omega);have m:=qQ (baseN k (j+1)+moreN k s (j+1));have c:=J.stored j ((Hw k s (j+1):Nat):Int);rw[<-Ob k s j b,NH _ _ (by rw[Hf];exact b),Ob k s j b]at c;have R:=Ab c;have A:=Ab (E.setCell (p:=⟨w.heap.size,j,κ⟩) (by exact θ _) (.int ε ((Hw k s (j+1):Nat):Int)));rw[oF]at m;clear D I h;clear J K d f c E u o B a ht;generalize Hw k s (j+1)=q at*;generalize baseN k (j+1)=x at*;generalize moreN k s (j+1)=y at*;have n:((x+y:Nat):Int)=(x:Int)+(y:Int):=by omega
   rw[n]at m;clear n;go_wp2_with (first|(go_at_call 231;refine(Aa P).mono ?_;rintro e w1 ⟨rfl,L⟩;obtain rfl:=L.symm)|(go_at_call 232;refine(Aa Q).mono ?_;rintro e w1 ⟨rfl,L⟩;obtain rfl:=L.symm));go_roundw
   case rel=>exact⟨j+1,by omega,by go_num,R,A⟩
   case measure=>simp[intOf];omega
  ·obtain rfl:j=k:=by omega
   rw[show Da (tableL j s) j=tableL j s by
    have:=NS (tableL j s);rwa[Hf]at this]at o
   clear B a;go_wp2;go_ret;exact⟨_,rfl,Aa o,Aa u⟩
def kc(n z:Nat):Nat:=if 0<n%z\/n/z=0 then n/z+1 else n/z
def J0(n z:Nat):1<=kc n z:=by
 unfold kc;generalize n/z=q;generalize n%z=r;split<;>rename_i h<;>omega
def Ky(n z:Nat)(b:0<z):n<=kc n z*z:=by
 have a:=Nat.div_add_mod n z;have c:=ψ n b;rw[Nat.mul_comm]at a;unfold kc;split
 ·rw[ς];omega
 ·rename_i h
  have:n%z=0:=by omega
  omega
def Px(n z k:Nat)(d:0<z)(f:1<=k)(h:n<=k*z):kc n z<=k:=by
 have c:=Nat.div_add_mod n z;have e:=ψ n d;rw[Nat.mul_comm]at c;unfold kc;split
 ·rename_i b
  rcases b with b|b
  ·rcases ρ (n/z) k with a|a
   ·omega
   ·have:=ξ z a
    omega
  ·omega
 ·rename_i b
  rcases ρ k (n/z)with a|a
  ·have:=ξ z (Nat.succ_le_of_lt a)
   rw[Nat.succ_mul]at this;omega
  ·exact a
def KY(n z k:Nat)(b:0<z)(c:1<=k):k<kc n z↔k*z<n:=by
 constructor
 ·intro h
  rcases ρ (k*z) n with a|a
  ·exact a
  ·have:=Px n z k b c a
   omega
 ·intro h
  have d:=Ky n z b;rcases ρ k (kc n z)with a|a
  ·exact a
  ·have:=ξ z a
   omega
def bC(n z k:Nat)(b:0<z)(c:1<=k)(h:n<=k*z)(a:k=1\/(k-1)*z<n):kc n z=k:=by
 have d:=Px n z k b c h;rcases a with rfl|a
 ·have:=J0 n z;omega
 ·by_cases e:k=1
  ·subst e;have:=J0 n z;omega
  ·have:=(KY n z (k-1) b (by omega)).2 a
   omega
def planE(n z:Int):Int:=if n<0\/z<1\/64<z then 1 else if 128<kc n.toNat z.toNat then 2 else 0
def planK(n z:Int):Int:=if planE n z=0 then(kc n.toNat z.toNat:Int)else 0
def MF{n z:Int}(h:n<0\/z<1\/64<z):planE n z=1/\planK n z=0:=by
 have e:planE n z=1:=if_pos h;exact⟨e,by unfold planK;rw[e];rfl⟩
def UM{n:Nat}(a:1<=z)(b:z<=64)(h:128<kc n z):planE (n:Int) (z:Int)=2/\planK (n:Int) (z:Int)=0:=by
 have e:planE (n:Int) (z:Int)=2:=by
  unfold planE;rw[if_neg (by omega),if_pos (by simpa using h)]
 exact⟨e,by unfold planK;rw[e];rfl⟩
def MZ{n:Nat}(a:1<=z)(b:z<=64)(h:kc n z<=128):planE (n:Int) (z:Int)=0/\planK (n:Int) (z:Int)=(kc n z:Int):=by
 have e:planE (n:Int) (z:Int)=0:=by
  unfold planE;rw[if_neg (by omega),if_neg (by simp;omega)]
 exact⟨e,by unfold planK;rw[e];simp⟩
def rK{n:Nat}{z:Int}(h:planE (n:Int) z=0):∃Z:Nat,z=(Z:Int)/\1<=Z/\Z<=64/\kc n Z<=128:=by
 unfold planE at h;split at h
 ·omega
 ·rename_i b
  obtain⟨Z,rfl⟩:∃Z:Nat,z=(Z:Int):=⟨z.toNat,by omega⟩;split at h
  ·omega
  ·rename_i a
   simp only[Int.toNat_natCast]at a;exact⟨Z,rfl,by omega,by omega,by omega⟩
def H9(z:Nat)(t:List Nat):List Nat:=t++List.replicate (z-t.length) 0
def blk(xs:List Nat)(z i:Nat):List Nat:=H9 z ((xs.drop (i*z)).take z)
def Bo(xs:List Nat)(z k:Nat):List ByteArray:=(List.range k).map fun i=>st (blk xs z i)
def im(z:Nat)(t:List Nat)(h:t.length<=z):(H9 z t).length=z:=by
 unfold H9;rw[List.length_append,List.length_replicate];omega
def Of(xs:List Nat)(z i:Nat):(blk xs z i).length=z:=im _ _ (List.length_take_le _ _)
def IX(xs:List Nat)(z k:Nat):(Bo xs z k).length=k:=by simp[Bo]
def NF(xs:List Nat)(z k:Nat):Bo xs z (k+1)=Bo xs z k++[st (blk xs z k)]:=by
 simp[Bo,List.range_succ]
def nM{t:List Nat}(h:bytes t):bytes (H9 z t):=by
 intro x a;rcases List.mem_append.1 a with a|a
 ·exact h x a
 ·rw[(List.mem_replicate.1 a).2];decide
def Ud{xs:List Nat}(h:bytes xs)(z i:Nat):bytes (blk xs z i):=nM (Gd (Ho h _) _)
def joinL(ss:List ByteArray):List Nat:=ss.flatMap tx
def Ot(ss:List ByteArray)(s:ByteArray):joinL (ss++[s])=joinL ss++tx s:=by simp[joinL]
def Te(ss:List ByteArray)(k:Nat)(h:k<ss.length):joinL (ss.take (k+1))=joinL (ss.take k)++tx (ss.getD k ByteArray.empty):=by
 rw[List.take_succ_eq_append_getElem h,Ot];simp[U,δ h]
def R2{xs:List Nat}(a:bytes xs)(z:Nat):∀k,k*z<=xs.length->joinL (Bo xs z k)=xs.take (k*z)
 |0,_=>by simp[Bo,joinL]
 |k+1,h=>by
  rw[ς,χ]at h;rw[NF,Ot,R2 a z k (by omega),Dv (Ud a z k),ς,χ,List.take_add];congr 1;unfold blk H9;rw[List.length_take,List.length_drop];rw[show z-min z (xs.length-k*z)=0 by omega];simp
def la{xs:List Nat}(b:bytes xs)(z k:Nat)(d:1<=k)(h:xs.length<=k*z)(a:k=1\/(k-1)*z<xs.length):(joinL (Bo xs z k)).take xs.length=xs:=by
 obtain⟨j,rfl⟩:∃j,k=j+1:=⟨k-1,by omega⟩;have c:j*z<=xs.length:=by
  rcases a with a|a
  ·obtain rfl:j=0:=by omega
   omega
  ·simp at a;omega
 rw[NF,Ot,R2 b z j c,Dv (Ud b z j)];rw[ς,χ]at h;have e:(xs.drop (j*z)).take z=xs.drop (j*z):=List.take_of_length_le (by rw[List.length_drop];omega);unfold blk H9;rw[e,<-List.append_assoc,List.take_append_drop,List.take_append_of_le_length (θ _),List.take_length]
def eG(xs:List Nat)(z k:Nat)(b:z<=64):shorts (Bo xs z k):=by
 intro s a;obtain⟨i,_,rfl⟩:=List.mem_map.1 a;rw[Dq,Of];omega
def SA(xs:List Nat)(z k i:Nat)(h:i<k):(Bo xs z k).getD i ByteArray.empty=st (blk xs z i):=by
 unfold Bo;rw[U,List.getElem?_map,List.getElem?_range h];rfl
structure Er where
 kd:Int
 a:Option Addr
 n:Nat
 c:Nat
 tos:List Int
def Er.dflt:Er:=⟨0,κ,0,0,[]⟩
structure A1 where
 a:Option Addr
 n:Nat
 c:Nat
 ds:List Er
 obj:ByteArray
 size:Int
 spread:Int
 buffer:Int
 queue:Int
 cache:Int
 rate:Nat
 timeout:Int
 target:Int
def A1.val(f:A1):ο:=.agg #[.slice f.a f.n f.c,.string f.obj,.int ε f.size,.int ε f.spread,.int ε f.buffer,.int ε f.queue,.int ε f.cache,.float .f64 f.rate,.int ε f.timeout,.int ε f.target]
def BD(w:η)(a:Option Addr)(n:Nat)(ds:List Er):Prop:=
 ds.length=n/\(∀i,i<n->IntzAt w (ds.getD i .dflt).a (ds.getD i .dflt).n (ds.getD i .dflt).tos)/\(n=0\/∃b off,a=μ ⟨b,off,κ⟩/\∀i,i<n->w.cell? ⟨b,off+i*2,κ⟩=μ (.int ε (ds.getD i .dflt).kd)/\w.cell? ⟨b,off+i*2+1,κ⟩=μ (.slice (ds.getD i .dflt).a (ds.getD i .dflt).n (ds.getD i .dflt).c))
def BD.at{a:Option Addr}{n:Nat}{ds:List Er}(h:BD w a n ds){i:Nat}(e:i<n):∃b off,a=μ ⟨b,off,κ⟩/\∀i,i<n->w.cell? ⟨b,off+i*2,κ⟩=μ (.int ε (ds.getD i .dflt).kd)/\w.cell? ⟨b,off+i*2+1,κ⟩=μ (.slice (ds.getD i .dflt).a (ds.getD i .dflt).n (ds.getD i .dflt).c):=by
 rcases h.2.2 with d|d
 ·omega
 ·exact d
def BD.below{w':η}{a:Option Addr}{n:Nat}{ds:List Er}(h:BD w a n ds)(e:Below w.heap.size w w'):BD w' a n ds:=by
 refine⟨h.1,fun i c=>(h.2.1 i c).below e,?_⟩;rcases h.2.2 with f|⟨b,off,rfl,d⟩
 ·exact .inl f
 ·exact .inr ⟨b,off,rfl,fun i c=>⟨(e.cell (p:=⟨b,off+i*2,κ⟩) (ν w _ (d i c).1)).trans (d i c).1,(e.cell (p:=⟨b,off+i*2+1,κ⟩) (ν w _ (d i c).2)).trans (d i c).2⟩⟩
def Bw(xs:List Int)(id n:Int):Prop:=(xs.length:Int)<n/\∀i,i<xs.length->(0<=xs.getD i 0/\xs.getD i 0<=n-1)/\xs.getD i 0≠id/\∀k,k<i->xs.getD k 0≠xs.getD i 0
def LD(f:A1):Prop:=(1<=f.n/\f.n<=8)/\(0<=f.spread/\f.spread<=128)/\(1<=f.buffer/\f.buffer<=256)/\(1<=f.queue/\f.queue<=256)/\(0<=f.cache/\f.cache<=256)/\(0<=f.timeout/\f.timeout<=1048576)/\(1<=f.target/\f.target<=128)
def dR(f:A1)(i:Nat):Prop:=(1<=(f.ds.getD i .dflt).kd/\(f.ds.getD i .dflt).kd<=3)/\Bw (f.ds.getD i .dflt).tos i f.n
def srcN(ds:List Er):Nat->Nat
 |0=>0
 |k+1=>srcN ds k+if (ds.getD k .dflt).kd=1 then 1 else 0
def Xw(ds:List Er)(k:Nat):srcN ds k<=k:=by
 induction k with
 |zero=>exact θ _
 |succ k a=>unfold srcN;split<;>omega
def LC(f:A1):Prop:=LD f/\(∀i,i<f.n->dR f i)/\srcN f.ds f.n=1
def Bm(f:A1)(en:Int):Prop:=(LC f/\en=planE f.obj.size f.size)\/(¬LC f/\en=1)
def Bm.uniq{f:A1}{x y:Int}(h:Bm f x)(k:Bm f y):x=y:=by
 rcases h with⟨a,b⟩|⟨a,b⟩<;>rcases k with⟨c,d⟩|⟨c,d⟩
 ·rw[b,d]
 ·exact absurd a c
 ·exact absurd c a
 ·rw[b,d]
def JO:(Tryz.prog.info? 25).map (·.size)=μ 10:=by kernel_rfl
variable {fuel:Nat}{H:Type}{v:ο}{w W:η}
def Xz : Tryz.prog.globalNamed "bucketline/soliton.plain" = μ 1 := by kernel_rfl
def Yk:(Tryz.prog.globals[1]?).map (·.type)=μ 362:=by kernel_rfl
def Yt:Tryz.prog.cellsOf 362=127:=by kernel_rfl
def Yp:Tryz.prog.cellsOf 112=1:=by kernel_rfl
def Cy:List Int:=[524288,174762,87381,52428,34952,24966,18724,14563,11650,9532,7943,6721,5761,4993,4369,3855,3426,3066,2759,2496,2269,2072,1899,1747,1613,1493,1387,1291,1205,1127,1057,992,934,881,832,787,745,707,672,639,608,580,554,529,506,485,464,445,427,411,395,380,366,353,340,328,317,306,296,286,277,268,260,252,244,237,230,223,217,210,205,199,194,188,183,179,174,170,165,161,157,154,150,146,143,140,136,133,130,128,125,122,119,117,114,112,110,108,105,103,101,99,97,96,94,92,90,89,87,85,84,82,81,79,78,77,75,74,73,72,71,69,68,67,66,65,64]
def ix:Cy.length=127:=by decide+kernel
def iw(i:Nat)(a:i<127):Cy.getD i 0=((1048576/((i+2)*(i+1)):Nat):Int):=by
 have h:∀j:Fin 127,Cy.getD j.val 0=((1048576/((j.val+2)*(j.val+1)):Nat):Int):=by decide+kernel
 exact h ⟨i,a⟩
def lc{P:Program}{x:String×DataW Unit}{r:List (String×DataW Unit)}(h:laidMet P (x::r) w):laidMet P r w:=by
 obtain⟨ps,⟨g,t,cs,fuel,p,q,_,_,_,_,d,rfl⟩,c,a⟩:=h;exact⟨q,d,(List.nodup_append.1 c).2.1,fun b off hp=>a b off (List.mem_append_right _ hp)⟩
set_option maxRecDepth 100000 in
def cP {W : η} (h : laidMetH β Rows.netChecksRow.laid W) : Lib.TabIs β W "bucketline/soliton.plain" .u32 Cy :=
 Lib.tabIs_of_head (rest:=[]) Xz Yk underlying362 underlying112 Yp Yt (lc h)
structure Bv(w:η):Prop where
 tab:Tab w
 pl:DG w
def Bv.below{w':η}(h:Bv w)(a:Below w.heap.size w w'):Bv w':=⟨h.tab.below a,h.pl.below a⟩
def Y9(h:laidMetH β Rows.netChecksRow.laid W):Bv W:=
 ⟨cO h,fun i a=>by rw[(cP h).cell Xz i (by rw[ix];exact a),iw i a]⟩
def qi{b:Nat}(h:(Lit.float .f64 b).wf=true):b<18446744073709551616:=by simpa [Lit.wf]using h
def fx{enc:TypeId×ο->H}{x:DataW H×List MemPlace}
  (h:γ enc β W 0 (fun _=>true) true fuel 23 [v]=μ x):∃b,v=.float .f64 b/\b<18446744073709551616:=by
 cases fuel with
 |zero=>simp[γ]at h
 |succ fuel=>
  cases v<;>simp[γ,underlying23]at h;obtain⟨⟨rfl,h⟩,_⟩:=h;exact⟨_,rfl,qi h⟩
def jI{enc:TypeId×ο->H}{x:DataW H×List MemPlace}
  (h:γ enc β W 0 (fun _=>true) true fuel 27 [v]=μ x):∃a len cap xs,v=.slice a len cap/\IntzAt W a len xs/\len<=9223372036854775807/\(a=κ->len=0/\cap=0)/\len<=cap:=by
 rcases open_ints underlying27 underlying3 (by kernel_rfl) h with⟨f,_⟩|⟨x,l,c,n,f,_,m,r,u,_,d,s⟩
 ·simp only[ζ,and_true]at f
  exact⟨_,_,_,[],f,⟨rfl,.inl rfl⟩,by decide,fun _=>⟨rfl,rfl⟩,θ _⟩
 ·simp only[ζ,and_true]at f
  have y:n.length=c:=by simpa using u
  refine⟨_,_,_,n.take l,f,⟨by simp;omega,?_⟩,τ m (K4 r),(fun e=>by cases e),m⟩;by_cases o:l=0
  ·exact .inl o
  ·obtain⟨b,off,k⟩:=x
   have p:=d 0 (by omega);have g:k=κ:=by simpa [Addr.add]using π p
   subst g;refine .inr ⟨b,off,rfl,fun i q=>?_⟩;have j:=d i (by omega);rw[Ix]at j;rw[j];simp[U,q]
def Ys:Tryz.prog.cellsOf 29=2:=by kernel_rfl
def Yq:Tryz.prog.cellsOf 25=10:=by kernel_rfl
def rn{enc:TypeId×ο->H}{cs:List ο}{x:DataW H×List MemPlace}(e:cs.length=2)
  (h:γ enc β W 0 (fun _=>true) true fuel 29 cs=μ x):∃d:Er,cs=[.int ε d.kd,.slice d.a d.n d.c]/\IntzAt W d.a d.n d.tos/\d.n<=9223372036854775807/\(d.a=κ->d.n=0/\d.c=0)/\d.n<=d.c:=by
 match cs,e with
 |[c0,c1],_=>
  obtain⟨f,n,_,_,_,b,g⟩:=υ underlying29 h;have r:f.length=2:=b;obtain⟨s,j⟩:=Dr (l:=f) (i:=0) (by omega);obtain⟨u,k⟩:=Dr (l:=f) (i:=1) (by omega);obtain⟨kd,rfl⟩:=EW ((g 0 _ rfl).trans j);obtain⟨a,len,cap,xs,rfl,m,o,p,q⟩:=jI ((g 1 _ rfl).trans k);exact⟨⟨kd,a,len,cap,xs⟩,rfl,m,o,p,q⟩
def Wh(Q:Nat->Er->Prop):∀n,(∀i,i<n->∃r,Q i r)->∃rs:List Er,rs.length=n/\∀i,i<n->Q i (rs.getD i .dflt)
 |0,_=>⟨[],rfl,fun i a=>by omega⟩
 |n+1,h=>by
  obtain⟨rs,b,c⟩:=Wh Q n (fun i a=>h i (by omega));obtain⟨r,hp⟩:=h n (by omega);refine⟨rs++[r],by simp[b],fun i a=>?_⟩;by_cases e:i<n
  ·have:=c i e
   rwa[show(rs++[r]).getD i .dflt=rs.getD i .dflt from by simp[U,List.getElem?_append_left (show i<rs.length by omega)]]
  ·obtain rfl:i=n:=by omega
   rwa[show(rs++[r]).getD i .dflt=r from by simp[U,<-b]]
structure BN(w:η)(f:A1):Prop where
 nds:BD w f.a f.n f.ds
 len:f.n<=9223372036854775807
 obj:f.obj.size<=9223372036854775807
 rate:f.rate<18446744073709551616
 tos:∀i,i<f.n->(f.ds.getD i .dflt).n<=9223372036854775807/\((f.ds.getD i .dflt).a=κ->(f.ds.getD i .dflt).n=0/\(f.ds.getD i .dflt).c=0)
 caps:∀i,i<f.n->(f.ds.getD i .dflt).n<=(f.ds.getD i .dflt).c
def nD{enc:TypeId×ο->H}{y:DataW H×List MemPlace}
  (N:γ enc β W 0 (fun _=>true) true fuel 22 [v]=μ y):∃a len cap f,v=.slice a len cap/\BD W a len f/\len<=9223372036854775807/\∀i,i<len->(f.getD i .dflt).n<=9223372036854775807/\((f.getD i .dflt).a=κ->(f.getD i .dflt).n=0/\(f.getD i .dflt).c=0)/\(f.getD i .dflt).n<=(f.getD i .dflt).c:=by
 rcases Go.Deep.open_slice underlying22 N with⟨e,_⟩|⟨x,l,c,m,n,D,S,e,_,T,O,A,_,R⟩
 ·simp only[ζ,and_true]at e
  exact⟨_,_,_,[],e,⟨rfl,fun i g=>by omega,.inl rfl⟩,by decide,fun i g=>by omega⟩
 ·simp only[ζ,and_true]at e
  have P:m=c:=by simpa using A
  have E:=K4 O
  obtain⟨f,B,s⟩:=Wh (fun i d=>(∀j u,[(.int ε d.kd:ο),.slice d.a d.n d.c][j]? =μ u->W.cell? ((x.add (i*2)).add j)=μ u)/\IntzAt W d.a d.n d.tos/\d.n<=9223372036854775807/\(d.a=κ->d.n=0/\d.c=0)/\d.n<=d.c) l (fun i g=>by
   obtain⟨J,C,L⟩:=R i (by omega);rw[Ys]at C;obtain⟨_,o,h⟩:=World.cells?_some C;obtain⟨p,rfl,Q⟩:=rn o L;exact⟨p,fun j u I=>(h j (by have:=(List.getElem?_eq_some_iff.1 I).1;simpa using this)).trans I,Q⟩)
  refine⟨_,_,_,f,e,⟨B,fun i g=>(s i g).2.1,?_⟩,by omega,fun i g=>(s i g).2.2⟩;by_cases K:l=0
  ·exact .inl K
  ·obtain⟨b,off,q⟩:=x
   have r:=(s 0 (by omega)).1 0 _ rfl;have k:q=κ:=by simpa [Addr.add]using π r
   subst k;refine .inr ⟨b,off,rfl,fun i g=>?_⟩;have r:=(s i g).1;refine⟨?_,?_⟩
   ·have:=r 0 _ rfl;rwa[Ix,Ix]at this
   ·have:=r 1 _ rfl;rwa[Ix,Ix]at this
def Z6{enc:TypeId×ο->H}{base:Nat}{d:DataW H}{ps:List MemPlace}(D:Value.okWide β W .any base 25 v)
  (h:DataW.Trod enc β W 0 (fun _=>true) true 25 v d ps):∃f:A1,v=f.val/\BN W f:=by
 obtain⟨cs,rfl,k⟩:=okWide_struct underlying25 D;obtain⟨fuel,b⟩:=h;obtain⟨cs⟩:=cs
 match cs,k.trans Yq with
 |[c0,c1,c2,c3,c4,c5,R,S,T,V],_=>
  obtain⟨c,n,_,_,_,e,b⟩:=υ underlying25 b;have X:c.length=10:=e;obtain⟨Y,m⟩:=Dr (l:=c) (i:=0) (by omega);obtain⟨Z,o⟩:=Dr (l:=c) (i:=1) (by omega);obtain⟨y2,p⟩:=Dr (l:=c) (i:=2) (by omega);obtain⟨y3,q⟩:=Dr (l:=c) (i:=3) (by omega);obtain⟨y4,r⟩:=Dr (l:=c) (i:=4) (by omega);obtain⟨y5,u⟩:=Dr (l:=c) (i:=5) (by omega);obtain⟨y6,x⟩:=Dr (l:=c) (i:=6) (by omega);obtain⟨y7,y⟩:=Dr (l:=c) (i:=7) (by omega);obtain⟨y8,A⟩:=Dr (l:=c) (i:=8) (by omega);obtain⟨y9,B⟩:=Dr (l:=c) (i:=9) (by omega);obtain⟨a,len,cap,E,rfl,C,g2,j⟩:=nD ((b 0 _ rfl).trans m);obtain⟨s,rfl,gs⟩:=XK ((b 1 _ rfl).trans o);obtain⟨I,rfl⟩:=EW ((b 2 _ rfl).trans p);obtain⟨J,rfl⟩:=EW ((b 3 _ rfl).trans q);obtain⟨K,rfl⟩:=EW ((b 4 _ rfl).trans r);obtain⟨L,rfl⟩:=EW ((b 5 _ rfl).trans u);obtain⟨N,rfl⟩:=EW ((b 6 _ rfl).trans x);obtain⟨O,rfl,gr⟩:=fx ((b 7 _ rfl).trans y);obtain⟨P,rfl⟩:=EW ((b 8 _ rfl).trans A);obtain⟨Q,rfl⟩:=EW ((b 9 _ rfl).trans B);exact⟨⟨a,len,cap,E,s,I,J,K,L,N,O,P,Q⟩,rfl,⟨C,g2,gs,gr,fun i g=>⟨(j i g).1,(j i g).2.1⟩,fun i g=>(j i g).2.2⟩⟩
def BN.below{w':η}{f:A1}(h:BN w f)(a:Below w.heap.size w w'):BN w' f:=⟨h.nds.below a,h.len,h.obj,h.rate,h.tos,h.caps⟩
end Go.Proofs.YtfpmnekaockodaaGreatDoor
