/- Laws for the proof. -/
import Derived.Test.YtfpmnekaockodaaGreatDoorU6
import Derived.ProofKit
import Derived.OpenShut
import Derived.ShutString
import Derived.ChangeOld
import Derived.ChangeMaps5
import Derived.SliceStrings
import Derived.Deep.SlicePairs
import Derived.Deep.DeepHandedRow
import Derived.Lib.LaidTab
import Derived.Below
import Derived.Lib.BitFns
import Derived.Laws.Cover2
namespace Go.Proofs.YtfpmnekaockodaaGreatDoor
open Go.ChangeShapes Go.WideShapes Go.ChangeAt Go.RowKit
set_option linter.all false
set_option maxRecDepth 4000
set_option maxHeartbeats 8000000
variable {fuel:Nat}{H:Type}{v:Value}{W:World}
theorem own:ownKnob Tryz.prog.godebug=none:=by kernel_rfl
theorem W0:laidOutB Tryz.prog=true:=by kernel_rfl
theorem Rx : Tryz.prog.globalNamed "math/bits.deBruijn64tab" = some 2 := by kernel_rfl
theorem qQ:(Tryz.prog.globals[2]?).map (·.type)=some 385:=by kernel_rfl
theorem pP:Tryz.prog.cellsOf 385=64:=by kernel_rfl
theorem aK:Tryz.prog.cellsOf 5=1:=by kernel_rfl
theorem rV {W : World} (h : laidMetH Tryz.prog Rows.netChecksRow.laid W) : Lib.TabIs Tryz.prog W "math/bits.deBruijn64tab" .u8 (Lib.deBruijn64tab.map fun (x : Nat) => (x : Int)) :=
 Lib.tabIs_of_head (rest:=_) Rx qQ Tryz.underlying385 Tryz.underlying5 aK pP h
theorem bY(h:laidMetH Tryz.prog Rows.netChecksRow.laid W):Tab W:=by
 intro i b;have c:(Lib.deBruijn64tab.map fun(x:Nat)=>(x:Int)).length=64:=by decide
 have:=(rV h).cell Rx i (by omega);rw[this];have a:Lib.deBruijn64tab.length=64:=by decide
 have e:i<Lib.deBruijn64tab.length:=by omega
 simp[List.getD_eq_getElem?_getD,List.getElem?_eq_getElem e]
theorem Iv(b off i:Nat):(⟨b,off,none⟩:Addr).add i=⟨b,off+i,none⟩:=by
 unfold Addr.add;split
 ·rename_i h;simp_all
 ·rfl
theorem K4{n:Nat}(h:n<=maxLen):n<=9223372036854775807:=by simpa [maxLen]using h
theorem mW{enc:TypeId×Value->H}{x:DataW H×List MemPlace}
  (h:DataW.trod enc Tryz.prog W 0 (fun _=>true) true fuel 40 [v]=some x):∃a len cap xs,v=.slice a len cap/\RowAt W a len xs/\len<=9223372036854775807/\len<=cap:=by
 rcases open_ints Tryz.underlying40 Tryz.underlying265 (by kernel_rfl) h with⟨e,_⟩|⟨x,l,c,f,e,_,B,C,E,_,d,o⟩
 ·simp only[List.cons.injEq,and_true]at e
  exact⟨_,_,_,[],e,⟨rfl,(fun _ h=>by cases h),.inl rfl⟩,by decide,Nat.le_refl _⟩
 ·simp only[List.cons.injEq,and_true]at e
  have J:f.length=c:=by simpa using E
  have p:∀z∈f,0<=z/\z<18446744073709551616:=by
   intro z k;have:=bounds_u64 (o z k);omega
  refine⟨_,_,_,(f.take l).map Int.toNat,e,⟨by simp;omega,?_,?_⟩,by have:=K4 C;omega,B⟩
  ·intro y D
   obtain⟨z,k,rfl⟩:=List.mem_map.1 D;have:=p z (List.mem_of_mem_take k);show z.toNat<18446744073709551616;omega
  ·by_cases s:l=0
   ·exact .inl s
   ·obtain⟨b,off,n⟩:=x
    have u:=d 0 (by omega);have j:n=none:=by simpa [Addr.add]using World.cell?_spot u
    subst j;refine .inr ⟨b,off,rfl,fun i A=>?_⟩;have m:=d i (by omega);rw[Iv]at m;rw[m];have g:i<f.length:=by omega
    have I:=p f[i] (List.getElem_mem g);have q:f.getD i 0=f[i]:=by simp[List.getD_eq_getElem?_getD,List.getElem?_eq_getElem g]
    have r:((f.take l).map Int.toNat).getD i 0=f[i].toNat:=by
     simp[List.getD_eq_getElem?_getD,A,List.getElem?_eq_getElem g]
    rw[q,r];rw[show((f[i].toNat:Nat):Int)=f[i] by omega]
theorem rS{enc:TypeId×Value->H}{x:DataW H×List MemPlace}
  (h:DataW.trod enc Tryz.prog W 0 (fun _=>true) true fuel 9 [v]=some x):∃s,v=.string s/\s.size<=9223372036854775807:=by
 cases fuel with
 |zero=>simp[DataW.trod]at h
 |succ fuel=>
  cases v<;>simp[DataW.trod,Tryz.underlying9]at h;exact⟨_,rfl,K4 h.1⟩
theorem E0{enc:TypeId×Value->H}{x:DataW H×List MemPlace}
  (h:DataW.trod enc Tryz.prog W 0 (fun _=>true) true fuel 3 [v]=some x):∃a,v=.int .i64 a:=by
 cases fuel with
 |zero=>simp[DataW.trod]at h
 |succ fuel=>
  cases v<;>simp[DataW.trod,Tryz.underlying3]at h;obtain⟨⟨rfl,_⟩,_⟩:=h;exact⟨_,rfl⟩
theorem Dy{α:Type}{l:List α}{i:Nat}(h:i<l.length):∃y,l[i]? =some y:=⟨_,List.getElem?_eq_getElem h⟩
variable {z:Nat}{w:World}
theorem XV(a:Option Addr)(n c:Nat)(xs:List Int)(w:World)(h:IntzAt w a n xs)(C:n<=1048576)(A:sumZ xs<=4611686018427387904):
  Calls Tryz.prog 230 #[.slice a n c] w fun e w'=>e=.returned (.int .i64 ((sumZ xs:Nat):Int))/\w'=w:=by
 obtain rfl:n=xs.length:=h.1.symm;obtain⟨S,g⟩:∃S,sumZ xs=S:=⟨_,rfl⟩;have j:=Ab (show sumZ (xs.take xs.length)=S by rw[List.take_length];exact g);have l:=Ab (fun k=>Nat.le_trans (N0 xs k) (Nat.le_of_eq g));have o:=Ab (fun k u=>OW xs k u);rw[g]at A⊢;clear g;go_enter Tryz.func230,Tryz.ntmps230;go_wp2;go_loop [3,8] (fun t i=> ∃k q:Nat,k<=xs.length/\i=.int .i64 k/\t=.int .i64 (q:Int)/\Hid (q=sumZ (xs.take k))) (fun _ i=>xs.length-(intOf i).toNat)
 case atStart=>exact⟨0,0,Nat.zero_le _,rfl,rfl,Ab rfl⟩
 case round=>
  obtain⟨k,q,u,rfl,rfl,f⟩:=hrel;by_cases d:k<xs.length
  ·obtain⟨b,off,rfl,s⟩:=h.at d
   have p:=s k d;have ht:=Aa o k d;have r:=Aa l (k+1);rw[<-Aa f]at ht;rw[ht]at r;have m:=Ab ht;clear s h o l j f ht;generalize xs.getD k 0=x at*;have B:=U0 x;generalize x.toNat=z at*;go_wp2;go_round
   case rel=>exact⟨k+1,q+z,by omega,by go_num,by go_num,Ab (Aa m).symm⟩
   case measure=>simp[intOf];omega
  ·obtain rfl:k=xs.length:=by omega
   have y:=Ab ((Aa f).trans (Aa j));clear h o l j f;go_wp2;go_ret;exact⟨CC (by rw[Aa y]),rfl⟩
theorem Ys(l:List Int)(k:Nat)(a:k<l.length):(l.getD k 0).toNat<=sumZ l:=by
 have b:=OW l k a;have c:=N0 l (k+1);omega
theorem nZ(a:Option Addr)(n c:Nat)(xs:List Int)(d:Nat)(w:World)(h:IntzAt w a n xs)(T:n<=1048576)(K:sumZ xs<=4611686018427387904)(Y:d<18446744073709551616):
  Calls Tryz.prog 193 #[.slice a n c,.int .u64 (d:Int)] w fun e w'=>e=.returned (.int .i64 ((pickD xs d:Nat):Int))/\w'=w:=by
 have l:=Ab (XV a n c xs w h T K);obtain rfl:n=xs.length:=h.1.symm;obtain⟨S,m⟩:∃S,sumZ xs=S:=⟨_,rfl⟩;obtain⟨R,q⟩:∃R,pickD xs d=R:=⟨_,rfl⟩;have r:=Ab (fun(O:S=0)=>q.symm.trans (iV (m.trans O) d));have p:=Ab (fun(P:S≠0)=>q.symm.trans (Ta (by rw[m];exact P) d));have E:=Ab (fun k J=>Nat.le_trans (Ys xs k J) (Nat.le_of_eq m));rw[m]at K l p;rw[q];clear m q;by_cases L:S=0
 ·subst L
  have g:=Ab (Aa r rfl);clear r p h;go_enter Tryz.func193,Tryz.ntmps193;go_wp2_with (go_at_call 230;refine(Aa l).mono ?_;rintro e w1 ⟨rfl,D⟩;obtain rfl:=D.symm);go_ret;exact⟨CC (by rw[Aa g];rfl),rfl⟩
 ·have g:=Ab (Aa p L)
  have Q:d%S<S:=Nat.mod_lt _ (by omega);have C:(d:Int)%(S:Int)=((d%S:Nat):Int):=by simp
  have X:((S:Int)==0)=false:=by simp;omega
  clear r p;generalize d%S=N at*;go_enter Tryz.func193,Tryz.ntmps193;go_wp2_with (go_at_call 230;refine(Aa l).mono ?_;rintro e w1 ⟨rfl,D⟩;obtain rfl:=D.symm);go_loop [6,20] (fun t i=> ∃k x:Nat,k<=xs.length/\i=.int .i64 k/\t=.int .u64 (x:Int)/\x<=N/\Hid (R=EC (xs.drop k) k x)) (fun _ i=>xs.length-(intOf i).toNat)
  case atStart=>exact⟨0,N,Nat.zero_le _,rfl,by first|rfl|rw[C],Nat.le_refl _,Ab (Aa g)⟩
  case round=>
   obtain⟨k,x,J,rfl,rfl,hx,j⟩:=hrel;by_cases f:k<xs.length
   ·obtain⟨b,off,rfl,I⟩:=h.at f
    have A:=I k f;have u:=Ab (fun B=>(Aa j).trans (my xs k x f B));have s:=Ab (fun B=>(Aa j).trans (ri xs k x f B));clear I h j g l;have V:=Aa E k f;clear E;generalize xs.getD k 0=y at*;have Z:=U0 y;generalize y.toNat=z at*;by_cases o:x<z
    ·have g:=Ab (Aa u o)
     clear u s;go_wp2;go_ret;exact⟨CC (by rw[Aa g];go_num),rfl⟩
    ·have g:=Ab (Aa s o)
     clear u s;go_wp2;go_round
     case rel=>exact⟨k+1,x-z,by omega,by go_num,by go_num,by omega,g⟩
     case measure=>simp[intOf];omega
   ·obtain rfl:k=xs.length:=by omega
    have g:=Ab ((Aa j).trans (mx xs _ _));clear h j l;go_wp2;go_ret;exact⟨CC (by rw[Aa g];rfl),rfl⟩
def B8(w:World):Prop:=∀i,i<127->w.cell? ⟨1,i,none⟩=some (.int .u32 ((1048576/((i+2)*(i+1)):Nat):Int))
theorem B8.below{w':World}(h:B8 w)(b:Below w.heap.size w w'):B8 w':=fun i a=>(b.cell (World.block_lt_of_cell? w _ (h i a))).trans (h i a)
theorem jU(x:Nat)(a:x<256):Lib.bitLen x=bitLen x:=by
 have h:∀j:Fin 256,Lib.bitLen j.val=bitLen j.val:=by decide+kernel
 exact h ⟨x,a⟩
theorem qf(x:Nat)(a:x<256):Lib.len8 (x:Int)=((bitLen x:Nat):Int):=by
 rw[Lib.len8_of (x:Int) (by omega) (by omega),Int.toNat_natCast,jU x a]
set_option maxRecDepth 100000 in
theorem kB(x:Nat)(b:x<256)(w:World):
  Calls Tryz.prog 295 #[.int .u64 (x:Int)] w fun e w'=>e=.returned (.int .i64 ((bitLen x:Nat):Int))/\w'=w:=by
 have H:=qf x b;have c:=fun W=>Lib.run_index_len8tab (P:=Tryz.prog) W 9 .u8 (x:Int) Tryz.underlying9 (by omega) (by omega);rw[H]at c;clear H;have j:((bitLen x:Nat):Int)<=8:=by have:=bitLen_le8 x b;omega
 have i:(x:Int)<=255:=by omega
 generalize bitLen x=z at*;clear b;go_enter Tryz.func295,Tryz.ntmps295;generalize f:ByteArray.mk (List.toArray _)=T at*;have a:T=Lib.len8tab:=f.symm.trans (by kernel_rfl);clear f;rw[<-a]at c;clear a;generalize d:bodyPost _ _ _=Q at*;have g:=Ab d;clear d
 iterate 20 go_step
 refine wp_cond_split rfl (fun h=>?_) (fun h=>?_)
 ·exact absurd (of_decide_eq_true h) (by omega)
 clear h
 iterate 15 go_step
 refine wp_cond_split rfl (fun h=>?_) (fun h=>?_)
 ·exact absurd (of_decide_eq_true h) (by omega)
 clear h
 iterate 15 go_step
 refine wp_cond_split rfl (fun h=>?_) (fun h=>?_)
 ·exact absurd (of_decide_eq_true h) (by omega)
 clear h;go_wp2;rw[<-Aa g];go_ret;exact⟨rfl,rfl⟩
theorem XU(x:Nat)(b:x<256)(w:World):
  Calls Tryz.prog 267 #[.int .u64 (x:Int)] w fun e w'=>e=.returned (.int .i64 ((bitLen x:Nat):Int))/\w'=w:=by
 have H:=Ab (kB x b w);generalize bitLen x=z at*;go_enter Tryz.func267,Tryz.ntmps267;go_wp2_with (go_at_call 295;refine(Aa H).mono ?_;rintro e w1 ⟨rfl,a⟩;obtain rfl:=a.symm);go_ret;exact⟨rfl,rfl⟩
theorem pB(k d:Nat)(n:1<=k)(h:k<=128)(m:1<=d)(f:d<=128)(w:World)(ht:B8 w):
  Calls Tryz.prog 231 #[.int .i64 (k:Int),.int .i64 (d:Int)] w fun e w'=>e=.returned (.int .i64 ((baseN k d:Nat):Int))/\w'=w:=by
 by_cases c:d=1
 ·subst c
  have l:(1048576:Int)/(k:Int)=((1048576/k:Nat):Int):=by simp
  have b:=Nat.div_le_self 1048576 k;rw[je];have j:(1:Int)<=(k:Int):=by omega
  generalize 1048576/k=q at*;clear ht;go_enter Tryz.func231,Tryz.ntmps231;go_wp2;go_ret;exact⟨CC (by first|rfl|rw[l]),rfl⟩
 ·rw[fY c]
  obtain⟨i,rfl⟩:∃i,d=i+2:=⟨d-2,by omega⟩;have a:=ht i (by omega);rw[show(i+2)*(i+2-1)=(i+2)*(i+1) from rfl];have b:=Nat.div_le_self 1048576 ((i+2)*(i+1));have g:((i+2:Nat):Int)-2=(i:Int):=by omega
  generalize 1048576/((i+2)*(i+1))=q at*;clear ht;go_enter Tryz.func231,Tryz.ntmps231;go_wp2;go_ret;exact⟨rfl,rfl⟩
theorem qA(k s d:Nat)(A:1<=k)(i:k<=128)(x:1<=d)(g:d<=128)(J:s<=128)(w:World):
  Calls Tryz.prog 232 #[.int .i64 (k:Int),.int .i64 (s:Int),.int .i64 (d:Int)] w fun e w'=>e=.returned (.int .i64 ((moreN k s d:Nat):Int))/\w'=w:=by
 by_cases a:s=0
 ·subst a
  rw[jI];go_enter Tryz.func232,Tryz.ntmps232;go_wp2;go_ret;exact⟨rfl,rfl⟩
 ·have K:(1:Int)<=(s:Int):=by omega
  have D:(1:Int)<=(k:Int):=by omega
  have y:(1:Int)<=(d:Int):=by omega
  have O:(k:Int)/(s:Int)=((k/s:Nat):Int):=by simp
  have E:=Nat.div_le_self k s;by_cases b:d<k/s
  ·rw[jH a b]
   have B:k*d<=128*128:=Nat.mul_le_mul i g;have r:1*1<=k*d:=Nat.mul_le_mul A x;have l:(k:Int)*(d:Int)=((k*d:Nat):Int):=by simp
   have n:(1048576*s:Int)/((k*d:Nat):Int)=((1048576*s/(k*d):Nat):Int):=by simp
   have j:=Nat.div_le_self (1048576*s) (k*d);have C:(1:Int)<=((k*d:Nat):Int):=by omega
   generalize 1048576*s/(k*d)=q at*;generalize k*d=m at*;generalize k/s=o at*;go_enter Tryz.func232,Tryz.ntmps232;go_wp2;go_ret;exact⟨CC (by first|rfl|rw[n]),rfl⟩
  ·by_cases c:d=k/s
   ·rw[jK a c]
    have u:=Ab (XU s (by omega) w);have f:=bitLen_le8 s (by omega);have I:1048576*s*bitLen s<=1048576*128*8:=Nat.mul_le_mul (Nat.mul_le_mul_left _ J) f;have l:(1048576*(s:Int))*((bitLen s:Nat):Int)=((1048576*s*bitLen s:Nat):Int):=by simp
    have n:((1048576*s*bitLen s:Nat):Int)/(k:Int)=((1048576*s*bitLen s/k:Nat):Int):=by simp
    have j:=Nat.div_le_self (1048576*s*bitLen s) k;have h:(d:Int)=((k/s:Nat):Int):=by omega
    generalize 1048576*s*bitLen s/k=q at*;generalize 1048576*s*bitLen s=p at*;generalize bitLen s=z at*;generalize k/s=o at*;subst c;clear b h;go_enter Tryz.func232,Tryz.ntmps232;go_wp2_with (go_at_call 267;refine(Aa u).mono ?_;rintro e w1 ⟨rfl,L⟩;obtain rfl:=L.symm);go_ret;exact⟨CC (by first|rfl|rw[n]),rfl⟩
   ·rw[jJ a (by omega)]
    generalize k/s=o at*;have N:o<d:=by omega
    clear b c;go_enter Tryz.func232,Tryz.ntmps232;go_wp2;go_ret;exact⟨rfl,rfl⟩
theorem mH(k s d:Nat):max 1 (baseN k d+moreN k s d)=Hp k s d:=rfl
theorem nw(k s:Nat)(O:1<=k)(l:k<=128)(Z:s<=k)(w:World)(ht:B8 w):
  Calls Tryz.prog 194 #[.int .i64 (k:Int),.int .i64 (s:Int)] w fun e w'=> ∃v,e=.returned v/\Am w' w.heap.size v (tableL k s)/\Below w.heap.size w w':=by
 have Y:=Mg k (by omega);have B:=Ab (Mf w k (by omega) (Df (tableL k s) 0) (by rw[ND,Hb]));have a:Hid (Below w.heap.size w (w.alloc (.cells (madeCells #[.int .i64 0] k) 3))):=Ab ((Below.refl _ _).alloc (Nat.le_refl _) _);have C:decide ((k:Int)<1)=false:=by rw[decide_eq_false_iff_not];omega
 have e2:decide (128<(k:Int))=false:=by rw[decide_eq_false_iff_not];omega
 have e3:decide ((s:Int)<0)=false:=by rw[decide_eq_false_iff_not];omega
 have e4:decide (k<s)=false:=by rw[decide_eq_false_iff_not];omega
 have aa:s<=128:=by omega
 have N:=Ab O;clear O Z;go_enter Tryz.func194,Tryz.ntmps194;go_wp2;go_loopw [27] (fun i wr=> ∃j:Nat,j<=k/\i=.int .i64 j/\Hid (Am wr w.heap.size (.slice (some ⟨w.heap.size,0,none⟩) k k) (Df (tableL k s) j))/\Hid (Below w.heap.size w wr)) (fun i _=>k-(intOf i).toNat)
 case atStart=>exact⟨0,Nat.zero_le _,rfl,B,a⟩
 case round=>
  obtain⟨j,X,rfl,o,u⟩:=hrel;have E:=Aa u;by_cases b:j<k
  ·have J:=Aa o
   have K:(Df (tableL k s) j).length=k:=by rw[LI _ _ (by rw[Hb];exact X),Hb]
   obtain⟨g,cap,C,_,_,d,f⟩:=J.at (by omega);simp only[Value.slice.injEq,Option.some.injEq,Addr.mk.injEq,and_true]at C;obtain⟨rfl, -, -⟩:=C;have r:=d j (by omega);have V:=f j;have h:((j+1:Nat):Int)=(j:Int)+1:=by omega
   have D:=pB k (j+1) (Aa N) l (by omega) (by omega) wr (ht.below E);have I:=qA k s (j+1) (Aa N) l (by omega) (by omega) (by omega) wr;rw[h]at D I;have P:=Ab D;have Q:=Ab I;have S:=UW k (j+1);have T:=U3 k s (j+1) (by omega);have m:=pp (baseN k (j+1)+moreN k s (j+1));have c:=J.stored j ((Hp k s (j+1):Nat):Int);rw[<-Oc k s j b,NC _ _ (by rw[Hb];exact b),Oc k s j b]at c;have R:=Ab c;have A:=Ab (E.setCell (p:=⟨w.heap.size,j,none⟩) (by exact Nat.le_refl _) (.int .i64 ((Hp k s (j+1):Nat):Int)));rw[mH]at m;clear D I h;clear J K d f c E u o B a ht;generalize Hp k s (j+1)=q at*;generalize baseN k (j+1)=x at*;generalize moreN k s (j+1)=y at*;have n:((x+y:Nat):Int)=(x:Int)+(y:Int):=by omega
   rw[n]at m;clear n;go_wp2_with (first|(go_at_call 231;refine(Aa P).mono ?_;rintro e w1 ⟨rfl,L⟩;obtain rfl:=L.symm)|(go_at_call 232;refine(Aa Q).mono ?_;rintro e w1 ⟨rfl,L⟩;obtain rfl:=L.symm));go_roundw
   case rel=>exact⟨j+1,by omega,by go_num,R,A⟩
   case measure=>simp[intOf];omega
  ·obtain rfl:j=k:=by omega
   rw[show Df (tableL j s) j=tableL j s by
    have:=NQ (tableL j s);rwa[Hb]at this]at o
   clear B a;go_wp2;go_ret;exact⟨_,rfl,Aa o,Aa u⟩
def kc(n z:Nat):Nat:=if 0<n%z\/n/z=0 then n/z+1 else n/z
theorem JY(n z:Nat):1<=kc n z:=by
 unfold kc;generalize n/z=q;generalize n%z=r;split<;>rename_i h<;>omega
theorem Kv(n z:Nat)(b:0<z):n<=kc n z*z:=by
 have a:=Nat.div_add_mod n z;have c:=Nat.mod_lt n b;rw[Nat.mul_comm]at a;unfold kc;split
 ·rw[Nat.add_mul];omega
 ·rename_i h
  have:n%z=0:=by omega
  omega
theorem Pp(n z k:Nat)(d:0<z)(f:1<=k)(h:n<=k*z):kc n z<=k:=by
 have c:=Nat.div_add_mod n z;have e:=Nat.mod_lt n d;rw[Nat.mul_comm]at c;unfold kc;split
 ·rename_i b
  rcases b with b|b
  ·rcases Nat.lt_or_ge (n/z) k with a|a
   ·omega
   ·have:=Nat.mul_le_mul_right z a
    omega
  ·omega
 ·rename_i b
  rcases Nat.lt_or_ge k (n/z)with a|a
  ·have:=Nat.mul_le_mul_right z (Nat.succ_le_of_lt a)
   rw[Nat.succ_mul]at this;omega
  ·exact a
theorem KW(n z k:Nat)(b:0<z)(c:1<=k):k<kc n z↔k*z<n:=by
 constructor
 ·intro h
  rcases Nat.lt_or_ge (k*z) n with a|a
  ·exact a
  ·have:=Pp n z k b c a
   omega
 ·intro h
  have d:=Kv n z b;rcases Nat.lt_or_ge k (kc n z)with a|a
  ·exact a
  ·have:=Nat.mul_le_mul_right z a
   omega
theorem bK(n z k:Nat)(b:0<z)(c:1<=k)(h:n<=k*z)(a:k=1\/(k-1)*z<n):kc n z=k:=by
 have d:=Pp n z k b c h;rcases a with rfl|a
 ·have:=JY n z;omega
 ·by_cases e:k=1
  ·subst e;have:=JY n z;omega
  ·have:=(KW n z (k-1) b (by omega)).2 a
   omega
def planE(n z:Int):Int:=if n<0\/z<1\/64<z then 1 else if 128<kc n.toNat z.toNat then 2 else 0
def planK(n z:Int):Int:=if planE n z=0 then(kc n.toNat z.toNat:Int)else 0
theorem MG{n z:Int}(h:n<0\/z<1\/64<z):planE n z=1/\planK n z=0:=by
 have e:planE n z=1:=if_pos h;exact⟨e,by unfold planK;rw[e];rfl⟩
theorem TG{n:Nat}(a:1<=z)(b:z<=64)(h:128<kc n z):planE (n:Int) (z:Int)=2/\planK (n:Int) (z:Int)=0:=by
 have e:planE (n:Int) (z:Int)=2:=by
  unfold planE;rw[if_neg (by omega),if_pos (by simpa using h)]
 exact⟨e,by unfold planK;rw[e];rfl⟩
theorem MY{n:Nat}(a:1<=z)(b:z<=64)(h:kc n z<=128):planE (n:Int) (z:Int)=0/\planK (n:Int) (z:Int)=(kc n z:Int):=by
 have e:planE (n:Int) (z:Int)=0:=by
  unfold planE;rw[if_neg (by omega),if_neg (by simp;omega)]
 exact⟨e,by unfold planK;rw[e];simp⟩
theorem ro{n:Nat}{z:Int}(h:planE (n:Int) z=0):∃Z:Nat,z=(Z:Int)/\1<=Z/\Z<=64/\kc n Z<=128:=by
 unfold planE at h;split at h
 ·omega
 ·rename_i b
  obtain⟨Z,rfl⟩:∃Z:Nat,z=(Z:Int):=⟨z.toNat,by omega⟩;split at h
  ·omega
  ·rename_i a
   simp only[Int.toNat_natCast]at a;exact⟨Z,rfl,by omega,by omega,by omega⟩
def H4(z:Nat)(t:List Nat):List Nat:=t++List.replicate (z-t.length) 0
def blk(xs:List Nat)(z i:Nat):List Nat:=H4 z ((xs.drop (i*z)).take z)
def Bw(xs:List Nat)(z k:Nat):List ByteArray:=(List.range k).map fun i=>st (blk xs z i)
theorem iQ(z:Nat)(t:List Nat)(h:t.length<=z):(H4 z t).length=z:=by
 unfold H4;rw[List.length_append,List.length_replicate];omega
theorem Og(xs:List Nat)(z i:Nat):(blk xs z i).length=z:=iQ _ _ (List.length_take_le _ _)
theorem IX(xs:List Nat)(z k:Nat):(Bw xs z k).length=k:=by simp[Bw]
theorem NH(xs:List Nat)(z k:Nat):Bw xs z (k+1)=Bw xs z k++[st (blk xs z k)]:=by
 simp[Bw,List.range_succ]
theorem mp{t:List Nat}(h:bytes t):bytes (H4 z t):=by
 intro x a;rcases List.mem_append.1 a with a|a
 ·exact h x a
 ·rw[(List.mem_replicate.1 a).2];decide
theorem Tw{xs:List Nat}(h:bytes xs)(z i:Nat):bytes (blk xs z i):=mp (Gd (Hk h _) _)
def joinL(ss:List ByteArray):List Nat:=ss.flatMap tx
theorem Ou(ss:List ByteArray)(s:ByteArray):joinL (ss++[s])=joinL ss++tx s:=by simp[joinL]
theorem SZ(ss:List ByteArray)(k:Nat)(h:k<ss.length):joinL (ss.take (k+1))=joinL (ss.take k)++tx (ss.getD k ByteArray.empty):=by
 rw[List.take_succ_eq_append_getElem h,Ou];simp[List.getD_eq_getElem?_getD,List.getElem?_eq_getElem h]
theorem R0{xs:List Nat}(a:bytes xs)(z:Nat):∀k,k*z<=xs.length->joinL (Bw xs z k)=xs.take (k*z)
 |0,_=>by simp[Bw,joinL]
 |k+1,h=>by
  rw[Nat.add_mul,Nat.one_mul]at h;rw[NH,Ou,R0 a z k (by omega),DE (Tw a z k),Nat.add_mul,Nat.one_mul,List.take_add];congr 1;unfold blk H4;rw[List.length_take,List.length_drop];rw[show z-min z (xs.length-k*z)=0 by omega];simp
theorem mD{xs:List Nat}(b:bytes xs)(z k:Nat)(d:1<=k)(h:xs.length<=k*z)(a:k=1\/(k-1)*z<xs.length):(joinL (Bw xs z k)).take xs.length=xs:=by
 obtain⟨j,rfl⟩:∃j,k=j+1:=⟨k-1,by omega⟩;have c:j*z<=xs.length:=by
  rcases a with a|a
  ·obtain rfl:j=0:=by omega
   omega
  ·simp at a;omega
 rw[NH,Ou,R0 b z j c,DE (Tw b z j)];rw[Nat.add_mul,Nat.one_mul]at h;have e:(xs.drop (j*z)).take z=xs.drop (j*z):=List.take_of_length_le (by rw[List.length_drop];omega);unfold blk H4;rw[e,<-List.append_assoc,List.take_append_drop,List.take_append_of_le_length (Nat.le_refl _),List.take_length]
theorem dW(xs:List Nat)(z k:Nat)(b:z<=64):shorts (Bw xs z k):=by
 intro s a;obtain⟨i,_,rfl⟩:=List.mem_map.1 a;rw[Dw,Og];omega
theorem Su(xs:List Nat)(z k i:Nat)(h:i<k):(Bw xs z k).getD i ByteArray.empty=st (blk xs z i):=by
 unfold Bw;rw[List.getD_eq_getElem?_getD,List.getElem?_map,List.getElem?_range h];rfl
structure Eu where
 kd:Int
 a:Option Addr
 n:Nat
 c:Nat
 tos:List Int
def Eu.dflt:Eu:=⟨0,none,0,0,[]⟩
structure A4 where
 a:Option Addr
 n:Nat
 c:Nat
 ds:List Eu
 obj:ByteArray
 size:Int
 spread:Int
 buffer:Int
 queue:Int
 cache:Int
 rate:Nat
 timeout:Int
 target:Int
def A4.val(f:A4):Value:=.agg #[.slice f.a f.n f.c,.string f.obj,.int .i64 f.size,.int .i64 f.spread,.int .i64 f.buffer,.int .i64 f.queue,.int .i64 f.cache,.float .f64 f.rate,.int .i64 f.timeout,.int .i64 f.target]
def BL(w:World)(a:Option Addr)(n:Nat)(ds:List Eu):Prop:=
 ds.length=n/\(∀i,i<n->IntzAt w (ds.getD i .dflt).a (ds.getD i .dflt).n (ds.getD i .dflt).tos)/\(n=0\/∃b off,a=some ⟨b,off,none⟩/\∀i,i<n->w.cell? ⟨b,off+i*2,none⟩=some (.int .i64 (ds.getD i .dflt).kd)/\w.cell? ⟨b,off+i*2+1,none⟩=some (.slice (ds.getD i .dflt).a (ds.getD i .dflt).n (ds.getD i .dflt).c))
theorem BL.at{a:Option Addr}{n:Nat}{ds:List Eu}(h:BL w a n ds){i:Nat}(e:i<n):∃b off,a=some ⟨b,off,none⟩/\∀i,i<n->w.cell? ⟨b,off+i*2,none⟩=some (.int .i64 (ds.getD i .dflt).kd)/\w.cell? ⟨b,off+i*2+1,none⟩=some (.slice (ds.getD i .dflt).a (ds.getD i .dflt).n (ds.getD i .dflt).c):=by
 rcases h.2.2 with d|d
 ·omega
 ·exact d
theorem BL.below{w':World}{a:Option Addr}{n:Nat}{ds:List Eu}(h:BL w a n ds)(e:Below w.heap.size w w'):BL w' a n ds:=by
 refine⟨h.1,fun i c=>(h.2.1 i c).below e,?_⟩;rcases h.2.2 with f|⟨b,off,rfl,d⟩
 ·exact .inl f
 ·exact .inr ⟨b,off,rfl,fun i c=>⟨(e.cell (p:=⟨b,off+i*2,none⟩) (World.block_lt_of_cell? w _ (d i c).1)).trans (d i c).1,(e.cell (p:=⟨b,off+i*2+1,none⟩) (World.block_lt_of_cell? w _ (d i c).2)).trans (d i c).2⟩⟩
def BC(xs:List Int)(id n:Int):Prop:=(xs.length:Int)<n/\∀i,i<xs.length->(0<=xs.getD i 0/\xs.getD i 0<=n-1)/\xs.getD i 0≠id/\∀k,k<i->xs.getD k 0≠xs.getD i 0
def LG(f:A4):Prop:=(1<=f.n/\f.n<=8)/\(0<=f.spread/\f.spread<=128)/\(1<=f.buffer/\f.buffer<=256)/\(1<=f.queue/\f.queue<=256)/\(0<=f.cache/\f.cache<=256)/\(0<=f.timeout/\f.timeout<=1048576)/\(1<=f.target/\f.target<=128)
def cP(f:A4)(i:Nat):Prop:=(1<=(f.ds.getD i .dflt).kd/\(f.ds.getD i .dflt).kd<=3)/\BC (f.ds.getD i .dflt).tos i f.n
def srcN(ds:List Eu):Nat->Nat
 |0=>0
 |k+1=>srcN ds k+if (ds.getD k .dflt).kd=1 then 1 else 0
theorem Xt(ds:List Eu)(k:Nat):srcN ds k<=k:=by
 induction k with
 |zero=>exact Nat.le_refl _
 |succ k a=>unfold srcN;split<;>omega
def LF(f:A4):Prop:=LG f/\(∀i,i<f.n->cP f i)/\srcN f.ds f.n=1
def Bl(f:A4)(en:Int):Prop:=(LF f/\en=planE f.obj.size f.size)\/(¬LF f/\en=1)
theorem Bl.uniq{f:A4}{x y:Int}(h:Bl f x)(k:Bl f y):x=y:=by
 rcases h with⟨a,b⟩|⟨a,b⟩<;>rcases k with⟨c,d⟩|⟨c,d⟩
 ·rw[b,d]
 ·exact absurd a c
 ·exact absurd c a
 ·rw[b,d]
theorem JJ:(Tryz.prog.info? 25).map (·.size)=some 10:=by kernel_rfl
variable {fuel:Nat}{H:Type}{v:Value}{w W:World}
theorem Xz : Tryz.prog.globalNamed "bucketline/soliton.plain" = some 1 := by kernel_rfl
theorem Yp:(Tryz.prog.globals[1]?).map (·.type)=some 362:=by kernel_rfl
theorem YK:Tryz.prog.cellsOf 362=127:=by kernel_rfl
theorem YG:Tryz.prog.cellsOf 112=1:=by kernel_rfl
def CI:List Int:=[524288,174762,87381,52428,34952,24966,18724,14563,11650,9532,7943,6721,5761,4993,4369,3855,3426,3066,2759,2496,2269,2072,1899,1747,1613,1493,1387,1291,1205,1127,1057,992,934,881,832,787,745,707,672,639,608,580,554,529,506,485,464,445,427,411,395,380,366,353,340,328,317,306,296,286,277,268,260,252,244,237,230,223,217,210,205,199,194,188,183,179,174,170,165,161,157,154,150,146,143,140,136,133,130,128,125,122,119,117,114,112,110,108,105,103,101,99,97,96,94,92,90,89,87,85,84,82,81,79,78,77,75,74,73,72,71,69,68,67,66,65,64]
theorem iZ:CI.length=127:=by decide+kernel
theorem iY(i:Nat)(a:i<127):CI.getD i 0=((1048576/((i+2)*(i+1)):Nat):Int):=by
 have h:∀j:Fin 127,CI.getD j.val 0=((1048576/((j.val+2)*(j.val+1)):Nat):Int):=by decide+kernel
 exact h ⟨i,a⟩
theorem lK{P:Program}{x:String×DataW Unit}{r:List (String×DataW Unit)}(h:laidMet P (x::r) w):laidMet P r w:=by
 obtain⟨ps,⟨g,t,cs,fuel,p,q,_,_,_,_,d,rfl⟩,c,a⟩:=h;exact⟨q,d,(List.nodup_append.1 c).2.1,fun b off hp=>a b off (List.mem_append_right _ hp)⟩
set_option maxRecDepth 100000 in
theorem bZ {W : World} (h : laidMetH Tryz.prog Rows.netChecksRow.laid W) : Lib.TabIs Tryz.prog W "bucketline/soliton.plain" .u32 CI :=
 Lib.tabIs_of_head (rest:=[]) Xz Yp Tryz.underlying362 Tryz.underlying112 YG YK (lK h)
structure Bt(w:World):Prop where
 tab:Tab w
 pl:B8 w
theorem Bt.below{w':World}(h:Bt w)(a:Below w.heap.size w w'):Bt w':=⟨h.tab.below a,h.pl.below a⟩
theorem Zd(h:laidMetH Tryz.prog Rows.netChecksRow.laid W):Bt W:=
 ⟨bY h,fun i a=>by rw[(bZ h).cell Xz i (by rw[iZ];exact a),iY i a]⟩
theorem qK{b:Nat}(h:(Lit.float .f64 b).wf=true):b<18446744073709551616:=by simpa [Lit.wf]using h
theorem gO{enc:TypeId×Value->H}{x:DataW H×List MemPlace}
  (h:DataW.trod enc Tryz.prog W 0 (fun _=>true) true fuel 23 [v]=some x):∃b,v=.float .f64 b/\b<18446744073709551616:=by
 cases fuel with
 |zero=>simp[DataW.trod]at h
 |succ fuel=>
  cases v<;>simp[DataW.trod,Tryz.underlying23]at h;obtain⟨⟨rfl,h⟩,_⟩:=h;exact⟨_,rfl,qK h⟩
theorem fk{enc:TypeId×Value->H}{x:DataW H×List MemPlace}
  (h:DataW.trod enc Tryz.prog W 0 (fun _=>true) true fuel 27 [v]=some x):∃a len cap xs,v=.slice a len cap/\IntzAt W a len xs/\len<=9223372036854775807/\(a=none->len=0/\cap=0)/\len<=cap:=by
 rcases open_ints Tryz.underlying27 Tryz.underlying3 (by kernel_rfl) h with⟨f,_⟩|⟨x,l,c,n,f,_,m,r,u,_,d,s⟩
 ·simp only[List.cons.injEq,and_true]at f
  exact⟨_,_,_,[],f,⟨rfl,.inl rfl⟩,by decide,fun _=>⟨rfl,rfl⟩,Nat.le_refl _⟩
 ·simp only[List.cons.injEq,and_true]at f
  have y:n.length=c:=by simpa using u
  refine⟨_,_,_,n.take l,f,⟨by simp;omega,?_⟩,Nat.le_trans m (K4 r),(fun e=>by cases e),m⟩;by_cases o:l=0
  ·exact .inl o
  ·obtain⟨b,off,k⟩:=x
   have p:=d 0 (by omega);have g:k=none:=by simpa [Addr.add]using World.cell?_spot p
   subst g;refine .inr ⟨b,off,rfl,fun i q=>?_⟩;have j:=d i (by omega);rw[Iv]at j;rw[j];simp[List.getD_eq_getElem?_getD,q]
theorem YJ:Tryz.prog.cellsOf 29=2:=by kernel_rfl
theorem YH:Tryz.prog.cellsOf 25=10:=by kernel_rfl
theorem qE{enc:TypeId×Value->H}{cs:List Value}{x:DataW H×List MemPlace}(e:cs.length=2)
  (h:DataW.trod enc Tryz.prog W 0 (fun _=>true) true fuel 29 cs=some x):∃d:Eu,cs=[.int .i64 d.kd,.slice d.a d.n d.c]/\IntzAt W d.a d.n d.tos/\d.n<=9223372036854775807/\(d.a=none->d.n=0/\d.c=0)/\d.n<=d.c:=by
 match cs,e with
 |[c0,c1],_=>
  obtain⟨f,n,_,_,_,b,g⟩:=DataW.trod_struct Tryz.underlying29 h;have r:f.length=2:=b;obtain⟨s,j⟩:=Dy (l:=f) (i:=0) (by omega);obtain⟨u,k⟩:=Dy (l:=f) (i:=1) (by omega);obtain⟨kd,rfl⟩:=E0 ((g 0 _ rfl).trans j);obtain⟨a,len,cap,xs,rfl,m,o,p,q⟩:=fk ((g 1 _ rfl).trans k);exact⟨⟨kd,a,len,cap,xs⟩,rfl,m,o,p,q⟩
theorem Vw(Q:Nat->Eu->Prop):∀n,(∀i,i<n->∃r,Q i r)->∃rs:List Eu,rs.length=n/\∀i,i<n->Q i (rs.getD i .dflt)
 |0,_=>⟨[],rfl,fun i a=>by omega⟩
 |n+1,h=>by
  obtain⟨rs,b,c⟩:=Vw Q n (fun i a=>h i (by omega));obtain⟨r,hp⟩:=h n (by omega);refine⟨rs++[r],by simp[b],fun i a=>?_⟩;by_cases e:i<n
  ·have:=c i e
   rwa[show(rs++[r]).getD i .dflt=rs.getD i .dflt from by simp[List.getD_eq_getElem?_getD,List.getElem?_append_left (show i<rs.length by omega)]]
  ·obtain rfl:i=n:=by omega
   rwa[show(rs++[r]).getD i .dflt=r from by simp[List.getD_eq_getElem?_getD,<-b]]
structure Bz(w:World)(f:A4):Prop where
 nds:BL w f.a f.n f.ds
 len:f.n<=9223372036854775807
 obj:f.obj.size<=9223372036854775807
 rate:f.rate<18446744073709551616
 tos:∀i,i<f.n->(f.ds.getD i .dflt).n<=9223372036854775807/\((f.ds.getD i .dflt).a=none->(f.ds.getD i .dflt).n=0/\(f.ds.getD i .dflt).c=0)
 caps:∀i,i<f.n->(f.ds.getD i .dflt).n<=(f.ds.getD i .dflt).c
theorem lI{enc:TypeId×Value->H}{y:DataW H×List MemPlace}
  (N:DataW.trod enc Tryz.prog W 0 (fun _=>true) true fuel 22 [v]=some y):∃a len cap f,v=.slice a len cap/\BL W a len f/\len<=9223372036854775807/\∀i,i<len->(f.getD i .dflt).n<=9223372036854775807/\((f.getD i .dflt).a=none->(f.getD i .dflt).n=0/\(f.getD i .dflt).c=0)/\(f.getD i .dflt).n<=(f.getD i .dflt).c:=by
 rcases Go.Deep.open_slice Tryz.underlying22 N with⟨e,_⟩|⟨x,l,c,m,n,D,S,e,_,T,O,A,_,R⟩
 ·simp only[List.cons.injEq,and_true]at e
  exact⟨_,_,_,[],e,⟨rfl,fun i g=>by omega,.inl rfl⟩,by decide,fun i g=>by omega⟩
 ·simp only[List.cons.injEq,and_true]at e
  have P:m=c:=by simpa using A
  have E:=K4 O
  obtain⟨f,B,s⟩:=Vw (fun i d=>(∀j u,[(.int .i64 d.kd:Value),.slice d.a d.n d.c][j]? =some u->W.cell? ((x.add (i*2)).add j)=some u)/\IntzAt W d.a d.n d.tos/\d.n<=9223372036854775807/\(d.a=none->d.n=0/\d.c=0)/\d.n<=d.c) l (fun i g=>by
   obtain⟨J,C,L⟩:=R i (by omega);rw[YJ]at C;obtain⟨_,o,h⟩:=World.cells?_some C;obtain⟨p,rfl,Q⟩:=qE o L;exact⟨p,fun j u I=>(h j (by have:=(List.getElem?_eq_some_iff.1 I).1;simpa using this)).trans I,Q⟩)
  refine⟨_,_,_,f,e,⟨B,fun i g=>(s i g).2.1,?_⟩,by omega,fun i g=>(s i g).2.2⟩;by_cases K:l=0
  ·exact .inl K
  ·obtain⟨b,off,q⟩:=x
   have r:=(s 0 (by omega)).1 0 _ rfl;have k:q=none:=by simpa [Addr.add]using World.cell?_spot r
   subst k;refine .inr ⟨b,off,rfl,fun i g=>?_⟩;have r:=(s i g).1;refine⟨?_,?_⟩
   ·have:=r 0 _ rfl;rwa[Iv,Iv]at this
   ·have:=r 1 _ rfl;rwa[Iv,Iv]at this
theorem aL{enc:TypeId×Value->H}{base:Nat}{d:DataW H}{ps:List MemPlace}(D:Value.okWide Tryz.prog W .any base 25 v)
  (h:DataW.Trod enc Tryz.prog W 0 (fun _=>true) true 25 v d ps):∃f:A4,v=f.val/\Bz W f:=by
 obtain⟨cs,rfl,k⟩:=okWide_struct Tryz.underlying25 D;obtain⟨fuel,b⟩:=h;obtain⟨cs⟩:=cs
 match cs,k.trans YH with
 |[c0,c1,c2,c3,c4,c5,R,S,T,V],_=>
  obtain⟨c,n,_,_,_,e,b⟩:=DataW.trod_struct Tryz.underlying25 b;have X:c.length=10:=e;obtain⟨Y,m⟩:=Dy (l:=c) (i:=0) (by omega);obtain⟨Z,o⟩:=Dy (l:=c) (i:=1) (by omega);obtain⟨y2,p⟩:=Dy (l:=c) (i:=2) (by omega);obtain⟨y3,q⟩:=Dy (l:=c) (i:=3) (by omega);obtain⟨y4,r⟩:=Dy (l:=c) (i:=4) (by omega);obtain⟨y5,u⟩:=Dy (l:=c) (i:=5) (by omega);obtain⟨y6,x⟩:=Dy (l:=c) (i:=6) (by omega);obtain⟨y7,y⟩:=Dy (l:=c) (i:=7) (by omega);obtain⟨y8,A⟩:=Dy (l:=c) (i:=8) (by omega);obtain⟨y9,B⟩:=Dy (l:=c) (i:=9) (by omega);obtain⟨a,len,cap,E,rfl,C,g2,j⟩:=lI ((b 0 _ rfl).trans m);obtain⟨s,rfl,gs⟩:=rS ((b 1 _ rfl).trans o);obtain⟨I,rfl⟩:=E0 ((b 2 _ rfl).trans p);obtain⟨J,rfl⟩:=E0 ((b 3 _ rfl).trans q);obtain⟨K,rfl⟩:=E0 ((b 4 _ rfl).trans r);obtain⟨L,rfl⟩:=E0 ((b 5 _ rfl).trans u);obtain⟨N,rfl⟩:=E0 ((b 6 _ rfl).trans x);obtain⟨O,rfl,gr⟩:=gO ((b 7 _ rfl).trans y);obtain⟨P,rfl⟩:=E0 ((b 8 _ rfl).trans A);obtain⟨Q,rfl⟩:=E0 ((b 9 _ rfl).trans B);exact⟨⟨a,len,cap,E,s,I,J,K,L,N,O,P,Q⟩,rfl,⟨C,g2,gs,gr,fun i g=>⟨(j i g).1,(j i g).2.1⟩,fun i g=>(j i g).2.2⟩⟩
theorem Bz.below{w':World}{f:A4}(h:Bz w f)(a:Below w.heap.size w w'):Bz w' f:=⟨h.nds.below a,h.len,h.obj,h.rate,h.tos,h.caps⟩
end Go.Proofs.YtfpmnekaockodaaGreatDoor
