/-
  Laws that the proof stands on.
-/
import Derived.Test.YtmmikiikddokgaaGreatDoorU6
import Derived.ProofKit
import Derived.OpenShut
import Derived.ShutString
import Derived.ChangeOld
import Derived.ChangeMaps5
import Derived.SliceStrings
import Derived.Deep.SlicePairs
import Derived.Deep.DeepHandedRow
import Derived.Lib.LaidTab
import Derived.Below
import Derived.Lib.BitFns
namespace Go.Proofs.YtmmikiikddokgaaGreatDoor
open Go.RowKit Go.Sort Go.ChangeShapes Go.WideShapes Go.ChangeAt
set_option linter.unusedVariables false
set_option linter.unusedSimpArgs false
set_option maxRecDepth 4000
set_option maxHeartbeats 8000000
variable {ss:List ByteArray}{g:Nat}{w:World}
theorem IQ{k:Int}{rs:List RV}(h:sizeOfK k=0):AM k rs [] (List.replicate k.toNat ByteArray.empty)/\toldTo k [] (List.replicate k.toNat ByteArray.empty) k.toNat=[]/\restL k rs [] (List.replicate k.toNat ByteArray.empty)=[]:=by
 have a:∀xs,AU k xs=false:=fun xs=>by
  rw[<-Bool.not_eq_true];intro c;have:=(F7 c).1;omega
 refine⟨⟨⟨0,by rw[h];rfl,rfl⟩,?_⟩,?_,?_⟩
 ·rw[List.find?_eq_none]
  intro r _;unfold Cu;rw[a];simp
 ·unfold toldTo
  rw[List.filter_eq_nil_iff.2 (fun b _=>by rw[Vx];simp)];rfl
 ·unfold restL
  rw[List.filter_eq_nil_iff.2 (fun r _=>by unfold Ft;rw[a];simp)];rfl
theorem pi(k:Int)(a:Option Addr)(n c:Nat)(rs:List RV)(w:World)(ht:Tab w)(h:Aj w a n rs)(u:Af rs)(A:n<=1048576):
  Calls Tryz.prog 254 #[.int .i64 k,.slice a n c] w fun e w'=> ∃o v c1 l p x c2 m,e=.returned (.tuple #[.slice o v c1,.slice p x c2])/\DF w w' k rs o v c1 l p x c2 m:=by
 by_cases j:sizeOfK k=0
 ·have f:=Hc k w
  rw[j]at f;have f:=Ab f;obtain⟨q,r,s⟩:=IQ (rs:=rs) j;have y:Hid (DF w w k rs none 0 0 [] none 0 0 []):=Ab ⟨_,_,q,Ak.nil _ _,Ae.nil _,r.symm,Ak.nil _ _,Ae.nil _,s.symm,Below.refl _ _⟩;clear h u ht q r s j;go_enter Tryz.func254,Tryz.ntmps254;go_wp2_with (first|(go_at_call 176;refine(Aa f).mono ?_;rintro e B ⟨rfl,d⟩;obtain rfl:=d.symm;clear d));go_ret2;exact⟨none,0,0,[],none,0,0,[],rfl,Aa y⟩
 ·have b:0<sizeOfK k:=by omega
  have i:=DX b;obtain⟨K,rfl⟩:=Int.eq_ofNat_of_zero_le (show 0<=k by omega);exact oy K a n c rs w ht b h u A
def A2(w:World)(g:Nat)(ss:List ByteArray):Prop:=∀i,i<ss.length->w.cell? ⟨g,i,none⟩=some (.string (ss.getD i ByteArray.empty))/\w.frozen? ⟨g,i,none⟩=false
theorem A2.texts(h:A2 w g ss):As w (some ⟨g,0,none⟩) ss.length ss:=
 ⟨rfl,.inr ⟨g,0,rfl,fun i a=>by rw[Nat.zero_add];exact(h i a).1⟩⟩
theorem A2.alloc(h:A2 w g ss)(a:g<w.heap.size)(o:Obj):A2 (w.alloc o) g ss:=fun i b=>
 ⟨(World.cell?_alloc_lt (h:=by exact a) ..).trans (h i b).1,(World.frozen?_alloc_old (h:=by exact Nat.ne_of_lt a) ..).trans (h i b).2⟩
theorem Sx(ss:List ByteArray)(k i:Nat)(z:ByteArray)(a:k<ss.length):(ss.set k z).getD i ByteArray.empty=if i=k then z else ss.getD i ByteArray.empty:=by
 simp only[List.getD_eq_getElem?_getD,List.getElem?_set];by_cases h:k=i
 ·subst h;simp[a]
 ·simp[h,Ne.symm h]
theorem A2.stored(h:A2 w g ss)(k:Nat)(z:ByteArray)(c:k<ss.length):A2 (w.setCell ⟨g,k,none⟩ (.string z)) g (ss.set k z):=by
 intro i a;rw[List.length_set]at a;refine⟨?_,by rw[World.frozen?_setCell];exact(h i a).2⟩;rw[Sx ss k i z c];by_cases e:i=k
 ·subst e
  rw[if_pos rfl];exact World.cell?_setCell_same _ _ _ (h i a).1
 ·rw[if_neg e]
  have b:(⟨g,k,none⟩:Addr)≠⟨g,i,none⟩:=fun h=>e (by injection h with _ h;exact h.symm);exact(World.cell?_setCell_other (h:=b) ..).trans (h i a).1
def Gp(rs:List RV)(k:Nat):List ByteArray:=(List.range rs.length).map fun i=>if i<k then(rs.getD i .dflt).s else ByteArray.empty
theorem G5(rs:List RV)(k:Nat):(Gp rs k).length=rs.length:=by simp[Gp]
theorem L5(rs:List RV)(k i:Nat):(Gp rs k).getD i ByteArray.empty=if i<k/\i<rs.length then(rs.getD i .dflt).s else ByteArray.empty:=by
 unfold Gp;rw[List.getD_eq_getElem?_getD];by_cases a:i<rs.length
 ·simp[a]
 ·simp[a]
theorem Q4{a b:List ByteArray}(e:a.length=b.length)(h:∀i,i<a.length->a.getD i ByteArray.empty=b.getD i ByteArray.empty):a=b:=by
 apply List.ext_getElem e;intro i c d;have:=h i c;simpa [List.getD_eq_getElem?_getD,List.getElem?_eq_getElem c,List.getElem?_eq_getElem d]using this
theorem kC(rs:List RV)(k:Nat)(c:k<rs.length):(Gp rs k).set k (rs.getD k .dflt).s=Gp rs (k+1):=by
 apply Q4
 ·rw[List.length_set,G5,G5]
 ·intro i a
  rw[List.length_set,G5]at a;rw[Sx _ _ _ _ (by rw[G5];exact c),L5,L5];by_cases e:i=k
  ·subst e;simp[a]
  ·rw[if_neg e]
   by_cases b:i<k
   ·rw[if_pos ⟨b,a⟩,if_pos ⟨by omega,a⟩]
   ·rw[if_neg (by omega),if_neg (by omega)]
theorem od(rs:List RV):Gp rs rs.length=rs.map fun r=>r.s:=by
 apply Q4
 ·simp[G5]
 ·intro i a
  rw[G5]at a;rw[L5,if_pos ⟨a,a⟩];simp[List.getD_eq_getElem?_getD,List.getElem?_eq_getElem a]
theorem lc{wr:World}{b k:Nat}{rs:List RV}{x y u v:Value}(f:A2 wr g (Gp rs k))(e:k<rs.length)(j:g<wr.heap.size)(h:Ba wr b x y)(d:g≠b)(i:Below w.heap.size w wr)(c:w.heap.size<=g):
  A2 ((wr.setCell ⟨g,k,none⟩ (.string (rs.getD k .dflt).s)).alloc (.cells #[u,v] 73)) g (Gp rs (k+1))/\
  Ba ((wr.setCell ⟨g,k,none⟩ (.string (rs.getD k .dflt).s)).alloc (.cells #[u,v] 73)) b x y/\
  Below w.heap.size w ((wr.setCell ⟨g,k,none⟩ (.string (rs.getD k .dflt).s)).alloc (.cells #[u,v] 73))/\
  g<((wr.setCell ⟨g,k,none⟩ (.string (rs.getD k .dflt).s)).alloc (.cells #[u,v] 73)).heap.size:=by
 have a:=i.setCell (p:=⟨g,k,none⟩) (by exact c) (.string (rs.getD k .dflt).s);refine⟨?_,(h.other _ _ d).alloc _,a.alloc a.size _,by simp;omega⟩;rw[<-kC rs k e];exact(f.stored k _ (by rw[G5];exact e)).alloc (by simpa using j) _
theorem nc:(Tryz.prog.info? 9).map (fun i=>(i.zero,i.size,i.bytes))=some (some (.string ByteArray.empty),1,16):=by kernel_rfl
theorem dU(w:World)(n:Nat)(rs:List RV)(b:rs.length=n):A2 (w.alloc (.cells (madeCells (Value.string ByteArray.empty).cells (n*1)) 9)) w.heap.size (Gp rs 0):=by
 intro i a;rw[G5]at a;refine⟨?_,by simp⟩;rw[World.cell?_alloc_new,L5,if_neg (by omega)];rw[show(Value.string ByteArray.empty).cells=#[Value.string ByteArray.empty] from rfl,<-Array.getElem?_toList,toList_madeCells_one,Nat.mul_one];simp[show i<n from by omega]
theorem Y8(a:Option Addr)(n c:Nat)(rs:List RV)(w:World)(h:Aj w a n rs)(J:Af rs)(hn:n<=1048576)(hc:n<=c)(Y:c<=9223372036854775807):
  Calls Tryz.prog 275 #[.slice a n c] w fun e w'=> ∃v,e=.returned (.agg #[v,.string (st (Cy (rs.map fun r=>r.s)))])/\Own w' w.heap.size v (AN rs)/\Below w.heap.size w w':=by
 obtain rfl:=h.1;obtain⟨i0,I,K,L,N⟩:=info_parts nc;have d:=run_make (P:=Tryz.prog) (w.alloc (.cells #[.slice none 0 0,.string ⟨#[]⟩] 73)) 66 9 i0 (.string ByteArray.empty) Tryz.underlying66 I K .i64 .i64 (rs.length:Int) (rs.length:Int) (by omega) (by omega) (by rw[N];omega) (by omega);simp only[Int.toNat_natCast]at d;rw[L]at d;have hX:=(JB w (.slice none 0 0) (.string ⟨#[]⟩)).alloc (.cells (madeCells (Value.string ByteArray.empty).cells (rs.length*1)) 9);have X:=dU (w.alloc (.cells #[.slice none 0 0,.string ⟨#[]⟩] 73)) rs.length rs rfl;have hb:=GI (Below.refl _ w) (Below.refl ((w.alloc (.cells #[.slice none 0 0,.string ⟨#[]⟩] 73)).alloc (.cells (madeCells (Value.string ByteArray.empty).cells (rs.length*1)) 9)).heap.size _);have x:(w.alloc (.cells #[.slice none 0 0,.string ⟨#[]⟩] 73)).heap.size<((w.alloc (.cells #[.slice none 0 0,.string ⟨#[]⟩] 73)).alloc (.cells (madeCells (Value.string ByteArray.empty).cells (rs.length*1)) 9)).heap.size:=by simp
 rw[Bc]at d X x;generalize ((w.alloc (.cells #[.slice none 0 0,.string ⟨#[]⟩] 73)).alloc (.cells (madeCells (Value.string ByteArray.empty).cells (rs.length*1)) 9))=w1 at*;have HX:=Ab hX;have HT:=Ab X;have HB:=Ab hb;have HG:=Ab x;clear hX X hb x I K L N;go_enter Tryz.func275,Tryz.ntmps275;go_wp2;go_loopw [11] (fun i wr=> ∃k:Nat,k<=rs.length/\i=.int .i64 k/\Hid (A2 wr (w.heap.size+1) (Gp rs k))/\Hid (Ba wr w.heap.size (.slice none 0 0) (.string ⟨#[]⟩))/\Hid (Below w.heap.size w wr)/\Hid (w.heap.size+1<wr.heap.size)) (fun i _=>rs.length-(intOf i).toNat)
 case atStart=>exact⟨0,Nat.zero_le _,rfl,HT,HX,HB,HG⟩
 case round=>
  obtain⟨k,hk,rfl,j,o,f,m⟩:=hrel;clear HT HX HB HG d;by_cases l:k<rs.length
  ·obtain⟨b,off,rfl,H⟩:=(h.below (Aa f)).at l
   obtain⟨ad,ae⟩:=H k l;have ac:(k:Int)<(rs.length:Int):=by omega
   have R:=Ab (lc (u:=.slice (rs.getD k .dflt).a (rs.getD k .dflt).n (rs.getD k .dflt).c) (v:=.string (rs.getD k .dflt).s) (Aa j) l (Aa m) (Aa o) (by omega) (Aa f) (by omega));have hold:=(Aa j) k (by rw[G5];exact l);obtain⟨af,ag⟩:=hold;have x:=Aa m;have Hh:=Ab h;have Hs:=Ab J;clear h H J j o f m;generalize rs.getD k .dflt=r at*;go_wp2;go_roundw
   case rel=>exact⟨k+1,by omega,by go_num,Ab (Aa R).1,Ab (Aa R).2.1,Ab (Aa R).2.2.1,Ab (Aa R).2.2.2⟩
   case measure=>simp[intOf];omega
  ·have Z:k=rs.length:=by omega
   subst Z;rw[od]at j;have HR:=Ab (h.below (Aa f))
   have HS:Hid (∀r∈rs,r.xs.length<=10):=Ab (fun r hr=>by
    obtain⟨i,Q,rfl⟩:=List.mem_iff_getElem.1 hr;have G:=(J i).1;have h2:=(h.2.1 i Q).1;rw[List.getD_eq_getElem?_getD,List.getElem?_eq_getElem Q]at G h2;simp only[Option.getD_some]at G h2;omega)
   have V:Hid (shorts (rs.map fun r=>r.s)):=Ab (fun t ht=>by
    obtain⟨r,hr,rfl⟩:=List.mem_map.1 ht;obtain⟨i,Q,rfl⟩:=List.mem_iff_getElem.1 hr;have G:=(J i).2;rw[List.getD_eq_getElem?_getD,List.getElem?_eq_getElem Q]at G;simp only[Option.getD_some]at G;omega)
   have aa:Hid ((rs.map fun r=>r.s).length=rs.length):=Ab (by simp);clear h J l;go_wp2_with fail;refine(qi rs.length a rs.length c rs _ (Nat.le_refl _) (Aa HR) (Aa HS) hn hc Y).mono ?_;rintro e w2 ⟨v2,rfl,y,p⟩;obtain⟨O,c2,rfl,ab⟩:=y.row;clear ab;have A:=(Aa j).texts.below p;rw[Aa aa]at A;have D:=Ab A;have E:=Ab ((Aa o).below p);have B:=Ab (Ad (Aa f) p);have C:=Ab (y.mono (show w.heap.size+1<=_ from by have:=Aa m;omega));clear y p A j o f HR;go_wp2_with fail;refine(WT _ _ _ _ _ (Aa D) (Aa V) hn).mono ?_;rintro e w3 ⟨rfl,q⟩;obtain⟨⟨x0,x1⟩,f0,f1⟩:=(Aa E).below q;have S:=Ab (Ad (Aa B) q);have T:=Ab ((Aa C).below q);clear E D B C q;go_wp2;have y1:=World.cell?_setCell_same (w3.setCell ⟨w.heap.size,0,none⟩ (.slice O (AN rs).length c2)) ⟨w.heap.size,1,none⟩ (.string (st (Cy (rs.map fun r=>r.s)))) ((World.cell?_setCell_other (h:=by simp) ..).trans x1)
   have y0:((w3.setCell ⟨w.heap.size,0,none⟩ (.slice O (AN rs).length c2)).setCell ⟨w.heap.size,1,none⟩ (.string (st (Cy (rs.map fun r=>r.s))))).cell? ⟨w.heap.size,0,none⟩=some (.slice O (AN rs).length c2):=
    (World.cell?_setCell_other (h:=by simp) ..).trans (World.cell?_setCell_same _ _ _ x0)
   exact bodyPost_ret (v:=.agg #[.slice O (AN rs).length c2,.string (st (Cy (rs.map fun r=>r.s)))]) (by simp[results,Tryz.results275,go_sem,y0,y1]) rfl
    ⟨_,rfl,(((Aa T).other _ _ (by omega)).other _ _ (by omega)).mono (by omega),((Aa S).setCell (Nat.le_refl _) _).setCell (Nat.le_refl _) _⟩
variable {W:World}
theorem own:ownKnob Tryz.prog.godebug=none:=by kernel_rfl
theorem XQ:laidOutB Tryz.prog=true:=by kernel_rfl
theorem Rc : Tryz.prog.globalNamed "math/bits.deBruijn64tab" = some 2 := by kernel_rfl
theorem oP:(Tryz.prog.globals[2]?).map (·.type)=some 385:=by kernel_rfl
theorem oU:Tryz.prog.cellsOf 385=64:=by kernel_rfl
theorem YG:Tryz.prog.cellsOf 5=1:=by kernel_rfl
theorem qT {W : World} (h : laidMetH Tryz.prog Rows.netChecksRow.laid W) : Lib.TabIs Tryz.prog W "math/bits.deBruijn64tab" .u8 (Lib.deBruijn64tab.map fun (x : Nat) => (x : Int)) :=
 Lib.tabIs_of_head (rest:=_) Rc oP Tryz.underlying385 Tryz.underlying5 YG oU h
theorem ZH(h:laidMetH Tryz.prog Rows.netChecksRow.laid W):Tab W:=by
 intro i b;have c:(Lib.deBruijn64tab.map fun(x:Nat)=>(x:Int)).length=64:=by decide
 have:=(qT h).cell Rc i (by omega);rw[this];have a:Lib.deBruijn64tab.length=64:=by decide
 have e:i<Lib.deBruijn64tab.length:=by omega
 simp[List.getD_eq_getElem?_getD,List.getElem?_eq_getElem e]
theorem mp(b off i:Nat):(⟨b,off,none⟩:Addr).add i=⟨b,off+i,none⟩:=by
 unfold Addr.add;split
 ·rename_i h;simp_all
 ·rfl
theorem XW{n:Nat}(h:n<=maxLen):n<=9223372036854775807:=by simpa [maxLen]using h
theorem lb{H:Type}{enc:TypeId×Value->H}{n:Nat}{v:Value}{x:DataW H×List MemPlace}
  (h:DataW.trod enc Tryz.prog W 0 (fun _=>true) true n 40 [v]=some x):∃a len cap xs,v=.slice a len cap/\RowAt W a len xs/\len<=9223372036854775807/\len<=cap:=by
 rcases open_ints Tryz.underlying40 Tryz.underlying265 (by kernel_rfl) h with⟨e,_⟩|⟨x,l,c,f,e,_,D,E,I,_,d,q⟩
 ·simp only[List.cons.injEq,and_true]at e
  exact⟨_,_,_,[],e,⟨rfl,(fun _ h=>by cases h),.inl rfl⟩,by decide,Nat.le_refl _⟩
 ·simp only[List.cons.injEq,and_true]at e
  have K:f.length=c:=by simpa using I
  have r:∀z∈f,0<=z/\z<18446744073709551616:=by
   intro z m;have:=bounds_u64 (q z m);omega
  refine⟨_,_,_,(f.take l).map Int.toNat,e,⟨by simp;omega,?_,?_⟩,by have:=XW E;omega,D⟩
  ·intro y G
   obtain⟨z,m,rfl⟩:=List.mem_map.1 G;have:=r z (List.mem_of_mem_take m);show z.toNat<18446744073709551616;omega
  ·by_cases A:l=0
   ·exact .inl A
   ·obtain⟨b,off,p⟩:=x
    have B:=d 0 (by omega);have k:p=none:=by simpa [Addr.add]using World.cell?_spot B
    subst k;refine .inr ⟨b,off,rfl,fun i C=>?_⟩;have o:=d i (by omega);rw[mp]at o;rw[o];have j:i<f.length:=by omega
    have J:=r f[i] (List.getElem_mem j);have s:f.getD i 0=f[i]:=by simp[List.getD_eq_getElem?_getD,List.getElem?_eq_getElem j]
    have u:((f.take l).map Int.toNat).getD i 0=f[i].toNat:=by
     simp[List.getD_eq_getElem?_getD,C,List.getElem?_eq_getElem j]
    rw[s,u];rw[show((f[i].toNat:Nat):Int)=f[i] by omega]
theorem KR{H:Type}{enc:TypeId×Value->H}{b:Nat}{v:Value}{x:DataW H×List MemPlace}
  (h:DataW.trod enc Tryz.prog W 0 (fun _=>true) true b 3 [v]=some x):∃a,v=.int .i64 a:=by
 cases b with
 |zero=>simp[DataW.trod]at h
 |succ b=>
  cases v<;>simp[DataW.trod,Tryz.underlying3]at h;obtain⟨⟨rfl,_⟩,_⟩:=h;exact⟨_,rfl⟩
theorem JO{α:Type}{l:List α}{i:Nat}(h:i<l.length):∃y,l[i]? =some y:=⟨_,List.getElem?_eq_getElem h⟩
variable {z:Nat}{w:World}
def kc(n z:Nat):Nat:=if 0<n%z\/n/z=0 then n/z+1 else n/z
theorem Qb(n z:Nat):1<=kc n z:=by
 unfold kc;generalize n/z=q;generalize n%z=r;split<;>rename_i h<;>omega
theorem Ko(n z:Nat)(b:0<z):n<=kc n z*z:=by
 have a:=Nat.div_add_mod n z;have c:=Nat.mod_lt n b;rw[Nat.mul_comm]at a;unfold kc;split
 ·rw[Nat.add_mul];omega
 ·rename_i h
  have:n%z=0:=by omega
  omega
theorem VE(n z k:Nat)(d:0<z)(f:1<=k)(h:n<=k*z):kc n z<=k:=by
 have c:=Nat.div_add_mod n z;have e:=Nat.mod_lt n d;rw[Nat.mul_comm]at c;unfold kc;split
 ·rename_i b
  rcases b with b|b
  ·rcases Nat.lt_or_ge (n/z) k with a|a
   ·omega
   ·have:=Nat.mul_le_mul_right z a
    omega
  ·omega
 ·rename_i b
  rcases Nat.lt_or_ge k (n/z)with a|a
  ·have:=Nat.mul_le_mul_right z (Nat.succ_le_of_lt a)
   rw[Nat.succ_mul]at this;omega
  ·exact a
theorem pj(n z k:Nat)(b:0<z)(c:1<=k):k<kc n z↔k*z<n:=by
 constructor
 ·intro h
  rcases Nat.lt_or_ge (k*z) n with a|a
  ·exact a
  ·have:=VE n z k b c a
   omega
 ·intro h
  have d:=Ko n z b;rcases Nat.lt_or_ge k (kc n z)with a|a
  ·exact a
  ·have:=Nat.mul_le_mul_right z a
   omega
def planE(n z:Int):Int:=if n<0\/z<1\/64<z then 1 else if 128<kc n.toNat z.toNat then 2 else 0
def planK(n z:Int):Int:=if planE n z=0 then(kc n.toNat z.toNat:Int)else 0
theorem UL{n z:Int}(h:n<0\/z<1\/64<z):planE n z=1/\planK n z=0:=by
 have e:planE n z=1:=if_pos h;exact⟨e,by unfold planK;rw[e];rfl⟩
theorem mG{n:Nat}(a:1<=z)(b:z<=64)(h:128<kc n z):planE (n:Int) (z:Int)=2/\planK (n:Int) (z:Int)=0:=by
 have e:planE (n:Int) (z:Int)=2:=by
  unfold planE;rw[if_neg (by omega),if_pos (by simpa using h)]
 exact⟨e,by unfold planK;rw[e];rfl⟩
theorem PI{n:Nat}(a:1<=z)(b:z<=64)(h:kc n z<=128):planE (n:Int) (z:Int)=0/\planK (n:Int) (z:Int)=(kc n z:Int):=by
 have e:planE (n:Int) (z:Int)=0:=by
  unfold planE;rw[if_neg (by omega),if_neg (by simp;omega)]
 exact⟨e,by unfold planK;rw[e];simp⟩
theorem pD{n:Nat}{z:Int}(h:planE (n:Int) z=0):∃Z:Nat,z=(Z:Int)/\1<=Z/\Z<=64/\kc n Z<=128:=by
 unfold planE at h;split at h
 ·omega
 ·rename_i b
  obtain⟨Z,rfl⟩:∃Z:Nat,z=(Z:Int):=⟨z.toNat,by omega⟩;split at h
  ·omega
  ·rename_i a
   simp only[Int.toNat_natCast]at a;exact⟨Z,rfl,by omega,by omega,by omega⟩
def Ht(z:Nat)(t:List Nat):List Nat:=t++List.replicate (z-t.length) 0
def blk(xs:List Nat)(z i:Nat):List Nat:=Ht z ((xs.drop (i*z)).take z)
def Bu(xs:List Nat)(z k:Nat):List ByteArray:=(List.range k).map fun i=>st (blk xs z i)
theorem iY(z:Nat)(t:List Nat)(h:t.length<=z):(Ht z t).length=z:=by
 unfold Ht;rw[List.length_append,List.length_replicate];omega
theorem NN(xs:List Nat)(z i:Nat):(blk xs z i).length=z:=iY _ _ (List.length_take_le _ _)
theorem IN(xs:List Nat)(z k:Nat):(Bu xs z k).length=k:=by simp[Bu]
theorem No(xs:List Nat)(z k:Nat):Bu xs z (k+1)=Bu xs z k++[st (blk xs z k)]:=by
 simp[Bu,List.range_succ]
theorem kT{t:List Nat}(h:bytes t):bytes (Ht z t):=by
 intro x a;rcases List.mem_append.1 a with a|a
 ·exact h x a
 ·rw[(List.mem_replicate.1 a).2];decide
theorem Tm{xs:List Nat}(h:bytes xs)(z i:Nat):bytes (blk xs z i):=kT (F4 (G7 h _) _)
def joinL(ss:List ByteArray):List Nat:=ss.flatMap tx
theorem N1(ss:List ByteArray)(s:ByteArray):joinL (ss++[s])=joinL ss++tx s:=by simp[joinL]
theorem R2(ss:List ByteArray)(k:Nat)(h:k<ss.length):joinL (ss.take (k+1))=joinL (ss.take k)++tx (ss.getD k ByteArray.empty):=by
 rw[List.take_succ_eq_append_getElem h,N1];simp[List.getD_eq_getElem?_getD,List.getElem?_eq_getElem h]
theorem Rz{xs:List Nat}(a:bytes xs)(z:Nat):∀k,k*z<=xs.length->joinL (Bu xs z k)=xs.take (k*z)
 |0,_=>by simp[Bu,joinL]
 |k+1,h=>by
  rw[Nat.add_mul,Nat.one_mul]at h;rw[No,N1,Rz a z k (by omega),DB (Tm a z k),Nat.add_mul,Nat.one_mul,List.take_add];congr 1;unfold blk Ht;rw[List.length_take,List.length_drop];rw[show z-min z (xs.length-k*z)=0 by omega];simp
theorem lC{xs:List Nat}(b:bytes xs)(z k:Nat)(d:1<=k)(h:xs.length<=k*z)(a:k=1\/(k-1)*z<xs.length):(joinL (Bu xs z k)).take xs.length=xs:=by
 obtain⟨j,rfl⟩:∃j,k=j+1:=⟨k-1,by omega⟩;have c:j*z<=xs.length:=by
  rcases a with a|a
  ·obtain rfl:j=0:=by omega
   omega
  ·simp at a;omega
 rw[No,N1,Rz b z j c,DB (Tm b z j)];rw[Nat.add_mul,Nat.one_mul]at h;have e:(xs.drop (j*z)).take z=xs.drop (j*z):=List.take_of_length_le (by rw[List.length_drop];omega);unfold blk Ht;rw[e,<-List.append_assoc,List.take_append_drop,List.take_append_of_le_length (Nat.le_refl _),List.take_length]
theorem cP(xs:List Nat)(z k:Nat)(b:z<=64):shorts (Bu xs z k):=by
 intro s a;obtain⟨i,_,rfl⟩:=List.mem_map.1 a;rw[Dx,NN];omega
theorem Sc(xs:List Nat)(z k i:Nat)(h:i<k):(Bu xs z k).getD i ByteArray.empty=st (blk xs z i):=by
 unfold Bu;rw[List.getD_eq_getElem?_getD,List.getElem?_map,List.getElem?_range h];rfl
structure F1 where
 kd:Int
 a:Option Addr
 n:Nat
 c:Nat
 tos:List Int
def F1.dflt:F1:=⟨0,none,0,0,[]⟩
structure BU where
 a:Option Addr
 n:Nat
 c:Nat
 ds:List F1
 obj:ByteArray
 size:Int
 spread:Int
 buffer:Int
 queue:Int
 cache:Int
 rate:Nat
 timeout:Int
 target:Int
def BU.val(f:BU):Value:=.agg #[.slice f.a f.n f.c,.string f.obj,.int .i64 f.size,.int .i64 f.spread,.int .i64 f.buffer,.int .i64 f.queue,.int .i64 f.cache,.float .f64 f.rate,.int .i64 f.timeout,.int .i64 f.target]
def BW(w:World)(a:Option Addr)(n:Nat)(ds:List F1):Prop:=
 ds.length=n/\(∀i,i<n->IntzAt w (ds.getD i .dflt).a (ds.getD i .dflt).n (ds.getD i .dflt).tos)/\(n=0\/∃b off,a=some ⟨b,off,none⟩/\∀i,i<n->w.cell? ⟨b,off+i*2,none⟩=some (.int .i64 (ds.getD i .dflt).kd)/\w.cell? ⟨b,off+i*2+1,none⟩=some (.slice (ds.getD i .dflt).a (ds.getD i .dflt).n (ds.getD i .dflt).c))
theorem BW.at{a:Option Addr}{n:Nat}{ds:List F1}(h:BW w a n ds){i:Nat}(e:i<n):∃b off,a=some ⟨b,off,none⟩/\∀i,i<n->w.cell? ⟨b,off+i*2,none⟩=some (.int .i64 (ds.getD i .dflt).kd)/\w.cell? ⟨b,off+i*2+1,none⟩=some (.slice (ds.getD i .dflt).a (ds.getD i .dflt).n (ds.getD i .dflt).c):=by
 rcases h.2.2 with d|d
 ·omega
 ·exact d
theorem BW.below{w':World}{a:Option Addr}{n:Nat}{ds:List F1}(h:BW w a n ds)(e:Below w.heap.size w w'):BW w' a n ds:=by
 refine⟨h.1,fun i c=>(h.2.1 i c).below e,?_⟩;rcases h.2.2 with f|⟨b,off,rfl,d⟩
 ·exact .inl f
 ·exact .inr ⟨b,off,rfl,fun i c=>⟨(e.cell (p:=⟨b,off+i*2,none⟩) (World.block_lt_of_cell? w _ (d i c).1)).trans (d i c).1,(e.cell (p:=⟨b,off+i*2+1,none⟩) (World.block_lt_of_cell? w _ (d i c).2)).trans (d i c).2⟩⟩
def CU(xs:List Int)(id n:Int):Prop:=(xs.length:Int)<n/\∀i,i<xs.length->(0<=xs.getD i 0/\xs.getD i 0<=n-1)/\xs.getD i 0≠id/\∀k,k<i->xs.getD k 0≠xs.getD i 0
def aN(f:BU):Prop:=(1<=f.n/\f.n<=8)/\(0<=f.spread/\f.spread<=128)/\(1<=f.buffer/\f.buffer<=256)/\(1<=f.queue/\f.queue<=256)/\(0<=f.cache/\f.cache<=256)/\(0<=f.timeout/\f.timeout<=1048576)/\(1<=f.target/\f.target<=128)
def aM(f:BU)(i:Nat):Prop:=(1<=(f.ds.getD i .dflt).kd/\(f.ds.getD i .dflt).kd<=3)/\CU (f.ds.getD i .dflt).tos i f.n
def srcN(ds:List F1):Nat->Nat
 |0=>0
 |k+1=>srcN ds k+if (ds.getD k .dflt).kd=1 then 1 else 0
theorem Zd(ds:List F1)(k:Nat):srcN ds k<=k:=by
 induction k with
 |zero=>exact Nat.le_refl _
 |succ k a=>unfold srcN;split<;>omega
def Lq(f:BU):Prop:=aN f/\(∀i,i<f.n->aM f i)/\srcN f.ds f.n=1
def Cm(f:BU)(en:Int):Prop:=(Lq f/\en=planE f.obj.size f.size)\/(¬Lq f/\en=1)
theorem Cm.uniq{f:BU}{x y:Int}(h:Cm f x)(k:Cm f y):x=y:=by
 rcases h with⟨a,b⟩|⟨a,b⟩<;>rcases k with⟨c,d⟩|⟨c,d⟩
 ·rw[b,d]
 ·exact absurd a c
 ·exact absurd c a
 ·rw[b,d]
theorem qO(a:Option Addr)(n c:Nat)(xs:List Int)(w:World)(h:IntzAt w a n xs)(C:n<=1048576)(A:sumZ xs<=4611686018427387904):
  Calls Tryz.prog 230 #[.slice a n c] w fun e w'=>e=.returned (.int .i64 ((sumZ xs:Nat):Int))/\w'=w:=by
 obtain rfl:n=xs.length:=h.1.symm;obtain⟨S,j⟩:∃S,sumZ xs=S:=⟨_,rfl⟩;have l:=Ab (show sumZ (xs.take xs.length)=S by rw[List.take_length];exact j);have m:=Ab (fun k=>Nat.le_trans (NL xs k) (Nat.le_of_eq j));have p:=Ab (fun k v=>OG xs k v);rw[j]at A⊢;clear j;go_enter Tryz.func230,Tryz.ntmps230;go_wp2;go_loop [3,8] (fun t i=> ∃k q:Nat,k<=xs.length/\i=.int .i64 k/\t=.int .i64 (q:Int)/\Hid (q=sumZ (xs.take k))) (fun _ i=>xs.length-(intOf i).toNat)
 case atStart=>exact⟨0,0,Nat.zero_le _,rfl,rfl,Ab rfl⟩
 case round=>
  obtain⟨k,q,v,rfl,rfl,f⟩:=hrel;by_cases d:k<xs.length
  ·obtain⟨b,off,rfl,u⟩:=h.at d
   have r:=u k d;have ht:=Aa p k d;have s:=Aa m (k+1);rw[<-Aa f]at ht;rw[ht]at s;have o:=Ab ht;clear u h p m l f ht;generalize xs.getD k 0=x at*;have B:=Va x;generalize x.toNat=z at*;go_wp2;go_round
   case rel=>exact⟨k+1,q+z,by omega,by go_num,by go_num,Ab (Aa o).symm⟩
   case measure=>simp[intOf];omega
  ·obtain rfl:k=xs.length:=by omega
   have y:=Ab ((Aa f).trans (Aa l));clear h p m l f;go_wp2;go_ret;exact⟨CB (by rw[Aa y]),rfl⟩
theorem YB(l:List Int)(k:Nat)(a:k<l.length):(l.getD k 0).toNat<=sumZ l:=by
 have b:=OG l k a;have c:=NL l (k+1);omega
theorem mi(a:Option Addr)(n c:Nat)(xs:List Int)(d:Nat)(w:World)(h:IntzAt w a n xs)(P:n<=1048576)(I:sumZ xs<=4611686018427387904)(V:d<18446744073709551616):
  Calls Tryz.prog 193 #[.slice a n c,.int .u64 (d:Int)] w fun e w'=>e=.returned (.int .i64 ((pickD xs d:Nat):Int))/\w'=w:=by
 have m:=Ab (qO a n c xs w h P I);obtain rfl:n=xs.length:=h.1.symm;obtain⟨S,o⟩:∃S,sumZ xs=S:=⟨_,rfl⟩;obtain⟨R,r⟩:∃R,pickD xs d=R:=⟨_,rfl⟩;have s:=Ab (fun(L:S=0)=>r.symm.trans (ig (o.trans L) d));have q:=Ab (fun(N:S≠0)=>r.symm.trans (Sa (by rw[o];exact N) d));have E:=Ab (fun k H=>Nat.le_trans (YB xs k H) (Nat.le_of_eq o));rw[o]at I m q;rw[r];clear o r;by_cases J:S=0
 ·subst J
  have j:=Ab (Aa s rfl);clear s q h;go_enter Tryz.func193,Tryz.ntmps193;go_wp2_with (go_at_call 230;refine(Aa m).mono ?_;rintro e w1 ⟨rfl,D⟩;obtain rfl:=D.symm);go_ret;exact⟨CB (by rw[Aa j];rfl),rfl⟩
 ·have j:=Ab (Aa q J)
  have O:d%S<S:=Nat.mod_lt _ (by omega);have C:(d:Int)%(S:Int)=((d%S:Nat):Int):=by simp
  have T:((S:Int)==0)=false:=by simp;omega
  clear s q;generalize d%S=K at*;go_enter Tryz.func193,Tryz.ntmps193;go_wp2_with (go_at_call 230;refine(Aa m).mono ?_;rintro e w1 ⟨rfl,D⟩;obtain rfl:=D.symm);go_loop [6,20] (fun t i=> ∃k x:Nat,k<=xs.length/\i=.int .i64 k/\t=.int .u64 (x:Int)/\x<=K/\Hid (R=Ew (xs.drop k) k x)) (fun _ i=>xs.length-(intOf i).toNat)
  case atStart=>exact⟨0,K,Nat.zero_le _,rfl,by first|rfl|rw[C],Nat.le_refl _,Ab (Aa j)⟩
  case round=>
   obtain⟨k,x,H,rfl,rfl,Y,l⟩:=hrel;by_cases f:k<xs.length
   ·obtain⟨b,off,rfl,G⟩:=h.at f
    have A:=G k f;have v:=Ab (fun B=>(Aa l).trans (mE xs k x f B));have u:=Ab (fun B=>(Aa l).trans (pA xs k x f B));clear G h l j m;have Q:=Aa E k f;clear E;generalize xs.getD k 0=y at*;have X:=Va y;generalize y.toNat=z at*;by_cases p:x<z
    ·have j:=Ab (Aa v p)
     clear v u;go_wp2;go_ret;exact⟨CB (by rw[Aa j];go_num),rfl⟩
    ·have j:=Ab (Aa u p)
     clear v u;go_wp2;go_round
     case rel=>exact⟨k+1,x-z,by omega,by go_num,by go_num,by omega,j⟩
     case measure=>simp[intOf];omega
   ·obtain rfl:k=xs.length:=by omega
    have j:=Ab ((Aa l).trans (mD xs _ _));clear h l m;go_wp2;go_ret;exact⟨CB (by rw[Aa j];rfl),rfl⟩
def BX(w:World):Prop:=∀i,i<127->w.cell? ⟨1,i,none⟩=some (.int .u32 ((1048576/((i+2)*(i+1)):Nat):Int))
theorem BX.below{w':World}(h:BX w)(b:Below w.heap.size w w'):BX w':=fun i a=>(b.cell (World.block_lt_of_cell? w _ (h i a))).trans (h i a)
theorem jF(x:Nat)(a:x<256):Lib.bitLen x=bitLen x:=by
 have h:∀j:Fin 256,Lib.bitLen j.val=bitLen j.val:=by decide+kernel
 exact h ⟨x,a⟩
theorem pn(x:Nat)(a:x<256):Lib.len8 (x:Int)=((bitLen x:Nat):Int):=by
 rw[Lib.len8_of (x:Int) (by omega) (by omega),Int.toNat_natCast,jF x a]
set_option maxRecDepth 100000 in
theorem jR(x:Nat)(b:x<256)(w:World):
  Calls Tryz.prog 295 #[.int .u64 (x:Int)] w fun e w'=>e=.returned (.int .i64 ((bitLen x:Nat):Int))/\w'=w:=by
 have H:=pn x b;have c:=fun W=>Lib.run_index_len8tab (P:=Tryz.prog) W 9 .u8 (x:Int) Tryz.underlying9 (by omega) (by omega);rw[H]at c;clear H;have k:((bitLen x:Nat):Int)<=8:=by have:=bitLen_le8 x b;omega
 have j:(x:Int)<=255:=by omega
 generalize bitLen x=z at*;clear b;go_enter Tryz.func295,Tryz.ntmps295;generalize f:ByteArray.mk (List.toArray _)=T at*;have a:T=Lib.len8tab:=f.symm.trans (by kernel_rfl);clear f;rw[<-a]at c;clear a;generalize d:bodyPost _ _ _=Q at*;have i:=Ab d;clear d
 iterate 20 go_step
 refine wp_cond_split rfl (fun h=>?_) (fun h=>?_)
 ·exact absurd (of_decide_eq_true h) (by omega)
 clear h
 iterate 15 go_step
 refine wp_cond_split rfl (fun h=>?_) (fun h=>?_)
 ·exact absurd (of_decide_eq_true h) (by omega)
 clear h
 iterate 15 go_step
 refine wp_cond_split rfl (fun h=>?_) (fun h=>?_)
 ·exact absurd (of_decide_eq_true h) (by omega)
 clear h;go_wp2;rw[<-Aa i];go_ret;exact⟨rfl,rfl⟩
theorem qN(x:Nat)(b:x<256)(w:World):
  Calls Tryz.prog 267 #[.int .u64 (x:Int)] w fun e w'=>e=.returned (.int .i64 ((bitLen x:Nat):Int))/\w'=w:=by
 have H:=Ab (jR x b w);generalize bitLen x=z at*;go_enter Tryz.func267,Tryz.ntmps267;go_wp2_with (go_at_call 295;refine(Aa H).mono ?_;rintro e w1 ⟨rfl,a⟩;obtain rfl:=a.symm);go_ret;exact⟨rfl,rfl⟩
theorem nA(k d:Nat)(o:1<=k)(j:k<=128)(n:1<=d)(f:d<=128)(w:World)(ht:BX w):
  Calls Tryz.prog 231 #[.int .i64 (k:Int),.int .i64 (d:Int)] w fun e w'=>e=.returned (.int .i64 ((baseN k d:Nat):Int))/\w'=w:=by
 by_cases c:d=1
 ·subst c
  have m:(1048576:Int)/(k:Int)=((1048576/k:Nat):Int):=by simp
  have b:=Nat.div_le_self 1048576 k;rw[iy];have l:(1:Int)<=(k:Int):=by omega
  generalize 1048576/k=q at*;clear ht;go_enter Tryz.func231,Tryz.ntmps231;go_wp2;go_ret;exact⟨CB (by first|rfl|rw[m]),rfl⟩
 ·rw[ew c]
  obtain⟨i,rfl⟩:∃i,d=i+2:=⟨d-2,by omega⟩;have a:=ht i (by omega);rw[show(i+2)*(i+2-1)=(i+2)*(i+1) from rfl];have b:=Nat.div_le_self 1048576 ((i+2)*(i+1));have h:((i+2:Nat):Int)-2=(i:Int):=by omega
  generalize 1048576/((i+2)*(i+1))=q at*;clear ht;go_enter Tryz.func231,Tryz.ntmps231;go_wp2;go_ret;exact⟨rfl,rfl⟩
theorem qL(k s d:Nat)(A:1<=k)(j:k<=128)(x:1<=d)(h:d<=128)(H:s<=128)(w:World):
  Calls Tryz.prog 232 #[.int .i64 (k:Int),.int .i64 (s:Int),.int .i64 (d:Int)] w fun e w'=>e=.returned (.int .i64 ((moreN k s d:Nat):Int))/\w'=w:=by
 by_cases a:s=0
 ·subst a
  rw[iL];go_enter Tryz.func232,Tryz.ntmps232;go_wp2;go_ret;exact⟨rfl,rfl⟩
 ·have I:(1:Int)<=(s:Int):=by omega
  have D:(1:Int)<=(k:Int):=by omega
  have y:(1:Int)<=(d:Int):=by omega
  have L:(k:Int)/(s:Int)=((k/s:Nat):Int):=by simp
  have E:=Nat.div_le_self k s;by_cases b:d<k/s
  ·rw[fO a b]
   have B:k*d<=128*128:=Nat.mul_le_mul j h;have u:1*1<=k*d:=Nat.mul_le_mul A x;have n:(k:Int)*(d:Int)=((k*d:Nat):Int):=by simp
   have o:(1048576*s:Int)/((k*d:Nat):Int)=((1048576*s/(k*d):Nat):Int):=by simp
   have l:=Nat.div_le_self (1048576*s) (k*d);have C:(1:Int)<=((k*d:Nat):Int):=by omega
   generalize 1048576*s/(k*d)=q at*;generalize k*d=m at*;generalize k/s=r at*;go_enter Tryz.func232,Tryz.ntmps232;go_wp2;go_ret;exact⟨CB (by first|rfl|rw[o]),rfl⟩
  ·by_cases c:d=k/s
   ·rw[iN a c]
    have v:=Ab (qN s (by omega) w);have f:=bitLen_le8 s (by omega);have G:1048576*s*bitLen s<=1048576*128*8:=Nat.mul_le_mul (Nat.mul_le_mul_left _ H) f;have n:(1048576*(s:Int))*((bitLen s:Nat):Int)=((1048576*s*bitLen s:Nat):Int):=by simp
    have o:((1048576*s*bitLen s:Nat):Int)/(k:Int)=((1048576*s*bitLen s/k:Nat):Int):=by simp
    have l:=Nat.div_le_self (1048576*s*bitLen s) k;have i:(d:Int)=((k/s:Nat):Int):=by omega
    generalize 1048576*s*bitLen s/k=q at*;generalize 1048576*s*bitLen s=p at*;generalize bitLen s=z at*;generalize k/s=r at*;subst c;clear b i;go_enter Tryz.func232,Tryz.ntmps232;go_wp2_with (go_at_call 267;refine(Aa v).mono ?_;rintro e w1 ⟨rfl,J⟩;obtain rfl:=J.symm);go_ret;exact⟨CB (by first|rfl|rw[o]),rfl⟩
   ·rw[iM a (by omega)]
    generalize k/s=r at*;have K:r<d:=by omega
    clear b c;go_enter Tryz.func232,Tryz.ntmps232;go_wp2;go_ret;exact⟨rfl,rfl⟩
theorem lm(k s d:Nat):max 1 (baseN k d+moreN k s d)=He k s d:=rfl
theorem lZ(k s:Nat)(L:1<=k)(l:k<=128)(X:s<=k)(w:World)(ht:BX w):
  Calls Tryz.prog 194 #[.int .i64 (k:Int),.int .i64 (s:Int)] w fun e w'=> ∃v,e=.returned v/\Am w' w.heap.size v (tableL k s)/\Below w.heap.size w w':=by
 have V:=LS k (by omega);have B:=Ab (LR w k (by omega) (Df (tableL k s) 0) (by rw[Nr,G9]));have a:Hid (Below w.heap.size w (w.alloc (.cells (madeCells #[.int .i64 0] k) 3))):=Ab ((Below.refl _ _).alloc (Nat.le_refl _) _);have C:decide ((k:Int)<1)=false:=by rw[decide_eq_false_iff_not];omega
 have Z:decide (128<(k:Int))=false:=by rw[decide_eq_false_iff_not];omega
 have e3:decide ((s:Int)<0)=false:=by rw[decide_eq_false_iff_not];omega
 have e4:decide (k<s)=false:=by rw[decide_eq_false_iff_not];omega
 have Y:s<=128:=by omega
 have K:=Ab L;clear L X;go_enter Tryz.func194,Tryz.ntmps194;go_wp2;go_loopw [27] (fun i wr=> ∃j:Nat,j<=k/\i=.int .i64 j/\Hid (Am wr w.heap.size (.slice (some ⟨w.heap.size,0,none⟩) k k) (Df (tableL k s) j))/\Hid (Below w.heap.size w wr)) (fun i _=>k-(intOf i).toNat)
 case atStart=>exact⟨0,Nat.zero_le _,rfl,B,a⟩
 case round=>
  obtain⟨j,T,rfl,o,u⟩:=hrel;have E:=Aa u;by_cases b:j<k
  ·have H:=Aa o
   have I:(Df (tableL k s) j).length=k:=by rw[Ls _ _ (by rw[G9];exact T),G9]
   obtain⟨g,cap,C,_,_,d,f⟩:=H.at (by omega);simp only[Value.slice.injEq,Option.some.injEq,Addr.mk.injEq,and_true]at C;obtain⟨rfl, -, -⟩:=C;have r:=d j (by omega);have S:=f j;have h:((j+1:Nat):Int)=(j:Int)+1:=by omega
   have D:=nA k (j+1) (Aa K) l (by omega) (by omega) wr (ht.below E);have G:=qL k s (j+1) (Aa K) l (by omega) (by omega) (by omega) wr;rw[h]at D G;have N:=Ab D;have O:=Ab G;have Q:=UG k (j+1);have R:=Vc k s (j+1) (by omega);have m:=qC (baseN k (j+1)+moreN k s (j+1));have c:=H.stored j ((He k s (j+1):Nat):Int);rw[<-Oa k s j b,Nq _ _ (by rw[G9];exact b),Oa k s j b]at c;have P:=Ab c;have A:=Ab (E.setCell (p:=⟨w.heap.size,j,none⟩) (by exact Nat.le_refl _) (.int .i64 ((He k s (j+1):Nat):Int)));rw[lm]at m;clear D G h;clear H I d f c E u o B a ht;generalize He k s (j+1)=q at*;generalize baseN k (j+1)=x at*;generalize moreN k s (j+1)=y at*;have n:((x+y:Nat):Int)=(x:Int)+(y:Int):=by omega
   rw[n]at m;clear n;go_wp2_with (first|(go_at_call 231;refine(Aa N).mono ?_;rintro e w1 ⟨rfl,J⟩;obtain rfl:=J.symm)|(go_at_call 232;refine(Aa O).mono ?_;rintro e w1 ⟨rfl,J⟩;obtain rfl:=J.symm));go_roundw
   case rel=>exact⟨j+1,by omega,by go_num,P,A⟩
   case measure=>simp[intOf];omega
  ·obtain rfl:j=k:=by omega
   rw[show Df (tableL j s) j=tableL j s by
    have:=NI (tableL j s);rwa[G9]at this]at o
   clear B a;go_wp2;go_ret;exact⟨_,rfl,Aa o,Aa u⟩
end Go.Proofs.YtmmikiikddokgaaGreatDoor
