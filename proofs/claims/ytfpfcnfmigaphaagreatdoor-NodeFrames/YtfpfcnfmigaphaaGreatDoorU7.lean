/-
  Laws that the proof stands on.
-/
import Derived.Test.YtfpfcnfmigaphaaGreatDoorU6
import Derived.ProofKit
import Derived.OpenShut
import Derived.ShutString
import Derived.ChangeOld
import Derived.ChangeMaps5
import Derived.SliceStrings
import Derived.Deep.SlicePairs
import Derived.Deep.DeepHandedRow
import Derived.Lib.LaidTab
import Derived.Below
import Derived.Lib.BitFns
import Derived.Laws.Cover2
namespace Go.Proofs.YtfpfcnfmigaphaaGreatDoor
open Go.RowKit Go.Sort Go.ChangeShapes Go.WideShapes Go.ChangeAt
set_option linter.unusedVariables false
set_option linter.unusedSimpArgs false
set_option maxRecDepth 4000
set_option maxHeartbeats 8000000
variable {ss:List ByteArray}{g:Nat}{w:World}
theorem Iv{k:Int}{rs:List RV}(h:sizeOfK k=0):AI k rs [] (List.replicate k.toNat ByteArray.empty)/\toldTo k [] (List.replicate k.toNat ByteArray.empty) k.toNat=[]/\restL k rs [] (List.replicate k.toNat ByteArray.empty)=[]:=by
 have a:∀xs,AR k xs=false:=fun xs=>by
  rw[<-Bool.not_eq_true];intro c;have:=(FV c).1;omega
 refine⟨⟨⟨0,by rw[h];rfl,rfl⟩,?_⟩,?_,?_⟩
 ·rw[List.find?_eq_none]
  intro r _;unfold Cy;rw[a];simp
 ·unfold toldTo
  rw[List.filter_eq_nil_iff.2 (fun b _=>by rw[T8];simp)];rfl
 ·unfold restL
  rw[List.filter_eq_nil_iff.2 (fun r _=>by unfold Fv;rw[a];simp)];rfl
theorem oJ(k:Int)(a:Option Addr)(n c:Nat)(rs:List RV)(w:World)(ht:Tab w)(h:Ak w a n rs)(u:Af rs)(B:n<=1048576):
  Calls Tryz.prog 237 #[.int .i64 k,.slice a n c] w fun e w'=> ∃o x c1 l p y c2 m,e=.returned (.tuple #[.slice o x c1,.slice p y c2])/\DJ w w' k rs o x c1 l p y c2 m:=by
 by_cases j:sizeOfK k=0
 ·have f:=GL k w
  rw[j]at f;have f:=Ab f;obtain⟨q,r,s⟩:=Iv (rs:=rs) j;have A:Hid (DJ w w k rs none 0 0 [] none 0 0 []):=Ab ⟨_,_,q,Al.nil _ _,Ae.nil _,r.symm,Al.nil _ _,Ae.nil _,s.symm,Below.refl _ _⟩;clear h u ht q r s j;go_enter Tryz.func237,Tryz.ntmps237;go_wp2_with (first|(go_at_call 177;refine(Aa f).mono ?_;rintro e C ⟨rfl,d⟩;obtain rfl:=d.symm;clear d));go_ret2;exact⟨none,0,0,[],none,0,0,[],rfl,Aa A⟩
 ·have b:0<sizeOfK k:=by omega
  have i:=D8 b;obtain⟨K,rfl⟩:=Int.eq_ofNat_of_zero_le (show 0<=k by omega);exact oK K a n c rs w ht b h u B
def A1(w:World)(g:Nat)(ss:List ByteArray):Prop:=∀i,i<ss.length->w.cell? ⟨g,i,none⟩=some (.string (ss.getD i ByteArray.empty))/\w.frozen? ⟨g,i,none⟩=false
theorem A1.texts(h:A1 w g ss):Aq w (some ⟨g,0,none⟩) ss.length ss:=
 ⟨rfl,.inr ⟨g,0,rfl,fun i a=>by rw[Nat.zero_add];exact(h i a).1⟩⟩
theorem A1.alloc(h:A1 w g ss)(a:g<w.heap.size)(o:Obj):A1 (w.alloc o) g ss:=fun i b=>
 ⟨(World.cell?_alloc_lt (h:=by exact a) ..).trans (h i b).1,(World.frozen?_alloc_old (h:=by exact Nat.ne_of_lt a) ..).trans (h i b).2⟩
theorem RW(ss:List ByteArray)(k i:Nat)(z:ByteArray)(a:k<ss.length):(ss.set k z).getD i ByteArray.empty=if i=k then z else ss.getD i ByteArray.empty:=by
 simp only[List.getD_eq_getElem?_getD,List.getElem?_set];by_cases h:k=i
 ·subst h;simp[a]
 ·simp[h,Ne.symm h]
theorem A1.stored(h:A1 w g ss)(k:Nat)(z:ByteArray)(c:k<ss.length):A1 (w.setCell ⟨g,k,none⟩ (.string z)) g (ss.set k z):=by
 intro i a;rw[List.length_set]at a;refine⟨?_,by rw[World.frozen?_setCell];exact(h i a).2⟩;rw[RW ss k i z c];by_cases e:i=k
 ·subst e
  rw[if_pos rfl];exact World.cell?_setCell_same _ _ _ (h i a).1
 ·rw[if_neg e]
  have b:(⟨g,k,none⟩:Addr)≠⟨g,i,none⟩:=fun h=>e (by injection h with _ h;exact h.symm);exact(World.cell?_setCell_other (h:=b) ..).trans (h i a).1
def F4(rs:List RV)(k:Nat):List ByteArray:=(List.range rs.length).map fun i=>if i<k then(rs.getD i .dflt).s else ByteArray.empty
theorem GJ(rs:List RV)(k:Nat):(F4 rs k).length=rs.length:=by simp[F4]
theorem Lx(rs:List RV)(k i:Nat):(F4 rs k).getD i ByteArray.empty=if i<k/\i<rs.length then(rs.getD i .dflt).s else ByteArray.empty:=by
 unfold F4;rw[List.getD_eq_getElem?_getD];by_cases a:i<rs.length
 ·simp[a]
 ·simp[a]
theorem Qh{a b:List ByteArray}(e:a.length=b.length)(h:∀i,i<a.length->a.getD i ByteArray.empty=b.getD i ByteArray.empty):a=b:=by
 apply List.ext_getElem e;intro i c d;have:=h i c;simpa [List.getD_eq_getElem?_getD,List.getElem?_eq_getElem c,List.getElem?_eq_getElem d]using this
theorem jO(rs:List RV)(k:Nat)(c:k<rs.length):(F4 rs k).set k (rs.getD k .dflt).s=F4 rs (k+1):=by
 apply Qh
 ·rw[List.length_set,GJ,GJ]
 ·intro i a
  rw[List.length_set,GJ]at a;rw[RW _ _ _ _ (by rw[GJ];exact c),Lx,Lx];by_cases e:i=k
  ·subst e;simp[a]
  ·rw[if_neg e]
   by_cases b:i<k
   ·rw[if_pos ⟨b,a⟩,if_pos ⟨by omega,a⟩]
   ·rw[if_neg (by omega),if_neg (by omega)]
theorem nQ(rs:List RV):F4 rs rs.length=rs.map fun r=>r.s:=by
 apply Qh
 ·simp[GJ]
 ·intro i a
  rw[GJ]at a;rw[Lx,if_pos ⟨a,a⟩];simp[List.getD_eq_getElem?_getD,List.getElem?_eq_getElem a]
theorem kY{wr:World}{b k:Nat}{rs:List RV}{x y u v:Value}(f:A1 wr g (F4 rs k))(e:k<rs.length)(j:g<wr.heap.size)(h:A7 wr b x y)(d:g≠b)(i:Below w.heap.size w wr)(c:w.heap.size<=g):
  A1 ((wr.setCell ⟨g,k,none⟩ (.string (rs.getD k .dflt).s)).alloc (.cells #[u,v] 57)) g (F4 rs (k+1))/\
  A7 ((wr.setCell ⟨g,k,none⟩ (.string (rs.getD k .dflt).s)).alloc (.cells #[u,v] 57)) b x y/\
  Below w.heap.size w ((wr.setCell ⟨g,k,none⟩ (.string (rs.getD k .dflt).s)).alloc (.cells #[u,v] 57))/\
  g<((wr.setCell ⟨g,k,none⟩ (.string (rs.getD k .dflt).s)).alloc (.cells #[u,v] 57)).heap.size:=by
 have a:=i.setCell (p:=⟨g,k,none⟩) (by exact c) (.string (rs.getD k .dflt).s);refine⟨?_,(h.other _ _ d).alloc _,a.alloc a.size _,by simp;omega⟩;rw[<-jO rs k e];exact(f.stored k _ (by rw[GJ];exact e)).alloc (by simpa using j) _
theorem ma:(Tryz.prog.info? 9).map (fun i=>(i.zero,i.size,i.bytes))=some (some (.string ByteArray.empty),1,16):=by kernel_rfl
theorem eB(w:World)(n:Nat)(rs:List RV)(b:rs.length=n):A1 (w.alloc (.cells (madeCells (Value.string ByteArray.empty).cells (n*1)) 9)) w.heap.size (F4 rs 0):=by
 intro i a;rw[GJ]at a;refine⟨?_,by simp⟩;rw[World.cell?_alloc_new,Lx,if_neg (by omega)];rw[show(Value.string ByteArray.empty).cells=#[Value.string ByteArray.empty] from rfl,<-Array.getElem?_toList,toList_madeCells_one,Nat.mul_one];simp[show i<n from by omega]
theorem XM(a:Option Addr)(n c:Nat)(rs:List RV)(w:World)(h:Ak w a n rs)(K:Af rs)(hn:n<=1048576)(hc:n<=c)(Z:c<=9223372036854775807):
  Calls Tryz.prog 300 #[.slice a n c] w fun e w'=> ∃v,e=.returned (.agg #[v,.string (st (CD (rs.map fun r=>r.s)))])/\Own w' w.heap.size v (AJ rs)/\Below w.heap.size w w':=by
 obtain rfl:=h.1;obtain⟨i0,J,L,N,O⟩:=info_parts ma;have d:=run_make (P:=Tryz.prog) (w.alloc (.cells #[.slice none 0 0,.string ⟨#[]⟩] 57)) 50 9 i0 (.string ByteArray.empty) Tryz.underlying50 J L .i64 .i64 (rs.length:Int) (rs.length:Int) (by omega) (by omega) (by rw[O];omega) (by omega);simp only[Int.toNat_natCast]at d;rw[N]at d;have hX:=(Jg w (.slice none 0 0) (.string ⟨#[]⟩)).alloc (.cells (madeCells (Value.string ByteArray.empty).cells (rs.length*1)) 9);have Y:=eB (w.alloc (.cells #[.slice none 0 0,.string ⟨#[]⟩] 57)) rs.length rs rfl;have hb:=Gn (Below.refl _ w) (Below.refl ((w.alloc (.cells #[.slice none 0 0,.string ⟨#[]⟩] 57)).alloc (.cells (madeCells (Value.string ByteArray.empty).cells (rs.length*1)) 9)).heap.size _);have x:(w.alloc (.cells #[.slice none 0 0,.string ⟨#[]⟩] 57)).heap.size<((w.alloc (.cells #[.slice none 0 0,.string ⟨#[]⟩] 57)).alloc (.cells (madeCells (Value.string ByteArray.empty).cells (rs.length*1)) 9)).heap.size:=by simp
 rw[Bb]at d Y x;generalize ((w.alloc (.cells #[.slice none 0 0,.string ⟨#[]⟩] 57)).alloc (.cells (madeCells (Value.string ByteArray.empty).cells (rs.length*1)) 9))=w1 at*;have HX:=Ab hX;have HT:=Ab Y;have HB:=Ab hb;have HG:=Ab x;clear hX Y hb x J L N O;go_enter Tryz.func300,Tryz.ntmps300;go_wp2;go_loopw [11] (fun i wr=> ∃k:Nat,k<=rs.length/\i=.int .i64 k/\Hid (A1 wr (w.heap.size+1) (F4 rs k))/\Hid (A7 wr w.heap.size (.slice none 0 0) (.string ⟨#[]⟩))/\Hid (Below w.heap.size w wr)/\Hid (w.heap.size+1<wr.heap.size)) (fun i _=>rs.length-(intOf i).toNat)
 case atStart=>exact⟨0,Nat.zero_le _,rfl,HT,HX,HB,HG⟩
 case round=>
  obtain⟨k,hk,rfl,j,o,f,m⟩:=hrel;clear HT HX HB HG d;by_cases l:k<rs.length
  ·obtain⟨b,off,rfl,I⟩:=(h.below (Aa f)).at l
   obtain⟨ae,af⟩:=I k l;have ad:(k:Int)<(rs.length:Int):=by omega
   have R:=Ab (kY (u:=.slice (rs.getD k .dflt).a (rs.getD k .dflt).n (rs.getD k .dflt).c) (v:=.string (rs.getD k .dflt).s) (Aa j) l (Aa m) (Aa o) (by omega) (Aa f) (by omega));have hold:=(Aa j) k (by rw[GJ];exact l);obtain⟨ag,ah⟩:=hold;have x:=Aa m;have Hh:=Ab h;have Hs:=Ab K;clear h I K j o f m;generalize rs.getD k .dflt=r at*;go_wp2;go_roundw
   case rel=>exact⟨k+1,by omega,by go_num,Ab (Aa R).1,Ab (Aa R).2.1,Ab (Aa R).2.2.1,Ab (Aa R).2.2.2⟩
   case measure=>simp[intOf];omega
  ·have aa:k=rs.length:=by omega
   subst aa;rw[nQ]at j;have HR:=Ab (h.below (Aa f))
   have HS:Hid (∀r∈rs,r.xs.length<=10):=Ab (fun r hr=>by
    obtain⟨i,S,rfl⟩:=List.mem_iff_getElem.1 hr;have G:=(K i).1;have h2:=(h.2.1 i S).1;rw[List.getD_eq_getElem?_getD,List.getElem?_eq_getElem S]at G h2;simp only[Option.getD_some]at G h2;omega)
   have X:Hid (shorts (rs.map fun r=>r.s)):=Ab (fun t ht=>by
    obtain⟨r,hr,rfl⟩:=List.mem_map.1 ht;obtain⟨i,S,rfl⟩:=List.mem_iff_getElem.1 hr;have G:=(K i).2;rw[List.getD_eq_getElem?_getD,List.getElem?_eq_getElem S]at G;simp only[Option.getD_some]at G;omega)
   have ab:Hid ((rs.map fun r=>r.s).length=rs.length):=Ab (by simp);clear h K l;go_wp2_with fail;refine(pQ rs.length a rs.length c rs _ (Nat.le_refl _) (Aa HR) (Aa HS) hn hc Z).mono ?_;rintro e w2 ⟨v2,rfl,y,p⟩;obtain⟨Q,c2,rfl,ac⟩:=y.row;clear ac;have A:=(Aa j).texts.below p;rw[Aa ab]at A;have D:=Ab A;have E:=Ab ((Aa o).below p);have B:=Ab (Ad (Aa f) p);have C:=Ab (y.mono (show w.heap.size+1<=_ from by have:=Aa m;omega));clear y p A j o f HR;go_wp2_with fail;refine(WA _ _ _ _ _ (Aa D) (Aa X) hn).mono ?_;rintro e w3 ⟨rfl,q⟩;obtain⟨⟨x0,x1⟩,f0,f1⟩:=(Aa E).below q;have T:=Ab (Ad (Aa B) q);have V:=Ab ((Aa C).below q);clear E D B C q;go_wp2;have y1:=World.cell?_setCell_same (w3.setCell ⟨w.heap.size,0,none⟩ (.slice Q (AJ rs).length c2)) ⟨w.heap.size,1,none⟩ (.string (st (CD (rs.map fun r=>r.s)))) ((World.cell?_setCell_other (h:=by simp) ..).trans x1)
   have y0:((w3.setCell ⟨w.heap.size,0,none⟩ (.slice Q (AJ rs).length c2)).setCell ⟨w.heap.size,1,none⟩ (.string (st (CD (rs.map fun r=>r.s))))).cell? ⟨w.heap.size,0,none⟩=some (.slice Q (AJ rs).length c2):=
    (World.cell?_setCell_other (h:=by simp) ..).trans (World.cell?_setCell_same _ _ _ x0)
   exact bodyPost_ret (v:=.agg #[.slice Q (AJ rs).length c2,.string (st (CD (rs.map fun r=>r.s)))]) (by simp[results,Tryz.results300,go_sem,y0,y1]) rfl
    ⟨_,rfl,(((Aa V).other _ _ (by omega)).other _ _ (by omega)).mono (by omega),((Aa T).setCell (Nat.le_refl _) _).setCell (Nat.le_refl _) _⟩
variable {fuel:Nat}{H:Type}{v:Value}{W:World}
theorem own:ownKnob Tryz.prog.godebug=none:=by kernel_rfl
theorem Wj:laidOutB Tryz.prog=true:=by kernel_rfl
theorem Qt : Tryz.prog.globalNamed "math/bits.deBruijn64tab" = some 3 := by kernel_rfl
theorem nF:(Tryz.prog.globals[3]?).map (·.type)=some 408:=by kernel_rfl
theorem nK:Tryz.prog.cellsOf 408=64:=by kernel_rfl
theorem YM:Tryz.prog.cellsOf 5=1:=by kernel_rfl
theorem pq {W : World} (h : laidMetH Tryz.prog Rows.nodeCrashRow.laid W) : Lib.TabIs Tryz.prog W "math/bits.deBruijn64tab" .u8 (Lib.deBruijn64tab.map fun (x : Nat) => (x : Int)) :=
 Lib.tabIs_of_head (rest:=_) Qt nF Tryz.underlying408 Tryz.underlying5 YM nK h
theorem Z5(h:laidMetH Tryz.prog Rows.nodeCrashRow.laid W):Tab W:=by
 intro i b;have c:(Lib.deBruijn64tab.map fun(x:Nat)=>(x:Int)).length=64:=by decide
 have:=(pq h).cell Qt i (by omega);rw[this];have a:Lib.deBruijn64tab.length=64:=by decide
 have e:i<Lib.deBruijn64tab.length:=by omega
 simp[List.getD_eq_getElem?_getD,List.getElem?_eq_getElem e]
theorem D6(b off i:Nat):(⟨b,off,none⟩:Addr).add i=⟨b,off+i,none⟩:=by
 unfold Addr.add;split
 ·rename_i h;simp_all
 ·rfl
theorem Kz{n:Nat}(h:n<=maxLen):n<=9223372036854775807:=by simpa [maxLen]using h
theorem kX{enc:TypeId×Value->H}{x:DataW H×List MemPlace}
  (h:DataW.trod enc Tryz.prog W 0 (fun _=>true) true fuel 32 [v]=some x):∃a len cap xs,v=.slice a len cap/\RowAt W a len xs/\len<=9223372036854775807/\len<=cap:=by
 rcases open_ints Tryz.underlying32 Tryz.underlying69 (by kernel_rfl) h with⟨e,_⟩|⟨x,l,c,f,e,_,C,D,G,_,d,p⟩
 ·simp only[List.cons.injEq,and_true]at e
  exact⟨_,_,_,[],e,⟨rfl,(fun _ h=>by cases h),.inl rfl⟩,by decide,Nat.le_refl _⟩
 ·simp only[List.cons.injEq,and_true]at e
  have J:f.length=c:=by simpa using G
  have q:∀z∈f,0<=z/\z<18446744073709551616:=by
   intro z m;have:=bounds_u64 (p z m);omega
  refine⟨_,_,_,(f.take l).map Int.toNat,e,⟨by simp;omega,?_,?_⟩,by have:=Kz D;omega,C⟩
  ·intro y E
   obtain⟨z,m,rfl⟩:=List.mem_map.1 E;have:=q z (List.mem_of_mem_take m);show z.toNat<18446744073709551616;omega
  ·by_cases u:l=0
   ·exact .inl u
   ·obtain⟨b,off,o⟩:=x
    have A:=d 0 (by omega);have k:o=none:=by simpa [Addr.add]using World.cell?_spot A
    subst k;refine .inr ⟨b,off,rfl,fun i B=>?_⟩;have n:=d i (by omega);rw[D6]at n;rw[n];have j:i<f.length:=by omega
    have I:=q f[i] (List.getElem_mem j);have r:f.getD i 0=f[i]:=by simp[List.getD_eq_getElem?_getD,List.getElem?_eq_getElem j]
    have s:((f.take l).map Int.toNat).getD i 0=f[i].toNat:=by
     simp[List.getD_eq_getElem?_getD,B,List.getElem?_eq_getElem j]
    rw[r,s];rw[show((f[i].toNat:Nat):Int)=f[i] by omega]
theorem UY{enc:TypeId×Value->H}{x:DataW H×List MemPlace}
  (h:DataW.trod enc Tryz.prog W 0 (fun _=>true) true fuel 9 [v]=some x):∃s,v=.string s/\s.size<=9223372036854775807:=by
 cases fuel with
 |zero=>simp[DataW.trod]at h
 |succ fuel=>
  cases v<;>simp[DataW.trod,Tryz.underlying9]at h;exact⟨_,rfl,Kz h.1⟩
theorem FT{enc:TypeId×Value->H}{x:DataW H×List MemPlace}
  (h:DataW.trod enc Tryz.prog W 0 (fun _=>true) true fuel 3 [v]=some x):∃a,v=.int .i64 a:=by
 cases fuel with
 |zero=>simp[DataW.trod]at h
 |succ fuel=>
  cases v<;>simp[DataW.trod,Tryz.underlying3]at h;obtain⟨⟨rfl,_⟩,_⟩:=h;exact⟨_,rfl⟩
theorem DM{α:Type}{l:List α}{i:Nat}(h:i<l.length):∃y,l[i]? =some y:=⟨_,List.getElem?_eq_getElem h⟩
variable {z:Nat}{w:World}
def kc(n z:Nat):Nat:=if 0<n%z\/n/z=0 then n/z+1 else n/z
theorem Jy(n z:Nat):1<=kc n z:=by
 unfold kc;generalize n/z=q;generalize n%z=r;split<;>rename_i h<;>omega
theorem J8(n z:Nat)(b:0<z):n<=kc n z*z:=by
 have a:=Nat.div_add_mod n z;have c:=Nat.mod_lt n b;rw[Nat.mul_comm]at a;unfold kc;split
 ·rw[Nat.add_mul];omega
 ·rename_i h
  have:n%z=0:=by omega
  omega
theorem OT(n z k:Nat)(d:0<z)(f:1<=k)(h:n<=k*z):kc n z<=k:=by
 have c:=Nat.div_add_mod n z;have e:=Nat.mod_lt n d;rw[Nat.mul_comm]at c;unfold kc;split
 ·rename_i b
  rcases b with b|b
  ·rcases Nat.lt_or_ge (n/z) k with a|a
   ·omega
   ·have:=Nat.mul_le_mul_right z a
    omega
  ·omega
 ·rename_i b
  rcases Nat.lt_or_ge k (n/z)with a|a
  ·have:=Nat.mul_le_mul_right z (Nat.succ_le_of_lt a)
   rw[Nat.succ_mul]at this;omega
  ·exact a
theorem Kk(n z k:Nat)(b:0<z)(c:1<=k):k<kc n z↔k*z<n:=by
 constructor
 ·intro h
  rcases Nat.lt_or_ge (k*z) n with a|a
  ·exact a
  ·have:=OT n z k b c a
   omega
 ·intro h
  have d:=J8 n z b;rcases Nat.lt_or_ge k (kc n z)with a|a
  ·exact a
  ·have:=Nat.mul_le_mul_right z a
   omega
theorem Zk(n z k:Nat)(b:0<z)(c:1<=k)(h:n<=k*z)(a:k=1\/(k-1)*z<n):kc n z=k:=by
 have d:=OT n z k b c h;rcases a with rfl|a
 ·have:=Jy n z;omega
 ·by_cases e:k=1
  ·subst e;have:=Jy n z;omega
  ·have:=(Kk n z (k-1) b (by omega)).2 a
   omega
def planE(n z:Int):Int:=if n<0\/z<1\/64<z then 1 else if 128<kc n.toNat z.toNat then 2 else 0
def planK(n z:Int):Int:=if planE n z=0 then(kc n.toNat z.toNat:Int)else 0
theorem L1{n z:Int}(h:n<0\/z<1\/64<z):planE n z=1/\planK n z=0:=by
 have e:planE n z=1:=if_pos h;exact⟨e,by unfold planK;rw[e];rfl⟩
theorem Tv{n:Nat}(a:1<=z)(b:z<=64)(h:128<kc n z):planE (n:Int) (z:Int)=2/\planK (n:Int) (z:Int)=0:=by
 have e:planE (n:Int) (z:Int)=2:=by
  unfold planE;rw[if_neg (by omega),if_pos (by simpa using h)]
 exact⟨e,by unfold planK;rw[e];rfl⟩
theorem L9{n:Nat}(a:1<=z)(b:z<=64)(h:kc n z<=128):planE (n:Int) (z:Int)=0/\planK (n:Int) (z:Int)=(kc n z:Int):=by
 have e:planE (n:Int) (z:Int)=0:=by
  unfold planE;rw[if_neg (by omega),if_neg (by simp;omega)]
 exact⟨e,by unfold planK;rw[e];simp⟩
theorem oQ{n:Nat}{z:Int}(h:planE (n:Int) z=0):∃Z:Nat,z=(Z:Int)/\1<=Z/\Z<=64/\kc n Z<=128:=by
 unfold planE at h;split at h
 ·omega
 ·rename_i b
  obtain⟨Z,rfl⟩:∃Z:Nat,z=(Z:Int):=⟨z.toNat,by omega⟩;split at h
  ·omega
  ·rename_i a
   simp only[Int.toNat_natCast]at a;exact⟨Z,rfl,by omega,by omega,by omega⟩
def GZ(z:Nat)(t:List Nat):List Nat:=t++List.replicate (z-t.length) 0
def blk(xs:List Nat)(z i:Nat):List Nat:=GZ z ((xs.drop (i*z)).take z)
def Be(xs:List Nat)(z k:Nat):List ByteArray:=(List.range k).map fun i=>st (blk xs z i)
theorem gi(z:Nat)(t:List Nat)(h:t.length<=z):(GZ z t).length=z:=by
 unfold GZ;rw[List.length_append,List.length_replicate];omega
theorem NA(xs:List Nat)(z i:Nat):(blk xs z i).length=z:=gi _ _ (List.length_take_le _ _)
theorem Ip(xs:List Nat)(z k:Nat):(Be xs z k).length=k:=by simp[Be]
theorem MX(xs:List Nat)(z k:Nat):Be xs z (k+1)=Be xs z k++[st (blk xs z k)]:=by
 simp[Be,List.range_succ]
theorem jY{t:List Nat}(h:bytes t):bytes (GZ z t):=by
 intro x a;rcases List.mem_append.1 a with a|a
 ·exact h x a
 ·rw[(List.mem_replicate.1 a).2];decide
theorem SV{xs:List Nat}(h:bytes xs)(z i:Nat):bytes (blk xs z i):=jY (FK (FJ h _) _)
def joinL(ss:List ByteArray):List Nat:=ss.flatMap tx
theorem NJ(ss:List ByteArray)(s:ByteArray):joinL (ss++[s])=joinL ss++tx s:=by simp[joinL]
theorem R2(ss:List ByteArray)(k:Nat)(h:k<ss.length):joinL (ss.take (k+1))=joinL (ss.take k)++tx (ss.getD k ByteArray.empty):=by
 rw[List.take_succ_eq_append_getElem h,NJ];simp[List.getD_eq_getElem?_getD,List.getElem?_eq_getElem h]
theorem QE{xs:List Nat}(a:bytes xs)(z:Nat):∀k,k*z<=xs.length->joinL (Be xs z k)=xs.take (k*z)
 |0,_=>by simp[Be,joinL]
 |k+1,h=>by
  rw[Nat.add_mul,Nat.one_mul]at h;rw[MX,NJ,QE a z k (by omega),DD (SV a z k),Nat.add_mul,Nat.one_mul,List.take_add];congr 1;unfold blk GZ;rw[List.length_take,List.length_drop];rw[show z-min z (xs.length-k*z)=0 by omega];simp
theorem kF{xs:List Nat}(b:bytes xs)(z k:Nat)(d:1<=k)(h:xs.length<=k*z)(a:k=1\/(k-1)*z<xs.length):(joinL (Be xs z k)).take xs.length=xs:=by
 obtain⟨j,rfl⟩:∃j,k=j+1:=⟨k-1,by omega⟩;have c:j*z<=xs.length:=by
  rcases a with a|a
  ·obtain rfl:j=0:=by omega
   omega
  ·simp at a;omega
 rw[MX,NJ,QE b z j c,DD (SV b z j)];rw[Nat.add_mul,Nat.one_mul]at h;have e:(xs.drop (j*z)).take z=xs.drop (j*z):=List.take_of_length_le (by rw[List.length_drop];omega);unfold blk GZ;rw[e,<-List.append_assoc,List.take_append_drop,List.take_append_of_le_length (Nat.le_refl _),List.take_length]
theorem bI(xs:List Nat)(z k:Nat)(b:z<=64):shorts (Be xs z k):=by
 intro s a;obtain⟨i,_,rfl⟩:=List.mem_map.1 a;rw[Dz,NA];omega
theorem Rk(xs:List Nat)(z k i:Nat)(h:i<k):(Be xs z k).getD i ByteArray.empty=st (blk xs z i):=by
 unfold Be;rw[List.getD_eq_getElem?_getD,List.getElem?_map,List.getElem?_range h];rfl
structure Fb where
 kd:Int
 a:Option Addr
 n:Nat
 c:Nat
 tos:List Int
def Fb.dflt:Fb:=⟨0,none,0,0,[]⟩
structure Ca where
 a:Option Addr
 n:Nat
 c:Nat
 ds:List Fb
 obj:ByteArray
 size:Int
 spread:Int
 buffer:Int
 queue:Int
 cache:Int
 rate:Nat
 timeout:Int
 target:Int
def Ca.val(f:Ca):Value:=.agg #[.slice f.a f.n f.c,.string f.obj,.int .i64 f.size,.int .i64 f.spread,.int .i64 f.buffer,.int .i64 f.queue,.int .i64 f.cache,.float .f64 f.rate,.int .i64 f.timeout,.int .i64 f.target]
def Bn(w:World)(a:Option Addr)(n:Nat)(ds:List Fb):Prop:=
 ds.length=n/\(∀i,i<n->IntzAt w (ds.getD i .dflt).a (ds.getD i .dflt).n (ds.getD i .dflt).tos)/\(n=0\/∃b off,a=some ⟨b,off,none⟩/\∀i,i<n->w.cell? ⟨b,off+i*2,none⟩=some (.int .i64 (ds.getD i .dflt).kd)/\w.cell? ⟨b,off+i*2+1,none⟩=some (.slice (ds.getD i .dflt).a (ds.getD i .dflt).n (ds.getD i .dflt).c))
theorem Bn.at{a:Option Addr}{n:Nat}{ds:List Fb}(h:Bn w a n ds){i:Nat}(e:i<n):∃b off,a=some ⟨b,off,none⟩/\∀i,i<n->w.cell? ⟨b,off+i*2,none⟩=some (.int .i64 (ds.getD i .dflt).kd)/\w.cell? ⟨b,off+i*2+1,none⟩=some (.slice (ds.getD i .dflt).a (ds.getD i .dflt).n (ds.getD i .dflt).c):=by
 rcases h.2.2 with d|d
 ·omega
 ·exact d
theorem Bn.below{w':World}{a:Option Addr}{n:Nat}{ds:List Fb}(h:Bn w a n ds)(e:Below w.heap.size w w'):Bn w' a n ds:=by
 refine⟨h.1,fun i c=>(h.2.1 i c).below e,?_⟩;rcases h.2.2 with f|⟨b,off,rfl,d⟩
 ·exact .inl f
 ·exact .inr ⟨b,off,rfl,fun i c=>⟨(e.cell (p:=⟨b,off+i*2,none⟩) (World.block_lt_of_cell? w _ (d i c).1)).trans (d i c).1,(e.cell (p:=⟨b,off+i*2+1,none⟩) (World.block_lt_of_cell? w _ (d i c).2)).trans (d i c).2⟩⟩
def Dj(xs:List Int)(id n:Int):Prop:=(xs.length:Int)<n/\∀i,i<xs.length->(0<=xs.getD i 0/\xs.getD i 0<=n-1)/\xs.getD i 0≠id/\∀k,k<i->xs.getD k 0≠xs.getD i 0
def K1(f:Ca):Prop:=(1<=f.n/\f.n<=8)/\(0<=f.spread/\f.spread<=128)/\(1<=f.buffer/\f.buffer<=256)/\(1<=f.queue/\f.queue<=256)/\(0<=f.cache/\f.cache<=256)/\(0<=f.timeout/\f.timeout<=1048576)/\(1<=f.target/\f.target<=128)
def aH(f:Ca)(i:Nat):Prop:=(1<=(f.ds.getD i .dflt).kd/\(f.ds.getD i .dflt).kd<=3)/\Dj (f.ds.getD i .dflt).tos i f.n
def srcN(ds:List Fb):Nat->Nat
 |0=>0
 |k+1=>srcN ds k+if (ds.getD k .dflt).kd=1 then 1 else 0
theorem YZ(ds:List Fb)(k:Nat):srcN ds k<=k:=by
 induction k with
 |zero=>exact Nat.le_refl _
 |succ k a=>unfold srcN;split<;>omega
def Qq(f:Ca):Prop:=K1 f/\(∀i,i<f.n->aH f i)/\srcN f.ds f.n=1
def CU(f:Ca)(en:Int):Prop:=(Qq f/\en=planE f.obj.size f.size)\/(¬Qq f/\en=1)
theorem CU.uniq{f:Ca}{x y:Int}(h:CU f x)(k:CU f y):x=y:=by
 rcases h with⟨a,b⟩|⟨a,b⟩<;>rcases k with⟨c,d⟩|⟨c,d⟩
 ·rw[b,d]
 ·exact absurd a c
 ·exact absurd c a
 ·rw[b,d]
theorem pY(a:Option Addr)(n c:Nat)(xs:List Int)(w:World)(h:IntzAt w a n xs)(D:n<=1048576)(B:sumZ xs<=4611686018427387904):
  Calls Tryz.prog 245 #[.slice a n c] w fun e w'=>e=.returned (.int .i64 ((sumZ xs:Nat):Int))/\w'=w:=by
 obtain rfl:n=xs.length:=h.1.symm;obtain⟨S,j⟩:∃S,sumZ xs=S:=⟨_,rfl⟩;have l:=Ab (show sumZ (xs.take xs.length)=S by rw[List.take_length];exact j);have m:=Ab (fun k=>Nat.le_trans (Nd xs k) (Nat.le_of_eq j));have p:=Ab (fun k y=>Oo xs k y);rw[j]at B⊢;clear j;go_enter Tryz.func245,Tryz.ntmps245;go_wp2;go_loop [3,8] (fun t i=> ∃k q:Nat,k<=xs.length/\i=.int .i64 k/\t=.int .i64 (q:Int)/\Hid (q=sumZ (xs.take k))) (fun _ i=>xs.length-(intOf i).toNat)
 case atStart=>exact⟨0,0,Nat.zero_le _,rfl,rfl,Ab rfl⟩
 case round=>
  obtain⟨k,q,y,rfl,rfl,f⟩:=hrel;by_cases d:k<xs.length
  ·obtain⟨b,off,rfl,u⟩:=h.at d
   have r:=u k d;have ht:=Aa p k d;have s:=Aa m (k+1);rw[<-Aa f]at ht;rw[ht]at s;have o:=Ab ht;clear u h p m l f ht;generalize xs.getD k 0=x at*;have C:=Vf x;generalize x.toNat=z at*;go_wp2;go_round
   case rel=>exact⟨k+1,q+z,by omega,by go_num,by go_num,Ab (Aa o).symm⟩
   case measure=>simp[intOf];omega
  ·obtain rfl:k=xs.length:=by omega
   have A:=Ab ((Aa f).trans (Aa l));clear h p m l f;go_wp2;go_ret;exact⟨Bu (by rw[Aa A]),rfl⟩
theorem Yo(l:List Int)(k:Nat)(a:k<l.length):(l.getD k 0).toNat<=sumZ l:=by
 have b:=Oo l k a;have c:=Nd l (k+1);omega
theorem lg(a:Option Addr)(n c:Nat)(xs:List Int)(d:Nat)(w:World)(h:IntzAt w a n xs)(T:n<=1048576)(K:sumZ xs<=4611686018427387904)(Y:d<18446744073709551616):
  Calls Tryz.prog 219 #[.slice a n c,.int .u64 (d:Int)] w fun e w'=>e=.returned (.int .i64 ((pickD xs d:Nat):Int))/\w'=w:=by
 have m:=Ab (pY a n c xs w h T K);obtain rfl:n=xs.length:=h.1.symm;obtain⟨S,o⟩:∃S,sumZ xs=S:=⟨_,rfl⟩;obtain⟨R,r⟩:∃R,pickD xs d=R:=⟨_,rfl⟩;have s:=Ab (fun(O:S=0)=>r.symm.trans (fe (o.trans O) d));have q:=Ab (fun(P:S≠0)=>r.symm.trans (Sc (by rw[o];exact P) d));have G:=Ab (fun k J=>Nat.le_trans (Yo xs k J) (Nat.le_of_eq o));rw[o]at K m q;rw[r];clear o r;by_cases L:S=0
 ·subst L
  have j:=Ab (Aa s rfl);clear s q h;go_enter Tryz.func219,Tryz.ntmps219;go_wp2_with (go_at_call 245;refine(Aa m).mono ?_;rintro e w1 ⟨rfl,E⟩;obtain rfl:=E.symm);go_ret;exact⟨Bu (by rw[Aa j];rfl),rfl⟩
 ·have j:=Ab (Aa q L)
  have Q:d%S<S:=Nat.mod_lt _ (by omega);have D:(d:Int)%(S:Int)=((d%S:Nat):Int):=by simp
  have X:((S:Int)==0)=false:=by simp;omega
  clear s q;generalize d%S=N at*;go_enter Tryz.func219,Tryz.ntmps219;go_wp2_with (go_at_call 245;refine(Aa m).mono ?_;rintro e w1 ⟨rfl,E⟩;obtain rfl:=E.symm);go_loop [6,20] (fun t i=> ∃k x:Nat,k<=xs.length/\i=.int .i64 k/\t=.int .u64 (x:Int)/\x<=N/\Hid (R=EE (xs.drop k) k x)) (fun _ i=>xs.length-(intOf i).toNat)
  case atStart=>exact⟨0,N,Nat.zero_le _,rfl,by first|rfl|rw[D],Nat.le_refl _,Ab (Aa j)⟩
  case round=>
   obtain⟨k,x,J,rfl,rfl,hx,l⟩:=hrel;by_cases f:k<xs.length
   ·obtain⟨b,off,rfl,I⟩:=h.at f
    have B:=I k f;have A:=Ab (fun C=>(Aa l).trans (lB xs k x f C));have u:=Ab (fun C=>(Aa l).trans (oM xs k x f C));clear I h l j m;have V:=Aa G k f;clear G;generalize xs.getD k 0=y at*;have Z:=Vf y;generalize y.toNat=z at*;by_cases p:x<z
    ·have j:=Ab (Aa A p)
     clear A u;go_wp2;go_ret;exact⟨Bu (by rw[Aa j];go_num),rfl⟩
    ·have j:=Ab (Aa u p)
     clear A u;go_wp2;go_round
     case rel=>exact⟨k+1,x-z,by omega,by go_num,by go_num,by omega,j⟩
     case measure=>simp[intOf];omega
   ·obtain rfl:k=xs.length:=by omega
    have j:=Ab ((Aa l).trans (lA xs _ _));clear h l m;go_wp2;go_ret;exact⟨Bu (by rw[Aa j];rfl),rfl⟩
def BY(w:World):Prop:=∀i,i<127->w.cell? ⟨1,i,none⟩=some (.int .u32 ((1048576/((i+2)*(i+1)):Nat):Int))
theorem BY.below{w':World}(h:BY w)(b:Below w.heap.size w w'):BY w':=fun i a=>(b.cell (World.block_lt_of_cell? w _ (h i a))).trans (h i a)
theorem iK(x:Nat)(a:x<256):Lib.bitLen x=bitLen x:=by
 have h:∀j:Fin 256,Lib.bitLen j.val=bitLen j.val:=by decide+kernel
 exact h ⟨x,a⟩
theorem oi(x:Nat)(a:x<256):Lib.len8 (x:Int)=((bitLen x:Nat):Int):=by
 rw[Lib.len8_of (x:Int) (by omega) (by omega),Int.toNat_natCast,iK x a]
set_option maxRecDepth 100000 in
theorem iX(x:Nat)(b:x<256)(w:World):
  Calls Tryz.prog 313 #[.int .u64 (x:Int)] w fun e w'=>e=.returned (.int .i64 ((bitLen x:Nat):Int))/\w'=w:=by
 have H:=oi x b;have c:=fun W=>Lib.run_index_len8tab (P:=Tryz.prog) W 9 .u8 (x:Int) Tryz.underlying9 (by omega) (by omega);rw[H]at c;clear H;have k:((bitLen x:Nat):Int)<=8:=by have:=bitLen_le8 x b;omega
 have j:(x:Int)<=255:=by omega
 generalize bitLen x=z at*;clear b;go_enter Tryz.func313,Tryz.ntmps313;generalize f:ByteArray.mk (List.toArray _)=T at*;have a:T=Lib.len8tab:=f.symm.trans (by kernel_rfl);clear f;rw[<-a]at c;clear a;generalize d:bodyPost _ _ _=Q at*;have i:=Ab d;clear d
 iterate 20 go_step
 refine wp_cond_split rfl (fun h=>?_) (fun h=>?_)
 ·exact absurd (of_decide_eq_true h) (by omega)
 clear h
 iterate 15 go_step
 refine wp_cond_split rfl (fun h=>?_) (fun h=>?_)
 ·exact absurd (of_decide_eq_true h) (by omega)
 clear h
 iterate 15 go_step
 refine wp_cond_split rfl (fun h=>?_) (fun h=>?_)
 ·exact absurd (of_decide_eq_true h) (by omega)
 clear h;go_wp2;rw[<-Aa i];go_ret;exact⟨rfl,rfl⟩
theorem pX(x:Nat)(b:x<256)(w:World):
  Calls Tryz.prog 292 #[.int .u64 (x:Int)] w fun e w'=>e=.returned (.int .i64 ((bitLen x:Nat):Int))/\w'=w:=by
 have H:=Ab (iX x b w);generalize bitLen x=z at*;go_enter Tryz.func292,Tryz.ntmps292;go_wp2_with (go_at_call 313;refine(Aa H).mono ?_;rintro e w1 ⟨rfl,a⟩;obtain rfl:=a.symm);go_ret;exact⟨rfl,rfl⟩
theorem ly(k d:Nat)(o:1<=k)(j:k<=128)(n:1<=d)(f:d<=128)(w:World)(ht:BY w):
  Calls Tryz.prog 246 #[.int .i64 (k:Int),.int .i64 (d:Int)] w fun e w'=>e=.returned (.int .i64 ((baseN k d:Nat):Int))/\w'=w:=by
 by_cases c:d=1
 ·subst c
  have m:(1048576:Int)/(k:Int)=((1048576/k:Nat):Int):=by simp
  have b:=Nat.div_le_self 1048576 k;rw[iC];have l:(1:Int)<=(k:Int):=by omega
  generalize 1048576/k=q at*;clear ht;go_enter Tryz.func246,Tryz.ntmps246;go_wp2;go_ret;exact⟨Bu (by first|rfl|rw[m]),rfl⟩
 ·rw[ev c]
  obtain⟨i,rfl⟩:∃i,d=i+2:=⟨d-2,by omega⟩;have a:=ht i (by omega);rw[show(i+2)*(i+2-1)=(i+2)*(i+1) from rfl];have b:=Nat.div_le_self 1048576 ((i+2)*(i+1));have h:((i+2:Nat):Int)-2=(i:Int):=by omega
  generalize 1048576/((i+2)*(i+1))=q at*;clear ht;go_enter Tryz.func246,Tryz.ntmps246;go_wp2;go_ret;exact⟨rfl,rfl⟩
theorem pD(k s d:Nat)(B:1<=k)(j:k<=128)(y:1<=d)(h:d<=128)(J:s<=128)(w:World):
  Calls Tryz.prog 247 #[.int .i64 (k:Int),.int .i64 (s:Int),.int .i64 (d:Int)] w fun e w'=>e=.returned (.int .i64 ((moreN k s d:Nat):Int))/\w'=w:=by
 by_cases a:s=0
 ·subst a
  rw[gY];go_enter Tryz.func247,Tryz.ntmps247;go_wp2;go_ret;exact⟨rfl,rfl⟩
 ·have K:(1:Int)<=(s:Int):=by omega
  have E:(1:Int)<=(k:Int):=by omega
  have A:(1:Int)<=(d:Int):=by omega
  have O:(k:Int)/(s:Int)=((k/s:Nat):Int):=by simp
  have G:=Nat.div_le_self k s;by_cases b:d<k/s
  ·rw[gX a b]
   have C:k*d<=128*128:=Nat.mul_le_mul j h;have u:1*1<=k*d:=Nat.mul_le_mul B y;have n:(k:Int)*(d:Int)=((k*d:Nat):Int):=by simp
   have o:(1048576*s:Int)/((k*d:Nat):Int)=((1048576*s/(k*d):Nat):Int):=by simp
   have l:=Nat.div_le_self (1048576*s) (k*d);have D:(1:Int)<=((k*d:Nat):Int):=by omega
   generalize 1048576*s/(k*d)=q at*;generalize k*d=m at*;generalize k/s=r at*;go_enter Tryz.func247,Tryz.ntmps247;go_wp2;go_ret;exact⟨Bu (by first|rfl|rw[o]),rfl⟩
  ·by_cases c:d=k/s
   ·rw[ge a c]
    have x:=Ab (pX s (by omega) w);have f:=bitLen_le8 s (by omega);have I:1048576*s*bitLen s<=1048576*128*8:=Nat.mul_le_mul (Nat.mul_le_mul_left _ J) f;have n:(1048576*(s:Int))*((bitLen s:Nat):Int)=((1048576*s*bitLen s:Nat):Int):=by simp
    have o:((1048576*s*bitLen s:Nat):Int)/(k:Int)=((1048576*s*bitLen s/k:Nat):Int):=by simp
    have l:=Nat.div_le_self (1048576*s*bitLen s) k;have i:(d:Int)=((k/s:Nat):Int):=by omega
    generalize 1048576*s*bitLen s/k=q at*;generalize 1048576*s*bitLen s=p at*;generalize bitLen s=z at*;generalize k/s=r at*;subst c;clear b i;go_enter Tryz.func247,Tryz.ntmps247;go_wp2_with (go_at_call 292;refine(Aa x).mono ?_;rintro e w1 ⟨rfl,L⟩;obtain rfl:=L.symm);go_ret;exact⟨Bu (by first|rfl|rw[o]),rfl⟩
   ·rw[gZ a (by omega)]
    generalize k/s=r at*;have N:r<d:=by omega
    clear b c;go_enter Tryz.func247,Tryz.ntmps247;go_wp2;go_ret;exact⟨rfl,rfl⟩
theorem km(k s d:Nat):max 1 (baseN k d+moreN k s d)=GO k s d:=rfl
theorem mA(k s:Nat)(N:1<=k)(l:k<=128)(Y:s<=k)(w:World)(ht:BY w):
  Calls Tryz.prog 220 #[.int .i64 (k:Int),.int .i64 (s:Int)] w fun e w'=> ∃v,e=.returned v/\Am w' w.heap.size v (tableL k s)/\Below w.heap.size w w':=by
 have X:=LH k (by omega);have B:=Ab (LG w k (by omega) (Dk (tableL k s) 0) (by rw[M7,GC]));have a:Hid (Below w.heap.size w (w.alloc (.cells (madeCells #[.int .i64 0] k) 3))):=Ab ((Below.refl _ _).alloc (Nat.le_refl _) _);have C:decide ((k:Int)<1)=false:=by rw[decide_eq_false_iff_not];omega
 have e2:decide (128<(k:Int))=false:=by rw[decide_eq_false_iff_not];omega
 have e3:decide ((s:Int)<0)=false:=by rw[decide_eq_false_iff_not];omega
 have e4:decide (k<s)=false:=by rw[decide_eq_false_iff_not];omega
 have Z:s<=128:=by omega
 have L:=Ab N;clear N Y;go_enter Tryz.func220,Tryz.ntmps220;go_wp2;go_loopw [27] (fun i wr=> ∃j:Nat,j<=k/\i=.int .i64 j/\Hid (Am wr w.heap.size (.slice (some ⟨w.heap.size,0,none⟩) k k) (Dk (tableL k s) j))/\Hid (Below w.heap.size w wr)) (fun i _=>k-(intOf i).toNat)
 case atStart=>exact⟨0,Nat.zero_le _,rfl,B,a⟩
 case round=>
  obtain⟨j,V,rfl,o,u⟩:=hrel;have E:=Aa u;by_cases b:j<k
  ·have I:=Aa o
   have J:(Dk (tableL k s) j).length=k:=by rw[K5 _ _ (by rw[GC];exact V),GC]
   obtain⟨g,cap,C,_,_,d,f⟩:=I.at (by omega);simp only[Value.slice.injEq,Option.some.injEq,Addr.mk.injEq,and_true]at C;obtain⟨rfl, -, -⟩:=C;have r:=d j (by omega);have T:=f j;have h:((j+1:Nat):Int)=(j:Int)+1:=by omega
   have D:=ly k (j+1) (Aa L) l (by omega) (by omega) wr (ht.below E);have G:=pD k s (j+1) (Aa L) l (by omega) (by omega) (by omega) wr;rw[h]at D G;have O:=Ab D;have P:=Ab G;have R:=Uo k (j+1);have S:=Vh k s (j+1) (by omega);have m:=oq (baseN k (j+1)+moreN k s (j+1));have c:=I.stored j ((GO k s (j+1):Nat):Int);rw[<-Nv k s j b,M6 _ _ (by rw[GC];exact b),Nv k s j b]at c;have Q:=Ab c;have A:=Ab (E.setCell (p:=⟨w.heap.size,j,none⟩) (by exact Nat.le_refl _) (.int .i64 ((GO k s (j+1):Nat):Int)));rw[km]at m;clear D G h;clear I J d f c E u o B a ht;generalize GO k s (j+1)=q at*;generalize baseN k (j+1)=x at*;generalize moreN k s (j+1)=y at*;have n:((x+y:Nat):Int)=(x:Int)+(y:Int):=by omega
   rw[n]at m;clear n;go_wp2_with (first|(go_at_call 246;refine(Aa O).mono ?_;rintro e w1 ⟨rfl,K⟩;obtain rfl:=K.symm)|(go_at_call 247;refine(Aa P).mono ?_;rintro e w1 ⟨rfl,K⟩;obtain rfl:=K.symm));go_roundw
   case rel=>exact⟨j+1,by omega,by go_num,Q,A⟩
   case measure=>simp[intOf];omega
  ·obtain rfl:j=k:=by omega
   rw[show Dk (tableL j s) j=tableL j s by
    have:=Nh (tableL j s);rwa[GC]at this]at o
   clear B a;go_wp2;go_ret;exact⟨_,rfl,Aa o,Aa u⟩
variable {fuel:Nat}{H:Type}{v:Value}{W:World}
theorem WZ : Tryz.prog.globalNamed "bucketline/soliton.plain" = some 1 := by kernel_rfl
theorem Ym:(Tryz.prog.globals[1]?).map (·.type)=some 380:=by kernel_rfl
theorem Xv:Tryz.prog.cellsOf 380=127:=by kernel_rfl
theorem Xr:Tryz.prog.cellsOf 95=1:=by kernel_rfl
def CO:List Int:=[524288,174762,87381,52428,34952,24966,18724,14563,11650,9532,7943,6721,5761,4993,4369,3855,3426,3066,2759,2496,2269,2072,1899,1747,1613,1493,1387,1291,1205,1127,1057,992,934,881,832,787,745,707,672,639,608,580,554,529,506,485,464,445,427,411,395,380,366,353,340,328,317,306,296,286,277,268,260,252,244,237,230,223,217,210,205,199,194,188,183,179,174,170,165,161,157,154,150,146,143,140,136,133,130,128,125,122,119,117,114,112,110,108,105,103,101,99,97,96,94,92,90,89,87,85,84,82,81,79,78,77,75,74,73,72,71,69,68,67,66,65,64]
theorem fi:CO.length=127:=by decide+kernel
theorem fh(i:Nat)(a:i<127):CO.getD i 0=((1048576/((i+2)*(i+1)):Nat):Int):=by
 have h:∀j:Fin 127,CO.getD j.val 0=((1048576/((j.val+2)*(j.val+1)):Nat):Int):=by decide+kernel
 exact h ⟨i,a⟩
theorem kH{P:Program}{w:World}{x:String×DataW Unit}{r:List (String×DataW Unit)}(h:laidMet P (x::r) w):laidMet P r w:=by
 obtain⟨ps,⟨g,t,cs,fuel,p,q,_,_,_,_,d,rfl⟩,c,a⟩:=h;exact⟨q,d,(List.nodup_append.1 c).2.1,fun b off hp=>a b off (List.mem_append_right _ hp)⟩
set_option maxRecDepth 100000 in
theorem Z6 {W : World} (h : laidMetH Tryz.prog Rows.nodeCrashRow.laid W) : Lib.TabIs Tryz.prog W "bucketline/soliton.plain" .u32 CO :=
 Lib.tabIs_of_head (rest:=[]) WZ Ym Tryz.underlying380 Tryz.underlying95 Xr Xv (kH h)
structure Bs(w:World):Prop where
 tab:Tab w
 pl:BY w
theorem Bs.below{w w':World}(h:Bs w)(a:Below w.heap.size w w'):Bs w':=⟨h.tab.below a,h.pl.below a⟩
theorem Y9(h:laidMetH Tryz.prog Rows.nodeCrashRow.laid W):Bs W:=
 ⟨Z5 h,fun i a=>by rw[(Z6 h).cell WZ i (by rw[fi];exact a),fh i a]⟩
theorem mw{b:Nat}(h:(Lit.float .f64 b).wf=true):b<18446744073709551616:=by simpa [Lit.wf]using h
theorem ep{enc:TypeId×Value->H}{x:DataW H×List MemPlace}
  (h:DataW.trod enc Tryz.prog W 0 (fun _=>true) true fuel 23 [v]=some x):∃b,v=.float .f64 b/\b<18446744073709551616:=by
 cases fuel with
 |zero=>simp[DataW.trod]at h
 |succ fuel=>
  cases v<;>simp[DataW.trod,Tryz.underlying23]at h;obtain⟨⟨rfl,h⟩,_⟩:=h;exact⟨_,rfl,mw h⟩
theorem eL{enc:TypeId×Value->H}{x:DataW H×List MemPlace}
  (h:DataW.trod enc Tryz.prog W 0 (fun _=>true) true fuel 83 [v]=some x):∃a len cap xs,v=.slice a len cap/\IntzAt W a len xs/\len<=9223372036854775807/\(a=none->len=0/\cap=0):=by
 rcases open_ints Tryz.underlying83 Tryz.underlying3 (by kernel_rfl) h with⟨f,_⟩|⟨x,l,c,n,f,_,r,s,y,_,d,u⟩
 ·simp only[List.cons.injEq,and_true]at f
  exact⟨_,_,_,[],f,⟨rfl,.inl rfl⟩,by decide,fun _=>⟨rfl,rfl⟩⟩
 ·simp only[List.cons.injEq,and_true]at f
  have A:n.length=c:=by simpa using y
  refine⟨_,_,_,n.take l,f,⟨by simp;omega,?_⟩,Nat.le_trans r (Kz s),fun e=>by cases e⟩;by_cases o:l=0
  ·exact .inl o
  ·obtain⟨b,off,m⟩:=x
   have p:=d 0 (by omega);have j:m=none:=by simpa [Addr.add]using World.cell?_spot p
   subst j;refine .inr ⟨b,off,rfl,fun i q=>?_⟩;have k:=d i (by omega);rw[D6]at k;rw[k];simp[List.getD_eq_getElem?_getD,q]
theorem Xu:Tryz.prog.cellsOf 85=2:=by kernel_rfl
theorem Xs:Tryz.prog.cellsOf 25=10:=by kernel_rfl
theorem pE{enc:TypeId×Value->H}{cs:List Value}{x:DataW H×List MemPlace}(e:cs.length=2)
  (h:DataW.trod enc Tryz.prog W 0 (fun _=>true) true fuel 85 cs=some x):∃d:Fb,cs=[.int .i64 d.kd,.slice d.a d.n d.c]/\IntzAt W d.a d.n d.tos/\d.n<=9223372036854775807/\(d.a=none->d.n=0/\d.c=0):=by
 match cs,e with
 |[c0,c1],_=>
  obtain⟨f,n,_,_,_,b,j⟩:=DataW.trod_struct Tryz.underlying85 h;have r:f.length=2:=b;obtain⟨s,k⟩:=DM (l:=f) (i:=0) (by omega);obtain⟨u,m⟩:=DM (l:=f) (i:=1) (by omega);obtain⟨kd,rfl⟩:=FT ((j 0 _ rfl).trans k);obtain⟨a,len,cap,xs,rfl,o,p,q⟩:=eL ((j 1 _ rfl).trans m);exact⟨⟨kd,a,len,cap,xs⟩,rfl,o,p,q⟩
theorem TT(Q:Nat->Fb->Prop):∀n,(∀i,i<n->∃r,Q i r)->∃rs:List Fb,rs.length=n/\∀i,i<n->Q i (rs.getD i .dflt)
 |0,_=>⟨[],rfl,fun i a=>by omega⟩
 |n+1,h=>by
  obtain⟨rs,b,c⟩:=TT Q n (fun i a=>h i (by omega));obtain⟨r,hp⟩:=h n (by omega);refine⟨rs++[r],by simp[b],fun i a=>?_⟩;by_cases e:i<n
  ·have:=c i e
   rwa[show(rs++[r]).getD i .dflt=rs.getD i .dflt from by simp[List.getD_eq_getElem?_getD,List.getElem?_append_left (show i<rs.length by omega)]]
  ·obtain rfl:i=n:=by omega
   rwa[show(rs++[r]).getD i .dflt=r from by simp[List.getD_eq_getElem?_getD,<-b]]
structure Dg(w:World)(f:Ca):Prop where
 nds:Bn w f.a f.n f.ds
 len:f.n<=9223372036854775807
 obj:f.obj.size<=9223372036854775807
 rate:f.rate<18446744073709551616
 tos:∀i,i<f.n->(f.ds.getD i .dflt).n<=9223372036854775807/\((f.ds.getD i .dflt).a=none->(f.ds.getD i .dflt).n=0/\(f.ds.getD i .dflt).c=0)
theorem jq{enc:TypeId×Value->H}{y:DataW H×List MemPlace}
  (N:DataW.trod enc Tryz.prog W 0 (fun _=>true) true fuel 22 [v]=some y):∃a len cap o,v=.slice a len cap/\Bn W a len o/\len<=9223372036854775807/\∀i,i<len->(o.getD i .dflt).n<=9223372036854775807/\((o.getD i .dflt).a=none->(o.getD i .dflt).n=0/\(o.getD i .dflt).c=0):=by
 rcases Go.Deep.open_slice Tryz.underlying22 N with⟨e,_⟩|⟨x,l,c,m,n,D,S,e,_,T,O,B,_,R⟩
 ·simp only[List.cons.injEq,and_true]at e
  exact⟨_,_,_,[],e,⟨rfl,fun i f=>by omega,.inl rfl⟩,by decide,fun i f=>by omega⟩
 ·simp only[List.cons.injEq,and_true]at e
  have P:m=c:=by simpa using B
  have G:=Kz O
  obtain⟨o,C,A⟩:=TT (fun i d=>(∀j u,[(.int .i64 d.kd:Value),.slice d.a d.n d.c][j]? =some u->W.cell? ((x.add (i*2)).add j)=some u)/\IntzAt W d.a d.n d.tos/\d.n<=9223372036854775807/\(d.a=none->d.n=0/\d.c=0)) l (fun i f=>by
   obtain⟨J,E,L⟩:=R i (by omega);rw[Xu]at E;obtain⟨_,q,h⟩:=World.cells?_some E;obtain⟨p,rfl,Q⟩:=pE q L;exact⟨p,fun j u I=>(h j (by have:=(List.getElem?_eq_some_iff.1 I).1;simpa using this)).trans I,Q⟩)
  refine⟨_,_,_,o,e,⟨C,fun i f=>(A i f).2.1,?_⟩,by omega,fun i f=>(A i f).2.2⟩;by_cases K:l=0
  ·exact .inl K
  ·obtain⟨b,off,r⟩:=x
   have s:=(A 0 (by omega)).1 0 _ rfl;have k:r=none:=by simpa [Addr.add]using World.cell?_spot s
   subst k;refine .inr ⟨b,off,rfl,fun i f=>?_⟩;have s:=(A i f).1;refine⟨?_,?_⟩
   ·have:=s 0 _ rfl;rwa[D6,D6]at this
   ·have:=s 1 _ rfl;rwa[D6,D6]at this
theorem YN{enc:TypeId×Value->H}{base:Nat}{d:DataW H}{ps:List MemPlace}(D:Value.okWide Tryz.prog W .any base 25 v)
  (h:DataW.Trod enc Tryz.prog W 0 (fun _=>true) true 25 v d ps):∃f:Ca,v=f.val/\Dg W f:=by
 obtain⟨cs,rfl,j⟩:=okWide_struct Tryz.underlying25 D;obtain⟨fuel,b⟩:=h;obtain⟨cs⟩:=cs
 match cs,j.trans Xs with
 |[c0,c1,c2,c3,c4,c5,Q,R,S,T],_=>
  obtain⟨c,n,_,_,_,e,b⟩:=DataW.trod_struct Tryz.underlying25 b;have V:c.length=10:=e;obtain⟨X,k⟩:=DM (l:=c) (i:=0) (by omega);obtain⟨Y,m⟩:=DM (l:=c) (i:=1) (by omega);obtain⟨Z,o⟩:=DM (l:=c) (i:=2) (by omega);obtain⟨y3,p⟩:=DM (l:=c) (i:=3) (by omega);obtain⟨y4,q⟩:=DM (l:=c) (i:=4) (by omega);obtain⟨y5,r⟩:=DM (l:=c) (i:=5) (by omega);obtain⟨y6,u⟩:=DM (l:=c) (i:=6) (by omega);obtain⟨y7,x⟩:=DM (l:=c) (i:=7) (by omega);obtain⟨y8,y⟩:=DM (l:=c) (i:=8) (by omega);obtain⟨y9,A⟩:=DM (l:=c) (i:=9) (by omega);obtain⟨a,len,cap,E,rfl,B,g2,C⟩:=jq ((b 0 _ rfl).trans k);obtain⟨s,rfl,gs⟩:=UY ((b 1 _ rfl).trans m);obtain⟨G,rfl⟩:=FT ((b 2 _ rfl).trans o);obtain⟨I,rfl⟩:=FT ((b 3 _ rfl).trans p);obtain⟨J,rfl⟩:=FT ((b 4 _ rfl).trans q);obtain⟨K,rfl⟩:=FT ((b 5 _ rfl).trans r);obtain⟨L,rfl⟩:=FT ((b 6 _ rfl).trans u);obtain⟨N,rfl,gr⟩:=ep ((b 7 _ rfl).trans x);obtain⟨O,rfl⟩:=FT ((b 8 _ rfl).trans y);obtain⟨P,rfl⟩:=FT ((b 9 _ rfl).trans A);exact⟨⟨a,len,cap,E,s,G,I,J,K,L,N,O,P⟩,rfl,⟨B,g2,gs,gr,C⟩⟩
end Go.Proofs.YtfpfcnfmigaphaaGreatDoor
