/-
  Laws that the proof stands on.
-/
import Derived.Test.YtfpfcnfmigaphaaGreatDoorU0
import Derived.OwnWalk
import Derived.RegionTactic
import Derived.Deep.RegionWith
import Derived.Laws.IdiomStrings
import Derived.Laws.CopyRow
import Derived.Laws.MakeOwn
import Derived.Lib.QuietBelow
namespace Go.Proofs.YtfpfcnfmigaphaaGreatDoor
open Go.RowKit Go.Sort
set_option linter.unusedVariables false
set_option linter.unusedSimpArgs false
set_option maxRecDepth 4000
set_option maxHeartbeats 8000000
variable {xs ys:List Nat}{B g cap:Nat}{v:Value}{w:World}
theorem oY(x:Nat)(a:x<18446744073709551616):bits .and .u64 (x:Int) 1=((x%2:Nat):Int):=by
 have h:=u64_and_nat x 1 a (by omega);rwa[nat_mask1]at h
theorem fm(a:Option Addr)(n c:Nat)(xs:List Nat)(w:World)(h:RowAt w a n xs)(P:n<=1048576):
  Calls Tryz.prog 161 #[.slice a n c] w fun e w'=>e=.returned (.int .i64 ((cnt xs:Nat):Int))/\w'=w:=by
 go_enter Tryz.func161,Tryz.ntmps161;go_wp2;go_loop [3,4] (fun t i=> ∃k:Nat,k<=n/\i=.int .i64 k/\t=.int .i64 ((cnt (xs.take k):Nat):Int)) (fun _ i=>n-(intOf i).toNat)
 case atStart=>exact⟨0,Nat.zero_le _,rfl,rfl⟩
 case round=>
  obtain⟨k,O,rfl,rfl⟩:=hrel;by_cases f:k<n
  ·obtain⟨b,off,rfl,o⟩:=h.at f
   have j:=o k f;have J:=h.2.1.get k;have u:=Ux xs k (by rw[h.1];exact f);have N:=Ju (xs.take k);have p:(xs.take k).length<=k:=List.length_take_le _ _;have hp:=PH (xs.getD k 0);have E:=Ab u;generalize xs.getD k 0=x at*;generalize cnt (xs.take k)=s at*;clear u o h;go_wp2;go_loop [3,5] (fun t y=> ∃z q:Nat,z<18446744073709551616/\y=.int .u64 (z:Int)/\t=.int .i64 (q:Int)/\q+pop z=s+pop x) (fun _ y=>(intOf y).toNat)
   case atStart=>exact⟨x,s,J,rfl,rfl,rfl⟩
   case round=>
    obtain⟨z,q,A,rfl,rfl,r⟩:=hrel;have m:=Ab r;have I:q<=200000000:=by omega
    clear r;by_cases K:0<z
    ·have H:=oY z A
     have D:=Ab (oR z A);go_wp2;go_round
     case rel=>exact⟨z/2,q+z%2,by omega,by go_num,by go_num,by have:=Aa D;have:=Aa m;omega⟩
     case measure=>simp[intOf];omega
    ·have l:z=0:=by omega
     subst l;have d:cnt (xs.take (k+1))=q:=by
      have L:=Aa E;have G:=Aa m;rw[Vt]at G;omega
     have C:=Ab d;clear d;go_wp2;go_round
     case rel=>exact⟨k+1,by omega,by go_num,by rw[Aa C]⟩
     case measure=>simp[intOf];omega
  ·go_wp2
   go_ret;exact⟨Bu (by rw[List.take_of_length_le (by rw[h.1];omega)]),rfl⟩
def sizeOfK(k:Int):Nat:=if k<1\/128<k then 0 else((k+63)/64).toNat
theorem GL(k:Int)(w:World):
  Calls Tryz.prog 177 #[.int .i64 k] w fun e w'=>e=.returned (.int .i64 ((sizeOfK k:Nat):Int))/\w'=w:=by
 by_cases b:k<1
 ·have e:sizeOfK k=0:=by unfold sizeOfK;rw[if_pos (.inl b)]
  rw[e];go_enter Tryz.func177,Tryz.ntmps177;go_wp2;go_ret;exact⟨rfl,rfl⟩
 ·by_cases c:128<k
  ·have e:sizeOfK k=0:=by unfold sizeOfK;rw[if_pos (.inr c)]
   rw[e];go_enter Tryz.func177,Tryz.ntmps177;go_wp2;go_ret;exact⟨rfl,rfl⟩
  ·have e:((sizeOfK k:Nat):Int)=(k+64-1)/64:=by unfold sizeOfK;rw[if_neg (by omega)];omega
   have a:=Ab e;clear e;go_enter Tryz.func177,Tryz.ntmps177;go_wp2;go_ret;exact⟨Bu (Aa a).symm,rfl⟩
theorem Ol(k:Int)(w:World):
  Calls Tryz.prog 100 #[.int .i64 k] w fun e w'=>e=.returned (.int .i64 ((sizeOfK k:Nat):Int))/\w'=w:=by
 by_cases b:k<1
 ·have e:sizeOfK k=0:=by unfold sizeOfK;rw[if_pos (.inl b)]
  rw[e];go_enter Tryz.func100,Tryz.ntmps100;go_wp2;go_ret;exact⟨rfl,rfl⟩
 ·by_cases c:128<k
  ·have e:sizeOfK k=0:=by unfold sizeOfK;rw[if_pos (.inr c)]
   rw[e];go_enter Tryz.func100,Tryz.ntmps100;go_wp2;go_ret;exact⟨rfl,rfl⟩
  ·have e:((sizeOfK k:Nat):Int)=(k+64-1)/64:=by unfold sizeOfK;rw[if_neg (by omega)];omega
   have a:=Ab e;clear e;go_enter Tryz.func100,Tryz.ntmps100;go_wp2;go_loop [3] (fun t=> ∃q:Nat,64*((q:Int)-1)<k/\t=.int .i64 (q:Int)) (fun t=>10-(intOf t).toNat)
   case atStart=>exact⟨0,by omega,rfl⟩
   case round=>
    obtain⟨q,f,rfl⟩:=hrel;by_cases d:64*(q:Int)<k
    ·go_wp2
     go_round
     case rel=>exact⟨q+1,by omega,by go_num⟩
     case measure=>simp[intOf];omega
    ·go_wp2
     go_ret;exact⟨Bu (by rw[Aa a];omega),rfl⟩
def tx(s:ByteArray):List Nat:=s.data.toList.map fun b=>b.toNat
def st(xs:List Nat):ByteArray:=⟨(xs.map UInt8.ofNat).toArray⟩
def bytes(xs:List Nat):Prop:=∀x∈xs,x<256
theorem AQ(s:ByteArray):(tx s).length=s.size:=by cases s;simp[tx,ByteArray.size]
theorem Bk(s:ByteArray):bytes (tx s):=by
 intro x a;obtain⟨b,_,rfl⟩:=List.mem_map.1 a;exact b.toNat_lt
theorem GU(s:ByteArray):st (tx s)=s:=by
 cases s with
 |mk d=>
  unfold st tx;congr 1;rw[List.map_map];have e:((fun x=>UInt8.ofNat x)∘fun b:UInt8=>b.toNat)=id:=by funext b;simp
  rw[e];simp
theorem DD(h:bytes xs):tx (st xs)=xs:=by
 unfold tx st;simp only[List.map_map]
 conv=>rhs;rw[<-List.map_id xs]
 apply List.map_congr_left;intro x a;have:=h x a;simp[Nat.mod_eq_of_lt this]
theorem IQ{a b:ByteArray}(h:tx a=tx b):a=b:=by rw[<-GU a,<-GU b,h]
theorem FK(h:bytes xs)(k:Nat):bytes (xs.take k):=fun x a=>h x (List.mem_of_mem_take a)
theorem FJ(h:bytes xs)(k:Nat):bytes (xs.drop k):=fun x a=>h x (List.mem_of_mem_drop a)
theorem bytes.get(h:bytes xs)(i:Nat):xs.getD i 0<256:=by
 rw[List.getD_eq_getElem?_getD];cases a:xs[i]? with
 |none=>simp
 |some x=>exact h x (List.mem_of_getElem? a)
theorem Eb(s:ByteArray)(k:Nat)(h:k<s.size):s[k].toNat=(tx s).getD k 0:=by
 cases s with
 |mk d=>
  have a:k<d.size:=h;simp only[tx,List.getD_eq_getElem?_getD,List.getElem?_map,Array.getElem?_toList,Array.getElem?_eq_getElem a];rfl
theorem bytes.set(h:bytes xs)(i x:Nat)(b:x<256):bytes (xs.set i x):=by
 intro y c;rcases List.mem_or_eq_of_mem_set c with a|rfl
 ·exact h y a
 ·exact b
theorem Wy{x y:Nat}(a:x<256)(b:y<256):x^^^y<256:=Nat.xor_lt_two_pow (n:=8) (by omega) (by omega)
theorem Ny(b:bytes xs)(c:bytes ys):bytes (xorL xs ys):=by
 intro z a;unfold xorL at a;obtain⟨i,_,rfl⟩:=List.mem_map.1 a;exact Wy (b.get i) (c.get i)
theorem Ja:bytes []:=fun _ h=>by cases h
def IW(a b:ByteArray):ByteArray:=st (xorL (tx a) (tx b))
theorem Mb(a b:ByteArray):tx (IW a b)=xorL (tx a) (tx b):=DD (Ny (Bk a) (Bk b))
theorem Tp(a b:ByteArray):(IW a b).size=max a.size b.size:=by rw[<-AQ,Mb,BV,AQ,AQ]
theorem L5(a:List Nat):xorL a []=a:=by
 apply Ei
 ·rw[BV];simp
 ·intro i b;rw[Dx];simp
theorem OW(a:List Nat):xorL [] a=a:=by rw[J5,L5]
theorem iV(a b c:List Nat):xorL (xorL a b) c=xorL a (xorL b c):=by
 apply Ei
 ·simp only[BV];omega
 ·intro i d;simp only[Dx];exact Nat.xor_assoc _ _ _
theorem Jh(a b:ByteArray):(a.toList==b.toList)=decide (a=b):=by
 rw[ByteArray.toList_eq,ByteArray.toList_eq,Bool.eq_iff_iff];simp only[beq_iff_eq,decide_eq_true_eq,Array.toList_inj];constructor
 ·intro h;cases a;cases b;simp_all
 ·intro h;rw[h]
def AC(w:World)(B:Nat)(v:Value)(xs:List Nat):Prop:=
 bytes xs/\((v=.slice none 0 0/\xs=[])\/∃g cap,v=.slice (some ⟨g,0,none⟩) xs.length cap/\B<=g/\g<w.heap.size/\
  (∀i,i<xs.length->w.cell? ⟨g,i,none⟩=some (.int .u8 ((xs.getD i 0:Nat):Int)))/\∀i,i<xs.length->w.frozen? ⟨g,i,none⟩=false)
theorem AC.nil(w:World)(B:Nat):AC w B (.slice none 0 0) []:=⟨Ja,.inl ⟨rfl,rfl⟩⟩
theorem AC.slice(h:AC w B v xs):∃a c,v=.slice a xs.length c:=by
 rcases h.2 with⟨rfl,rfl⟩|⟨g,cap,rfl,_⟩
 ·exact⟨_,_,rfl⟩
 ·exact⟨_,_,rfl⟩
theorem AC.at(h:AC w B v xs)(a:0<xs.length):
  ∃g cap,v=.slice (some ⟨g,0,none⟩) xs.length cap/\B<=g/\g<w.heap.size/\(∀i,i<xs.length->w.cell? ⟨g,i,none⟩=some (.int .u8 ((xs.getD i 0:Nat):Int)))/\∀i,i<xs.length->w.frozen? ⟨g,i,none⟩=false:=by
 rcases h.2 with⟨_,rfl⟩|h
 ·simp at a
 ·exact h
theorem AC.mono{B':Nat}(h:AC w B v xs)(c:B'<=B):AC w B' v xs:=by
 refine⟨h.1,?_⟩;rcases h.2 with a|⟨g,cap,b,d,r⟩
 ·exact .inl a
 ·exact .inr ⟨g,cap,b,Nat.le_trans c d,r⟩
theorem AC.below{w':World}(h:AC w B v xs)(b:Below w.heap.size w w'):AC w' B v xs:=by
 refine⟨h.1,?_⟩;rcases h.2 with d|⟨g,cap,e,k,a,f,j⟩
 ·exact .inl d
 ·exact .inr ⟨g,cap,e,k,Nat.lt_of_lt_of_le a b.size,fun i c=>((Qg b).1 g i a).trans (f i c),fun i c=>((Qg b).2 g i a).trans (j i c)⟩
theorem AC.stored(h:AC w B (.slice (some ⟨g,0,none⟩) xs.length cap) xs)(i x:Nat)(o:x<256):
  AC (w.setCell ⟨g,i,none⟩ (.int .u8 (x:Int))) B (.slice (some ⟨g,0,none⟩) xs.length cap) (xs.set i x):=by
 refine⟨h.1.set i x o,.inr ?_⟩;rcases h.2 with⟨b,_⟩|⟨g',f,b,n,c,k,m⟩
 ·cases b
 ·simp only[Value.slice.injEq,Option.some.injEq,Addr.mk.injEq,and_true,true_and]at b
  obtain⟨rfl,rfl⟩:=b;refine⟨g,cap,by rw[List.length_set],n,by simpa using c,fun j a=>?_,fun j a=>by rw[World.frozen?_setCell];exact m j (by simpa using a)⟩;rw[List.length_set]at a;rw[D7];by_cases e:j=i
  ·subst e
   rw[if_pos ⟨rfl,a⟩];exact World.cell?_setCell_same _ _ _ (k j a)
  ·rw[if_neg (fun h=>e h.1)]
   have d:(⟨g,i,none⟩:Addr)≠⟨g,j,none⟩:=fun h=>e (by injection h with b l;exact l.symm);exact(World.cell?_setCell_other (h:=d) ..).trans (k j a)
theorem AC.drew(h:AC w B v xs):AC w.drew B v xs:=by
 refine⟨h.1,?_⟩;rcases h.2 with b|⟨g,cap,c,f,a,d,e⟩
 ·exact .inl b
 ·exact .inr ⟨g,cap,c,f,a,d,e⟩
theorem UJ{wr:World}{k z:Nat}(h:bytes xs)(i:bytes ys)(f:k<xs.length)(d:B<=g)
  (c:AC wr B (.slice (some ⟨g,0,none⟩) xs.length cap) (Do xs ys k)) (e:Below B w wr) (j:z=xs.getD k 0^^^ys.getD k 0):
  AC (wr.setCell ⟨g,k,none⟩ (.int .u8 (z:Int))) B (.slice (some ⟨g,0,none⟩) xs.length cap) (Do xs ys (k+1))/\Below B w (wr.setCell ⟨g,k,none⟩ (.int .u8 (z:Int))):=by
 have b:=Ce xs ys k;subst j;rw[<-b]at c;have a:=c.stored k (xs.getD k 0^^^ys.getD k 0) (Wy (h.get k) (i.get k));rw[RS xs ys k f,b]at a;exact⟨a,e.setCell (by exact d) _⟩
theorem lc{wr:World}{k z:Nat}(h:bytes xs)(i:bytes ys)(e:k<xs.length)(c:B<=g)
  (f:AC wr B (.slice (some ⟨g,0,none⟩) xs.length cap) (Do xs ys k)) (d:Below B w wr) (j:z=xs.getD k 0^^^ys.getD k 0):
  AC (wr.setCell ⟨g,k,none⟩ (.int .u8 (z:Int))).drew B (.slice (some ⟨g,0,none⟩) xs.length cap) (Do xs ys (k+1))/\Below B w (wr.setCell ⟨g,k,none⟩ (.int .u8 (z:Int))).drew:=by
 obtain⟨a,b⟩:=UJ h i e c f d j;exact⟨a.drew,b.drew⟩
theorem AC.text(h:AC w B v xs):(convert 260 9 v).run Tryz.prog w=.ok (.string (st xs)) w:=by
 rcases h.2 with⟨rfl,rfl⟩|⟨g,cap,rfl,k,d,c,i⟩
 ·rw[run_convert_bytes_string w 260 9 5 none 0 0 Tryz.underlying260 Tryz.underlying5 Tryz.underlying9]
  rfl
 ·have:=run_convert_bytes_back (P:=Tryz.prog) w 260 9 5 ⟨g,0,none⟩ cap (xs.map UInt8.ofNat) Tryz.underlying260 Tryz.underlying5 Tryz.underlying9 (fun j f=>by
   have a:j<xs.length:=by simpa using f
   have e:(⟨g,0,none⟩:Addr).add j=⟨g,j,none⟩:=by unfold Addr.add;split<;>simp_all
   rw[e,c j a];have b:=h.1.get j;simp only[List.getElem_map];rw[List.getD_eq_getElem?_getD,List.getElem?_eq_getElem a]at b⊢;simp only[Option.getD_some]at b⊢;rw[UInt8.toNat_ofNat_of_lt' b])
  rw[List.length_map]at this;exact this
theorem Pm:(Tryz.prog.info? 5).map (fun i=>(i.zero,i.size,i.bytes))=some (some (.int .u8 0),1,1):=by kernel_rfl
theorem Qy{P:Program}(w:World)(j z A c:TypeId)(g n cap:Nat)(s:ByteArray)(a:Array Value)(t:TypeId)(r:P.underlying j=some (.slice c))(q:(P.info? c).map (·.size)=some 1)
  (o:w.heap[g]? =some (.cells a t (0,0))) (k:a.size=s.size) (p:n=s.size):
  (Builtin.copy_ #[j,z] A #[.slice (some ⟨g,0,none⟩) n cap,.string s]).run P w=.ok (goInt s.size) (w.setRow g (s.data.map fun b=>Value.int .u8 (b.toNat:Int))):=by
 subst p;have d:(s.data.toList.map fun b=>Value.int .u8 (b.toNat:Int)).length=s.size:=by rw[List.length_map];rfl
 have f:=run_storeCells_at P g 0 t (s.data.toList.map fun b=>Value.int .u8 (b.toNat:Int)) 0 a w o (by rw[d,k];omega)
  (fun v u=>by obtain⟨b,_,rfl⟩:=List.mem_map.1 u;rfl)
 have m:(List.take (0+0) a.toList++(s.data.toList.map fun b=>Value.int .u8 (b.toNat:Int))++List.drop (0+0+(s.data.toList.map fun b=>Value.int .u8 (b.toNat:Int)).length) a.toList).toArray=s.data.map fun b=>Value.int .u8 (b.toNat:Int):=by
  rw[List.drop_eq_nil_of_le (by rw[d,Array.length_toList,k];omega)];apply Array.ext';simp
 rw[m]at f;have e:Nat.min s.size s.size=s.size:=Nat.min_self _;have h:List.take s.size (s.data.toList.map fun b=>Value.int .u8 (b.toNat:Int))=s.data.toList.map fun b=>Value.int .u8 (b.toNat:Int):=List.take_of_length_le (by rw[d];omega);cases l:P.info? c with
 |none=>simp[l]at q
 |some i=>
  simp[Builtin.copy_,run_underlying r,Builtin.lenOf,Builtin.firstCells,sizeOf,typeInfo,l,e,h,f]
theorem XK{a b:ByteArray}(h:a=b):Ending.returned (.string a)=.returned (.string b):=by rw[h]
theorem Td(a b:ByteArray):tx (a++b)=tx a++tx b:=by
 unfold tx;rw[ByteArray.data_append,Array.toList_append,List.map_append]
theorem Dz(xs:List Nat):(st xs).size=xs.length:=by simp[st,ByteArray.size]
theorem El(s:ByteArray)(a b:Nat):tx (s.extract a b)=((tx s).drop a).take (b-a):=by
 unfold tx;rw[ByteArray.data_extract,Array.toList_extract,List.extract_eq_take_drop,List.map_take,List.map_drop]
theorem IJ(x y:Nat)(a:Array TypeId)(t:TypeId)(w:World):(Builtin.min_ a t #[.int .i64 (x:Int),.int .i64 (y:Int)]).run Tryz.prog w=.ok (.int .i64 ((min x y:Nat):Int)) w:=by
 rw[run_min_int2];congr 2;split<;>omega
variable {g:Nat}{v x y:Value}{w:World}
theorem Cr{W:World}{f:FuncId}{args:Array Value}(h:∀w',Below W.heap.size W w'->Calls Tryz.prog f args w' fun e a=>e=.returned v/\Below w'.heap.size w' a)(d:Nat)(os:Array Obj):
  Calls Tryz.prog f args (grow (redrawn W d) os) fun e a=>e=.returned v/\∃p:Regrown,a=grow (redrawn W p.d) p.os:=
 Calls.regrown_of (h _ (below_regrown W d os))
theorem RB{f:FuncId}{args:Array Value}(h:Calls Tryz.prog f args w fun e a=>e=.returned v/\a=w):Calls Tryz.prog f args w fun e a=>e=.returned v/\Below w.heap.size w a:=
 h.mono fun e w' ⟨b,c⟩=>⟨b,by rw[c];exact Below.refl _ _⟩
def A2(w:World)(g:Nat)(x y:Value):Prop:=w.cell? ⟨g,0,none⟩=some x/\w.cell? ⟨g,1,none⟩=some y
theorem Gl(w:World)(x y:Value):A2 (w.alloc (.cells #[x,y] 57)) w.heap.size x y:=by
 constructor<;>simp
theorem A2.below{w':World}(h:A2 w g x y)(a:Below w.heap.size w w'):A2 w' g x y:=
 ⟨(a.cell (World.block_lt_of_cell? w _ h.1)).trans h.1,(a.cell (World.block_lt_of_cell? w _ h.2)).trans h.2⟩
theorem A2.alloc(h:A2 w g x y)(o:Obj):A2 (w.alloc o) g x y:=h.below ((Below.refl _ _).alloc (Nat.le_refl _) _)
def A7(w:World)(g:Nat)(x y:Value):Prop:=A2 w g x y/\w.frozen? ⟨g,0,none⟩=false/\w.frozen? ⟨g,1,none⟩=false
theorem Jg(w:World)(x y:Value):A7 (w.alloc (.cells #[x,y] 57)) w.heap.size x y:=⟨Gl w x y,by simp,by simp⟩
theorem A7.below{w':World}(h:A7 w g x y)(a:Below w.heap.size w w'):A7 w' g x y:=
 ⟨h.1.below a,(a.frozen (World.block_lt_of_cell? w _ h.1.1)).trans h.2.1,(a.frozen (World.block_lt_of_cell? w _ h.1.2)).trans h.2.2⟩
theorem A7.alloc(h:A7 w g x y)(o:Obj):A7 (w.alloc o) g x y:=h.below ((Below.refl _ _).alloc (Nat.le_refl _) _)
theorem A7.other(h:A7 w g x y){g':Nat}(i:Nat)(u:Value)(a:g'≠g):A7 (w.setCell ⟨g',i,none⟩ u) g x y:=by
 have b:(⟨g',i,none⟩:Addr)≠⟨g,0,none⟩:=fun h=>a (by injection h);have c:(⟨g',i,none⟩:Addr)≠⟨g,1,none⟩:=fun h=>a (by injection h);exact⟨⟨(World.cell?_setCell_other (h:=b) ..).trans h.1.1,(World.cell?_setCell_other (h:=c) ..).trans h.1.2⟩,by rw[World.frozen?_setCell];exact h.2.1,by rw[World.frozen?_setCell];exact h.2.2⟩
theorem aQ{k i:Nat}(u:Value)(h:k≠g):(w.setCell ⟨g,i,none⟩ u).heap[k]? =w.heap[k]? :=by
 unfold World.setCell;simp[Array.getElem?_modify,Ne.symm h]
theorem Own.other{B:Nat}{xs:List Nat}(h:Own w B v xs){g:Nat}(i:Nat)(u:Value)(f:g<B):Own (w.setCell ⟨g,i,none⟩ u) B v xs:=by
 refine⟨h.1,h.2.1,?_⟩;rcases h.2.2 with d|⟨g',cap,a,e,b,c,r⟩
 ·exact .inl d
 ·exact .inr ⟨g',cap,a,e,b,(aQ u (by omega)).trans c,r⟩
theorem A7.set0(h:A7 w g x y)(u:Value):A7 (w.setCell ⟨g,0,none⟩ u) g u y:=
 ⟨⟨World.cell?_setCell_same _ _ _ h.1.1,(World.cell?_setCell_other (h:=by simp) ..).trans h.1.2⟩,by rw[World.frozen?_setCell];exact h.2.1,by rw[World.frozen?_setCell];exact h.2.2⟩
theorem A7.set1(h:A7 w g x y)(u:Value):A7 (w.setCell ⟨g,1,none⟩ u) g x u:=
 ⟨⟨(World.cell?_setCell_other (h:=by simp) ..).trans h.1.1,World.cell?_setCell_same _ _ _ h.1.2⟩,by rw[World.frozen?_setCell];exact h.2.1,by rw[World.frozen?_setCell];exact h.2.2⟩
theorem jK(w:World)(g:Nat)(t:ByteArray)(a:Array Value)(e:TypeId)(c:w.heap[g]? =some (.cells a e (0,0)))(m:a.size=t.size)
  (B:Nat) (w0:World) (l:Below B w0 w) (d:B<=g):
  ∃w',(Builtin.copy_ #[260,9] 3 #[.slice (some ⟨g,0,none⟩) t.size t.size,.string t]).run Tryz.prog w=.ok (goInt t.size) w'/\AC w' B (.slice (some ⟨g,0,none⟩) t.size t.size) (tx t)/\Below B w0 w':=by
 obtain⟨q,f,n,h,o⟩:=info_parts Pm;refine⟨_,Qy w 260 9 3 5 g t.size t.size t a e Tryz.underlying260 (by rw[f];simp[h]) c m rfl,⟨Bk t,.inr ⟨g,t.size,by rw[AQ],d,?_,fun i j=>?_,fun i j=>?_⟩⟩,?_⟩
 ·simpa using(Array.getElem?_eq_some_iff.1 c).1
 ·rw[cell_setRow_same w g i _ _ _ _ c]
  have b:i<t.size:=by rwa[AQ]at j
  rw[<-Eb t i b];have:i<t.data.size:=b;simp only[Array.getElem?_map,Array.getElem?_eq_getElem this];rfl
 ·simp[World.frozen?,setRow_heap w g _ _ _ _ c]
 ·exact l.trans ⟨rfl,rfl,rfl,by simp,fun k p=>setRow_other w g k _ (by omega)⟩
theorem L7(v:Value)(xs:List Nat)(s:ByteArray)(B:Nat)(w:World)(h:AC w B v xs)(hB:B<=w.heap.size)(hn:xs.length<=1048576)(hm:s.size<=1048576):
  Calls Tryz.prog 254 #[v,.string s] w fun e w'=> ∃v',e=.returned v'/\AC w' B v' (xorL xs (tx s))/\Below B w w':=by
 obtain⟨va,vc,rfl⟩:=h.slice;have p:=AQ s;by_cases J:s.size<=xs.length
 ·have f:decide ((s.size:Int)<=(xs.length:Int))=true:=by simp;omega
  go_enter Tryz.func254,Tryz.ntmps254;go_wp2;go_loopw [16] (fun i wr=> ∃k:Nat,k<=s.size/\i=.int .i64 k/\Hid (AC wr B (.slice va xs.length vc) (Do xs (tx s) k))/\Hid (Below B w wr)) (fun i _=>s.size-(intOf i).toNat)
  case atStart=>exact⟨0,Nat.zero_le _,rfl,Ab (by rw[J4];exact h),Ab (Below.refl _ _)⟩
  case round=>
   obtain⟨k,hk,rfl,b,r⟩:=hrel;by_cases o:k<s.size
   ·have V:k<xs.length:=by omega
    have I:(k:Int)<(xs.length:Int):=by omega
    have K:(k:Int)<(s.size:Int):=by omega
    obtain⟨g,cap,q,m,S,c,d⟩:=(Aa b).at (by rw[Ce];omega);rw[Ce]at q;simp only[Value.slice.injEq,true_and]at q;obtain⟨rfl,rfl⟩:=q;have a:=c k (by rw[Ce];omega);have Q:=d k (by rw[Ce];omega);rw[GE xs (tx s) k k (by omega),if_neg (by omega)]at a;have W:=u8_xor_nat (xs.getD k 0) s[k].toNat (h.1.get k) s[k].toNat_lt;have R:=Ab (lc (z:=xs.getD k 0^^^s[k].toNat) h.1 (Bk s) (by omega) m (Aa b) (Aa r) (by rw[Eb s k o]));generalize xs.getD k 0=x at*;clear c d h b J f;go_wp2;go_region
    all_goals go_wp2
    go_roundw
    case rel=>exact⟨k+1,by omega,by go_num,Ab (Aa R).1,Ab (Aa R).2⟩
    case measure=>simp[intOf];omega
   ·have n:k=(tx s).length:=by omega
    rw[n,J6 xs (tx s) (by omega)]at b;clear h;go_wp2;go_ret;exact⟨_,rfl,Aa b,Aa r⟩
 ·have f:decide ((s.size:Int)<=(xs.length:Int))=false:=by simp;omega
  obtain⟨u,T,X,Y,Z⟩:=info_parts Pm;have l:=run_make (P:=Tryz.prog) w 260 5 u (.int .u8 0) Tryz.underlying260 T X .i64 .i64 (s.size:Int) (s.size:Int) (by omega) (by omega) (by rw[Z];omega) (by omega);simp only[Int.toNat_natCast]at l;have H:(w.alloc (.cells (madeCells (Value.int .u8 0).cells (s.size*u.size)) 5)).heap[w.heap.size]? =some (.cells (madeCells (Value.int .u8 0).cells (s.size*u.size)) 5 (0,0)):=by
   show(w.heap.push _)[w.heap.size]? =_;simp
  have G:(madeCells (Value.int .u8 0).cells (s.size*u.size)).size=s.size:=by rw[size_madeCells,Y,Nat.mul_one]
  have E:Below w.heap.size w (w.alloc (.cells (madeCells (Value.int .u8 0).cells (s.size*u.size)) 5)):=(Below.refl _ _).alloc (Nat.le_refl _) _;generalize madeCells (Value.int .u8 0).cells (s.size*u.size)=D at*;generalize w.alloc (.cells D 5)=wm at*;obtain⟨w1,O,ho,hb⟩:=jK wm w.heap.size s D 5 H G w.heap.size w E (Nat.le_refl _);have C:=Ab ho;have A:=Ab hb;clear ho hb H G E;go_enter Tryz.func254,Tryz.ntmps254;go_wp2;go_loopw [38] (fun i wr=> ∃k:Nat,k<=xs.length/\i=.int .i64 k/\Hid (AC wr w.heap.size (.slice (some ⟨w.heap.size,0,none⟩) s.size s.size) (Do (tx s) xs k))/\Hid (Below w.heap.size w wr)) (fun i _=>xs.length-(intOf i).toNat)
  case atStart=>exact⟨0,Nat.zero_le _,rfl,Ab (by rw[J4];exact Aa C),A⟩
  case round=>
   obtain⟨k,hk,rfl,b,r⟩:=hrel;clear C A O l;by_cases o:k<xs.length
   ·have V:k<s.size:=by omega
    have I:(k:Int)<(s.size:Int):=by omega
    have K:(k:Int)<(xs.length:Int):=by omega
    obtain⟨g',aa,L,_,_,j,_⟩:=(h.below (Aa r)).at (by omega);simp only[Value.slice.injEq,true_and]at L;obtain⟨rfl,rfl⟩:=L;have N:=j k o;obtain⟨g,cap,q,m,S,c,d⟩:=(Aa b).at (by rw[Ce];omega);rw[Ce,p]at q;simp only[Value.slice.injEq,Option.some.injEq,Addr.mk.injEq,and_true,true_and]at q;obtain⟨rfl,rfl⟩:=q;have a:=c k (by rw[Ce];omega);have Q:=d k (by rw[Ce];omega);rw[GE (tx s) xs k k (by omega),if_neg (by omega)]at a;have W:=u8_xor_nat ((tx s).getD k 0) (xs.getD k 0) ((Bk s).get k) (h.1.get k);rw[<-p]at b;have R:=Ab (UJ (Bk s) h.1 (by omega) m (Aa b) (Aa r) rfl);rw[p]at R;generalize (tx s).getD k 0=x at*;generalize xs.getD k 0=y at*;clear c d j h b J f;go_wp2;go_roundw
    case rel=>exact⟨k+1,by omega,by go_num,Ab (Aa R).1,Ab (Aa R).2⟩
    case measure=>simp[intOf];omega
   ·have n:k=xs.length:=by omega
    rw[n,J6 (tx s) xs (by omega),J5]at b;clear h;go_wp2;go_ret;exact⟨_,rfl,(Aa b).mono hB,(Aa r).mono hB⟩
def E3(xs:List Nat)(i:Int):Bool:=if i<0 then false else Ah xs i.toNat
theorem nG{xs:List Nat}{i:Int}(h:¬(0<=i/\i/64<(xs.length:Int))):E3 xs i=false:=by
 unfold E3;split
 ·rfl
 ·exact EC xs _ (by omega)
theorem Wg{xs:List Nat}{i:Int}(h:0<=i):E3 xs i=Ah xs i.toNat:=by
 unfold E3;rw[if_neg (by omega)]
theorem Mi(a:Option Addr)(n c:Nat)(xs:List Nat)(i:Int)(w:World)(h:RowAt w a n xs)(j:n<=1048576)(f:i<=9223372036854775807):
  Calls Tryz.prog 253 #[.slice a n c,.int .i64 i] w fun e w'=>e=.returned (.bool (E3 xs i))/\∃d,w'=w.drewN d:=by
 by_cases b:0<=i/\i/64<(xs.length:Int)
 ·rw[Wg b.1]
  exact YD a n c xs i w h b.1 f (by rw[<-h.1];exact b.2) (by omega)
 ·rw[nG b]
  exact Yq a n c i w f (by rw[<-h.1];omega)
theorem LV(xs:List Nat)(k:Nat):E3 xs (k:Int)=Ah xs k:=by rw[Wg (by omega),Int.toNat_natCast]
theorem T9(a:Option Addr)(n c:Nat)(xs:List Nat)(k:Nat)(w:World)(h:RowAt w a n xs)(b:n<=1048576)(f:k<=9223372036854775807):
  Calls Tryz.prog 253 #[.slice a n c,.int .i64 (k:Int)] w fun e w'=>e=.returned (.bool (Ah xs k))/\Below w.heap.size w w':=by
 refine(Mi a n c xs k w h b (by omega)).mono ?_;rintro e w' ⟨rfl,d,rfl⟩;rw[LV];exact⟨rfl,below_drewN (Below.refl _ _) d⟩
theorem Zz(a b:ByteArray)(w:World)(i:a.size<=1048576)(l:b.size<=1048576):
  Calls Tryz.prog 327 #[.string a,.string b] w fun e w'=>e=.returned (.string (IW a b))/\Below w.heap.size w w':=by
 go_enter Tryz.func327,Tryz.ntmps327;go_wp2_with fail;refine(L7 _ [] a w.heap.size w (AC.nil _ _) (Nat.le_refl _) (by simp) i).mono ?_;rintro e w1 ⟨v,rfl,h,f⟩;rw[OW]at h;go_wp2_with fail;refine(L7 v (tx a) b w.heap.size w1 h f.size (by rw[AQ];exact i) l).mono ?_;rintro e w2 ⟨m,rfl,d,c⟩;have k:=d.text;have j:=Ab (f.trans c);clear h f d c;go_wp2;go_ret;exact⟨rfl,Aa j⟩
def MF(s:ByteArray):Bool:=(tx s).all fun x=>x==0
theorem lf(s:ByteArray):MF s=true↔∀i,(tx s).getD i 0=0:=by
 rw[<-JU];simp[MF]
def BB(vs:List Nat):Nat->Nat
 |0=>0
 |k+1=>BB vs k+if Ah vs k then 1 else 0
theorem O7(vs:List Nat):∀k,BB vs k<=k
 |0=>Nat.le_refl _
 |k+1=>by
  have:=O7 vs k;unfold BB;split<;>omega
theorem Ou(vs:List Nat)(n:Nat):∀d,BB vs n<=BB vs (n+d)
 |0=>Nat.le_refl _
 |d+1=>by
  have:=Ou vs n d;show _<=BB vs (n+d)+_;omega
theorem N9(vs:List Nat)(n:Nat)(h:∀i,n<=i->Ah vs i=false):∀d,BB vs (n+d)=BB vs n
 |0=>rfl
 |d+1=>by
  show BB vs (n+d)+(if Ah vs (n+d)then 1 else 0)=_;rw[N9 vs n h d,h (n+d) (by omega)];simp
theorem mL(vs:List Nat)(n d i:Nat)(f:n<=i)(h:i<n+d)(e:Ah vs i=true):BB vs n<BB vs (n+d):=by
 have a:=Ou vs n (i-n);have b:=Ou vs (i+1) (n+d-(i+1));rw[show n+(i-n)=i from by omega]at a;rw[show i+1+(n+d-(i+1))=n+d from by omega]at b;have c:BB vs (i+1)=BB vs i+1:=by simp[BB,e]
 omega
def G1(x:Nat):Nat->Nat
 |0=>0
 |f+1=>G1 x f+if x.testBit f then 1 else 0
theorem WB(x:Nat):∀f,G1 x (f+1)=x%2+G1 (x/2) f
 |0=>by
  have:x.testBit 0=decide (x%2=1):=Nat.testBit_zero x;simp only[G1,this];by_cases h:x%2=1
  ·simp[h]
  ·simp[h];omega
 |f+1=>by
  have e:x.testBit (f+1)=(x/2).testBit f:=by rw[Nat.testBit_succ]
  show G1 x (f+1)+(if x.testBit (f+1)then 1 else 0)=x%2+(G1 (x/2) f+if (x/2).testBit f then 1 else 0);rw[WB x f,e];omega
theorem Vs:∀f x,CC f x=G1 x f
 |0,x=>rfl
 |f+1,x=>by
  rw[WB,<-Vs f (x/2)];rfl
theorem JV(x:Nat)(xs:List Nat)(i:Nat)(h:i<64):Ah (x::xs) i=x.testBit i:=by
 unfold Ah;rw[show i/64=0 from by omega,show i%64=i from by omega];rfl
theorem K3(x:Nat)(xs:List Nat)(i:Nat):Ah (x::xs) (64+i)=Ah xs i:=by
 unfold Ah;rw[show(64+i)/64=i/64+1 from by omega,show(64+i)%64=i%64 from by omega];rfl
theorem Tf(x:Nat)(xs:List Nat):∀f,f<=64->BB (x::xs) f=G1 x f
 |0,_=>rfl
 |f+1,h=>by
  show BB (x::xs) f+_=G1 x f+_;rw[Tf x xs f (by omega),JV x xs f (by omega)]
theorem Tg(x:Nat)(xs:List Nat):∀k,BB (x::xs) (64+k)=pop x+BB xs k
 |0=>by rw[Nat.add_zero,Tf x xs 64 (Nat.le_refl _)];unfold pop;rw[Vs];rfl
 |k+1=>by
  show BB (x::xs) (64+k)+(if Ah (x::xs) (64+k)then 1 else 0)=pop x+(BB xs k+if Ah xs k then 1 else 0);rw[Tg x xs k,K3];omega
theorem LR:∀xs,cnt xs=BB xs (64*xs.length)
 |[]=>rfl
 |x::xs=>by
  rw[LQ,List.length_cons,show 64*(xs.length+1)=64+64*xs.length from by omega,Tg,LR xs]
theorem OM(vs:List Nat)(n:Nat):BB vs n=cnt vs↔∀i,n<=i->Ah vs i=false:=by
 rw[LR];constructor
 ·intro h i a
  by_cases c:i<64*vs.length
  ·cases b:Ah vs i with
   |false=>rfl
   |true=>
    have:=mL vs n (64*vs.length-n) i a (by omega) b;rw[show n+(64*vs.length-n)=64*vs.length from by omega]at this;omega
  ·exact EC vs i (by omega)
 ·intro h
  by_cases c:n<=64*vs.length
  ·have:=N9 vs n h (64*vs.length-n)
   rw[show n+(64*vs.length-n)=64*vs.length from by omega]at this;omega
  ·have:=N9 vs (64*vs.length) (fun i a=>EC vs i a) (n-64*vs.length)
   rw[show 64*vs.length+(n-64*vs.length)=n from by omega]at this;omega
theorem jw(a b:List Nat)(i:Nat):Ah (xorL a b) i=(Ah a i^^Ah b i):=by
 unfold Ah;rw[Dx,Nat.testBit_xor]
theorem T8(i:Nat):Ah [] i=false:=EC [] i (by simp)
end Go.Proofs.YtfpfcnfmigaphaaGreatDoor
