/-
  Laws that the proof stands on.
-/
import Derived.Test.YtfpfcnfmigaphaaGreatDoorU36
import Derived.Test.YtfpfcnfmigaphaaGreatDoorU37
namespace Go.Proofs.YtfpfcnfmigaphaaGreatDoor
open Go.RowKit Go.Sort
set_option linter.unusedVariables false
set_option linter.unusedSimpArgs false
set_option maxRecDepth 4000
set_option maxHeartbeats 8000000
variable {tmps:Array Value}{xs:List Nat}{cs:List Value}{g n:Nat}{a:Option Addr}{T:TypeId}{v0 v1 v2 v3 v4 v5 v6 v7 v8 v9:Value}{w w' W:World}
def AK(w:World)(g:Nat)(v0 v1 v2 v3 v4 v5 v6 v7 v8 v9:Value):Prop:=w.heap[g]? =some (.cells #[v0,v1,v2,v3,v4,v5,v6,v7,v8,v9] 78 (0,0))
theorem EB(w:World)(v0 v1 v2 v3 v4 v5 v6 v7 v8 v9:Value):AK (w.alloc (.cells #[v0,v1,v2,v3,v4,v5,v6,v7,v8,v9] 78)) w.heap.size v0 v1 v2 v3 v4 v5 v6 v7 v8 v9:=by
 show(w.heap.push _)[w.heap.size]? =_;simp
theorem AK.lt(h:AK w g v0 v1 v2 v3 v4 v5 v6 v7 v8 v9):g<w.heap.size:=(Array.getElem?_eq_some_iff.1 h).1
theorem AK.below(h:AK w g v0 v1 v2 v3 v4 v5 v6 v7 v8 v9)(b:Below w.heap.size w w'):AK w' g v0 v1 v2 v3 v4 v5 v6 v7 v8 v9:=(b.block g h.lt).trans h
theorem AK.at(h:AK w g v0 v1 v2 v3 v4 v5 v6 v7 v8 v9):FI w g v0 v1 v2 v3 v4 v5 v6 v7 v8 v9:=by
 unfold AK at h;refine⟨⟨?_,?_,?_⟩,?_,?_,?_,?_,?_,?_,?_⟩<;>rw[cell_of_row w g _ _ _ _ h]<;>rfl
theorem AK.frz(h:AK w g v0 v1 v2 v3 v4 v5 v6 v7 v8 v9)(i:Nat):w.frozen? ⟨g,i,none⟩=false:=by
 unfold AK at h;simp[World.frozen?,h]
theorem AK.other(h:AK w g v0 v1 v2 v3 v4 v5 v6 v7 v8 v9){a:Addr}(b:g≠a.block)(u:Value):AK (w.setCell a u) g v0 v1 v2 v3 v4 v5 v6 v7 v8 v9:=
 (Below.heap_setCell w a u g b).trans h
theorem AK.set0(h:AK w g v0 v1 v2 v3 v4 v5 v6 v7 v8 v9)(u:Value):AK (w.setCell ⟨g,0,none⟩ u) g u v1 v2 v3 v4 v5 v6 v7 v8 v9:=heap_setCell_same w g 0 _ _ u h
theorem AK.set1(h:AK w g v0 v1 v2 v3 v4 v5 v6 v7 v8 v9)(u:Value):AK (w.setCell ⟨g,1,none⟩ u) g v0 u v2 v3 v4 v5 v6 v7 v8 v9:=heap_setCell_same w g 1 _ _ u h
theorem AK.set2(h:AK w g v0 v1 v2 v3 v4 v5 v6 v7 v8 v9)(u:Value):AK (w.setCell ⟨g,2,none⟩ u) g v0 v1 u v3 v4 v5 v6 v7 v8 v9:=heap_setCell_same w g 2 _ _ u h
theorem AK.set3(h:AK w g v0 v1 v2 v3 v4 v5 v6 v7 v8 v9)(u:Value):AK (w.setCell ⟨g,3,none⟩ u) g v0 v1 v2 u v4 v5 v6 v7 v8 v9:=heap_setCell_same w g 3 _ _ u h
theorem AK.set4(h:AK w g v0 v1 v2 v3 v4 v5 v6 v7 v8 v9)(u:Value):AK (w.setCell ⟨g,4,none⟩ u) g v0 v1 v2 v3 u v5 v6 v7 v8 v9:=heap_setCell_same w g 4 _ _ u h
theorem AK.set5(h:AK w g v0 v1 v2 v3 v4 v5 v6 v7 v8 v9)(u:Value):AK (w.setCell ⟨g,5,none⟩ u) g v0 v1 v2 v3 v4 u v6 v7 v8 v9:=heap_setCell_same w g 5 _ _ u h
theorem AK.set6(h:AK w g v0 v1 v2 v3 v4 v5 v6 v7 v8 v9)(u:Value):AK (w.setCell ⟨g,6,none⟩ u) g v0 v1 v2 v3 v4 v5 u v7 v8 v9:=heap_setCell_same w g 6 _ _ u h
theorem AK.set7(h:AK w g v0 v1 v2 v3 v4 v5 v6 v7 v8 v9)(u:Value):AK (w.setCell ⟨g,7,none⟩ u) g v0 v1 v2 v3 v4 v5 v6 u v8 v9:=heap_setCell_same w g 7 _ _ u h
theorem AK.set8(h:AK w g v0 v1 v2 v3 v4 v5 v6 v7 v8 v9)(u:Value):AK (w.setCell ⟨g,8,none⟩ u) g v0 v1 v2 v3 v4 v5 v6 v7 u v9:=heap_setCell_same w g 8 _ _ u h
theorem AK.set9(h:AK w g v0 v1 v2 v3 v4 v5 v6 v7 v8 v9)(u:Value):AK (w.setCell ⟨g,9,none⟩ u) g v0 v1 v2 v3 v4 v5 v6 v7 v8 u:=heap_setCell_same w g 9 _ _ u h
def MR(w:World)(g:Nat)(u0 u1 u2 u3 u4 u5 u6 u7 u8 u9:Value):World:=((((((((((w.setCell ⟨g,0,none⟩ u0).setCell ⟨g,1,none⟩ u1).setCell ⟨g,2,none⟩ u2).setCell ⟨g,3,none⟩ u3).setCell ⟨g,4,none⟩ u4).setCell ⟨g,5,none⟩ u5).setCell ⟨g,6,none⟩ u6).setCell ⟨g,7,none⟩ u7).setCell ⟨g,8,none⟩ u8).setCell ⟨g,9,none⟩ u9)
def Hb(w:World)(g:Nat)(u3 u4 u5 u6 u7 u8 u9:Value):World:=(((((((w.setCell ⟨g,3,none⟩ u3).setCell ⟨g,4,none⟩ u4).setCell ⟨g,5,none⟩ u5).setCell ⟨g,6,none⟩ u6).setCell ⟨g,7,none⟩ u7).setCell ⟨g,8,none⟩ u8).setCell ⟨g,9,none⟩ u9)
theorem AK.sets(h:AK w g v0 v1 v2 v3 v4 v5 v6 v7 v8 v9)(u0 u1 u2 u3 u4 u5 u6 u7 u8 u9:Value):AK (MR w g u0 u1 u2 u3 u4 u5 u6 u7 u8 u9) g u0 u1 u2 u3 u4 u5 u6 u7 u8 u9:=((((((((((h.set0 u0).set1 u1).set2 u2).set3 u3).set4 u4).set5 u5).set6 u6).set7 u7).set8 u8).set9 u9)
theorem AK.setp(h:AK w g v0 v1 v2 v3 v4 v5 v6 v7 v8 v9)(u3 u4 u5 u6 u7 u8 u9:Value):AK (Hb w g u3 u4 u5 u6 u7 u8 u9) g v0 v1 v2 u3 u4 u5 u6 u7 u8 u9:=(((((((h.set3 u3).set4 u4).set5 u5).set6 u6).set7 u7).set8 u8).set9 u9)
theorem AK.otherp{b:Nat}(h:AK w g v0 v1 v2 v3 v4 v5 v6 v7 v8 v9)(c:g≠b)(u3 u4 u5 u6 u7 u8 u9:Value):AK (Hb w b u3 u4 u5 u6 u7 u8 u9) g v0 v1 v2 v3 v4 v5 v6 v7 v8 v9:=(((((((h.other (a:=⟨b,3,none⟩) c u3).other (a:=⟨b,4,none⟩) c u4).other (a:=⟨b,5,none⟩) c u5).other (a:=⟨b,6,none⟩) c u6).other (a:=⟨b,7,none⟩) c u7).other (a:=⟨b,8,none⟩) c u8).other (a:=⟨b,9,none⟩) c u9)
theorem EY{B:Nat}{a:World}(h:Below B a w){g:Nat}(b:B<=g)(u0 u1 u2 u3 u4 u5 u6 u7 u8 u9:Value):Below B a (MR w g u0 u1 u2 u3 u4 u5 u6 u7 u8 u9):=((((((((((h.setCell b u0).setCell b u1).setCell b u2).setCell b u3).setCell b u4).setCell b u5).setCell b u6).setCell b u7).setCell b u8).setCell b u9)
theorem WU{B:Nat}{a:World}(h:Below B a w){g:Nat}(b:B<=g)(u3 u4 u5 u6 u7 u8 u9:Value):Below B a (Hb w g u3 u4 u5 u6 u7 u8 u9):=(((((((h.setCell b u3).setCell b u4).setCell b u5).setCell b u6).setCell b u7).setCell b u8).setCell b u9)
theorem RowAt.other10(h:RowAt w a n xs){B:Nat}(b:∀c,a=some c->n≠0->c.block≠B)(u0 u1 u2 u3 u4 u5 u6 u7 u8 u9:Value):RowAt (MR w B u0 u1 u2 u3 u4 u5 u6 u7 u8 u9) a n xs:=((((((((((h.other b 0 u0).other b 1 u1).other b 2 u2).other b 3 u3).other b 4 u4).other b 5 u5).other b 6 u6).other b 7 u7).other b 8 u8).other b 9 u9)
theorem RowAt.otherP(h:RowAt w a n xs){B:Nat}(b:∀c,a=some c->n≠0->c.block≠B)(u3 u4 u5 u6 u7 u8 u9:Value):RowAt (Hb w B u3 u4 u5 u6 u7 u8 u9) a n xs:=(((((((h.other b 3 u3).other b 4 u4).other b 5 u5).other b 6 u6).other b 7 u7).other b 8 u8).other b 9 u9)
theorem AK.apart{r s u v x y z A:Int}{b:Option Addr}{m c:Nat}{t:ByteArray}(h:AK w g (.int .i64 r) (.int .i64 s) (.int .i64 u) (.int .i64 v) (.int .i64 x) (.int .i64 y) (.int .i64 z) (.int .i64 A) (.slice b m c) (.string t))
  {a:Option Addr} {n:Nat} {xs:List Nat} (q:RowAt w a n xs):∀f,a=some f->n≠0->f.block≠g:=by
 intro f o B j;obtain⟨l,off,e,p⟩:=q.at (i:=0) (by omega);rw[o]at e;obtain rfl:=Option.some.inj e;have d:=p 0 (by omega);simp only at j;subst j;unfold AK at h;rw[Nat.add_zero,cell_of_row w l _ _ _ _ h]at d
 match off,d with
 |0,d=>simp at d
 |1,d=>simp at d
 |2,d=>simp at d
 |3,d=>simp at d
 |4,d=>simp at d
 |5,d=>simp at d
 |6,d=>simp at d
 |7,d=>simp at d
 |8,d=>simp at d
 |9,d=>simp at d
 |k+10,d=>simp at d
theorem AO.apart{r s u v x:Int}{b:Option Addr}{m c:Nat}{t:ByteArray}(h:AO w g (.int .i64 r) (.int .i64 s) (.int .i64 u) (.int .i64 v) (.int .i64 x) (.slice b m c) (.string t))
  {a:Option Addr} {n:Nat} {xs:List Nat} (q:RowAt w a n xs):∀f,a=some f->n≠0->f.block≠g:=by
 intro f o y j;obtain⟨l,off,e,p⟩:=q.at (i:=0) (by omega);rw[o]at e;obtain rfl:=Option.some.inj e;have d:=p 0 (by omega);simp only at j;subst j;unfold AO at h;rw[Nat.add_zero,cell_of_row w l _ _ _ _ h]at d
 match off,d with
 |0,d=>simp at d
 |1,d=>simp at d
 |2,d=>simp at d
 |3,d=>simp at d
 |4,d=>simp at d
 |5,d=>simp at d
 |6,d=>simp at d
 |k+7,d=>simp at d
theorem Nk(s:ByteArray)(d:s.size=1\/s.size=4)(w:World):
  Calls Tryz.prog 125 #[.string s] w fun e w'=>e=.returned (.int .i64 ((num (tx s):Nat):Int))/\w'=w:=by
 have c:=fun wx=>Q6 s (s.size:Int) wx;have b:=GW (s:=s) (k:=(s.size:Int)) (by rcases d with h|h<;>rw[h]<;>simp[DX]) (Int.le_refl _);rw[Int.toNat_natCast,<-AQ,List.take_length]at b;rw[AQ]at b;rw[b.1,b.2]at c;have f:=Ab c;generalize num (tx s)=x at*;clear c b d;go_enter Tryz.func125,Tryz.ntmps125;go_wp2_with fail;refine(Aa f _).mono ?_;rintro e w' ⟨rfl,i⟩;obtain rfl:=i.symm;go_wp2;go_ret;exact⟨rfl,rfl⟩
theorem jF(s:ByteArray)(y:6<=s.size)(w:World):
  Calls Tryz.prog 65 #[.string s] w fun e w'=>e=.returned (.agg #[.int .i64 ((hdK s:Nat):Int),.int .i64 ((hdF s:Nat):Int),.int .i64 ((hdI s:Nat):Int),.int .i64 0,.int .i64 0,.int .i64 0,.int .i64 0,.int .i64 0,.slice none 0 0,.string ⟨#[]⟩])/\Below w.heap.size w w':=by
 have d:=fun wx=>Nk (s.extract 0 1) (by rw[ByteArray.size_extract];omega) wx;have f:=fun wx=>Nk (s.extract 1 2) (by rw[ByteArray.size_extract];omega) wx;have j:=fun wx=>Nk (s.extract 2 6) (by rw[ByteArray.size_extract];omega) wx;rw[show num (tx (s.extract 0 1))=hdK s from KG s 0 (by omega)]at d;rw[show num (tx (s.extract 1 2))=hdF s from KG s 1 (by omega)]at f;rw[show num (tx (s.extract 2 6))=hdI s from by rw[El];rfl]at j;have k:=Ab d;have l:=Ab f;have m:=Ab j;generalize hdK s=r at*;generalize hdF s=u at*;generalize hdI s=x at*;have o:(1:Int)<=(s.size:Int):=by omega
 have p:(2:Int)<=(s.size:Int):=by omega
 have q:(6:Int)<=(s.size:Int):=by omega
 clear d f j;go_enter Tryz.func65,Tryz.ntmps65;go_wp2_with fail;refine wp_region_any (by kernel_rfl) ?_;change wpAny _ _ _ _ _ _ _ (World.drew _);refine wpAny_take (i:=0) (v:=?_) rfl (by kernel_rfl) (by kernel_rfl) (by kernel_rfl) (fun _ _ _ h=>h) (Or.inl ⟨by rfl,?f0⟩) ?_
 case f0=>(intro w;go_simp;try with_reducible rfl)
 refine wpAny_take (i:=1) (v:=?_) rfl (by kernel_rfl) (by kernel_rfl) (by kernel_rfl) (fun _ _ _ h=>h) (Or.inl ⟨by rfl,?f1⟩) ?_
 case f1=>(intro w;go_simp;try with_reducible rfl)
 refine wpAny_take (i:=3) (v:=?_) rfl (by kernel_rfl) (by kernel_rfl) (by kernel_rfl) (fun _ _ _ h=>h) (Or.inl ⟨by rfl,?f3⟩) ?_
 case f3=>(intro w;go_simp;try with_reducible rfl)
 refine wpAny_take (i:=4) (v:=?_) rfl (by kernel_rfl) (by kernel_rfl) (by kernel_rfl) (fun _ _ _ h=>h) (Or.inl ⟨by rfl,?f4⟩) ?_
 case f4=>(intro w;go_simp;try with_reducible rfl)
 refine wpAny_take (i:=6) (v:=?_) rfl (by kernel_rfl) (by kernel_rfl) (by kernel_rfl) (fun _ _ _ h=>h) (Or.inl ⟨by rfl,?f6⟩) ?_
 case f6=>(intro w;go_simp;try with_reducible rfl)
 refine wpAny_take (i:=7) (v:=?_) rfl (by kernel_rfl) (by kernel_rfl) (by kernel_rfl) (fun _ _ _ h=>h) (Or.inl ⟨by rfl,?f7⟩) ?_
 case f7=>(intro w;go_simp;try with_reducible rfl)
 refine wpAny_ready (rs:=[2]) (by kernel_rfl) (by simp) ?_;refine AllReady.cons rfl (fun K b=>?_) AllReady.nil;go_simp;refine(Aa k _).mono ?_;rintro e w' ⟨rfl,c⟩;obtain rfl:=c.symm;clear c;refine b _ _ ?_;clear b K;refine wpAny_ready (rs:=[5]) (by kernel_rfl) (by simp) ?_;refine AllReady.cons rfl (fun K b=>?_) AllReady.nil;go_simp;refine(Aa l _).mono ?_;rintro e w' ⟨rfl,c⟩;obtain rfl:=c.symm;clear c;refine b _ _ ?_;clear b K;refine wpAny_ready (rs:=[8]) (by kernel_rfl) (by simp) ?_;refine AllReady.cons rfl (fun K b=>?_) AllReady.nil;go_simp;refine(Aa m _).mono ?_;rintro e w' ⟨rfl,c⟩;obtain rfl:=c.symm;clear c;refine b _ _ ?_;clear b K;refine wpAny_take (i:=9) (v:=?_) rfl (by kernel_rfl) (by kernel_rfl) (by kernel_rfl) (fun _ _ _ h=>h) (Or.inl ⟨by rfl,?f9⟩) ?_
 case f9=>(intro w;go_simp;try with_reducible rfl)
 refine wpAny_ready (rs:=[10]) (by kernel_rfl) (by simp) ?_;refine AllReady.cons rfl (fun K b=>?_) AllReady.nil;go_simp;refine b _ _ ?_;clear b K;refine wpAny_done (by kernel_rfl) ?_ _;go_wp2;exact bodyPost_ret (v:=.agg #[.int .i64 (r:Int),.int .i64 (u:Int),.int .i64 (x:Int),.int .i64 0,.int .i64 0,.int .i64 0,.int .i64 0,.int .i64 0,.slice none 0 0,.string ⟨#[]⟩]) (by simp[results,Tryz.results65,go_sem]) rfl ⟨rfl,(AN w _).drew⟩
def Jz(kd:Int)(s:ByteArray)(o l k z h:Int)(xs:List Nat)(t:ByteArray)(en:Nat):Prop:=
 (kd=1->(s.size≠0->en=3/\A6 o l k z h xs t)/\(s.size=0->en=0/\A6 o l k z h xs t))/\(kd=2->BP s o l k z h xs t en)/\(kd≠1->kd≠2->en=3/\A6 o l k z h xs t)
def Qb(w:World)(kd:Int)(s:ByteArray)(e:Ending)(w':World):Prop:=
 ∃(o l k z h:Int) (a:Option Addr) (n c:Nat) (xs:List Nat) (t:ByteArray) (en:Nat),e=.returned (.tuple #[.agg #[.int .i64 o,.int .i64 l,.int .i64 k,.int .i64 z,.int .i64 h,.slice a n c,.string t],.int .i64 ((en:Nat):Int)])/\
  RowAt w' a n xs/\DI w a n/\Jz kd s o l k z h xs t en/\Below w.heap.size w w'
theorem Ok{kd:Int}{s:ByteArray}{en:Nat}(h:Jz kd s 0 0 0 0 0 [] ⟨#[]⟩ en)(b:Below w.heap.size w w'):
  Qb w kd s (.returned (.tuple #[.agg #[.int .i64 0,.int .i64 0,.int .i64 0,.int .i64 0,.int .i64 0,.slice none 0 0,.string ⟨#[]⟩],.int .i64 ((en:Nat):Int)])) w':=
 ⟨0,0,0,0,0,none,0,0,[],⟨#[]⟩,en,rfl,FQ _,Og _ _,h,b⟩
theorem Ix:A6 0 0 0 0 0 [] ⟨#[]⟩:=⟨rfl,rfl,rfl,rfl,rfl,rfl,rfl⟩
theorem K4{x:Int}{u0 u1 u2 u3 u4 u5 u6:Value}(d:tmps.getD 4 undef=.pointer (some ⟨g,0,none⟩))(e:tmps.getD 5 undef=.int .i64 x)(f:AO W g u0 u1 u2 u3 u4 u5 u6):
  (results Tryz.f66 tmps).run Tryz.prog W=.ok (.tuple #[.agg #[u0,u1,u2,u3,u4,u5,u6],.int .i64 x]) W:=by
 obtain⟨h,i,j,k,l,m,o⟩:=f.at;have b:tmps[4]?.getD undef=.pointer (some ⟨g,0,none⟩):=by simpa using d
 have c:tmps[5]?.getD undef=.int .i64 x:=by simpa using e
 simp[results,Tryz.results66,go_sem,b,c,h,i,j,k,l,m,o]
theorem dY{s:ByteArray}(b:¬s.size=0):s.toList.isEmpty=false:=by
 have h:=Jh s ⟨#[]⟩;rw[decide_eq_false (fun h=>b (by rw[h];rfl))]at h;simpa using h
theorem oa(kd:Int)(v0 v1 v2 v3 v4 v5 v6:Value)(s:ByteArray)(w:World)(E:s.size<=140737488351232):
  Calls Tryz.prog 66 #[F3 kd v0 v1 v2 v3 v4 v5 v6,.string s] w (Qb w kd s):=by
 by_cases x:kd=1
 ·subst x
  rw[Mt];have G:=Qd;by_cases p:s.size=0
  ·obtain rfl:s=⟨#[]⟩:=US p
   go_enter Tryz.func66,Tryz.ntmps66;go_wp2;exact bodyPost_ret (K4 rfl rfl (Cl w (.int .i64 0) (.int .i64 0) (.int .i64 0) (.int .i64 0) (.int .i64 0) (.slice none 0 0) (.string ⟨#[]⟩))) rfl (Ok (en:=0) ⟨fun _=>⟨fun h=>absurd rfl h,fun _=>⟨rfl,Ix⟩⟩,fun h=>absurd h (by decide),fun h=>absurd rfl h⟩ (AN w _))
  ·have K:=dY p
   have H:=Ab p;clear p;go_enter Tryz.func66,Tryz.ntmps66;go_wp2;exact bodyPost_ret (K4 rfl rfl (Cl w (.int .i64 0) (.int .i64 0) (.int .i64 0) (.int .i64 0) (.int .i64 0) (.slice none 0 0) (.string ⟨#[]⟩))) rfl (Ok (en:=3) ⟨fun _=>⟨fun _=>⟨rfl,Ix⟩,fun h=>absurd h (Aa H)⟩,fun h=>absurd h (by decide),fun h=>absurd rfl h⟩ (AN w _))
 ·by_cases y:kd=2
  ·subst y
   rw[Mu];have G:=Qc;have J:=MH;have A:=Ab (fun wx=>nT s wx E);have C:=Ab (Cl w (.int .i64 0) (.int .i64 0) (.int .i64 0) (.int .i64 0) (.int .i64 0) (.slice none 0 0) (.string ⟨#[]⟩));have u:=Ab (AN w (.cells #[.int .i64 0,.int .i64 0,.int .i64 0,.int .i64 0,.int .i64 0,.slice none 0 0,.string ⟨#[]⟩] 59));clear E;go_enter Tryz.func66,Tryz.ntmps66;go_wp2_with fail;refine(Aa A _).mono ?_;rintro e w1 ⟨o,l,k,z,h,a,n,c,xs,t,en,rfl,D,j,d,i⟩;have v:=Ab (j.mono (Aa u).size);have m:=Ab ((Aa C).below i);have B1:=Ab (Ad (Aa u) i);have B:=Ab D;have I:=Ab d;clear D j d i C u A;obtain⟨L,N,O,P,Q,R,S⟩:=(Aa m).at;have f:=(Aa m).frz;go_wp2;have q:=Ab ((Aa m).sets (.int .i64 o) (.int .i64 l) (.int .i64 k) (.int .i64 z) (.int .i64 h) (.slice a n c) (.string t));have b:=Ab (BZ (Aa B1) (Nat.le_refl _) (.int .i64 o) (.int .i64 l) (.int .i64 k) (.int .i64 z) (.int .i64 h) (.slice a n c) (.string t));have r:=Ab ((Aa B).other7 ((Aa m).apart (Aa B)) (.int .i64 o) (.int .i64 l) (.int .i64 k) (.int .i64 z) (.int .i64 h) (.slice a n c) (.string t));exact bodyPost_ret (K4 rfl rfl (Aa q)) rfl ⟨o,l,k,z,h,a,n,c,xs,t,en,rfl,Aa r,Aa v,⟨fun h=>absurd h (by decide),fun _=>Aa I,fun _ h=>absurd rfl h⟩,Aa b⟩
  ·rw[Pu x y]
   have G:=Qf;have J:=Qe;go_enter Tryz.func66,Tryz.ntmps66;go_wp2;exact bodyPost_ret (K4 rfl rfl (Cl w (.int .i64 0) (.int .i64 0) (.int .i64 0) (.int .i64 0) (.int .i64 0) (.slice none 0 0) (.string ⟨#[]⟩))) rfl (Ok (en:=3) ⟨fun h=>absurd h x,fun h=>absurd h y,fun _ _=>⟨rfl,Ix⟩⟩ (AN w _))
theorem Nm{b:Bool}{u0 u1 u2 u3 u4 u5 u6:Value}(m:tmps.getD 4 undef=.pointer (some ⟨g,0,none⟩))(o:tmps.getD 5 undef=.bool b)(p:AO W g u0 u1 u2 u3 u4 u5 u6):
  (results Tryz.f137 tmps).run Tryz.prog W=.ok (.tuple #[.agg #[u0,u1,u2,u3,u4,u5,u6],.bool b]) W/\(results Tryz.f138 tmps).run Tryz.prog W=.ok (.tuple #[.agg #[u0,u1,u2,u3,u4,u5,u6],.bool b]) W/\(results Tryz.f139 tmps).run Tryz.prog W=.ok (.tuple #[.agg #[u0,u1,u2,u3,u4,u5,u6],.bool b]) W:=by
 obtain⟨e,f,h,i,j,k,l⟩:=p.at;have c:tmps[4]?.getD undef=.pointer (some ⟨g,0,none⟩):=by simpa using m
 have d:tmps[5]?.getD undef=.bool b:=by simpa using o
 refine⟨?_,?_,?_⟩
 ·simp[results,Tryz.results137,go_sem,c,d,e,f,h,i,j,k,l]
 ·simp[results,Tryz.results138,go_sem,c,d,e,f,h,i,j,k,l]
 ·simp[results,Tryz.results139,go_sem,c,d,e,f,h,i,j,k,l]
def Io(k:Int):FuncId:=if k=1 then 137 else if k=2 then 138 else 139
theorem Zj(k:Int)(w:World):Calls Tryz.prog 80 #[.int .i64 k] w fun e w'=>e=.returned (.func (.func (Io k)) #[] #[])/\w'=w:=by
 unfold Io;by_cases b:k=1
 ·subst b
  go_enter Tryz.func80,Tryz.ntmps80;go_wp2;go_ret;exact⟨rfl,rfl⟩
 ·by_cases c:k=2
  ·subst c
   go_enter Tryz.func80,Tryz.ntmps80;go_wp2;go_ret;exact⟨rfl,rfl⟩
  ·rw[if_neg b,if_neg c]
   go_enter Tryz.func80,Tryz.ntmps80;go_wp2;go_ret;exact⟨rfl,rfl⟩
theorem mi(a b:Value)(w:World):Calls Tryz.prog 139 #[a,b] w fun e w'=>e=.returned (.tuple #[EP.val,.bool false])/\Below w.heap.size w w':=by
 have X:=Ab (Cl w (.int .i64 0) (.int .i64 0) (.int .i64 0) (.int .i64 0) (.int .i64 0) (.slice none 0 0) (.string ⟨#[]⟩));go_enter Tryz.func139,Tryz.ntmps139;go_wp2;exact bodyPost_ret (Nm rfl rfl (Aa X)).2.2 rfl ⟨rfl,AB _ _⟩
def I0(o:Nat)(r:Ib)(L:List Nat):PD:=⟨(o:Int),r.l,(r.ss.length:Int),r.z,0,C1 r.ss.length r.k L 0,st (Bj r.ss (C1 r.ss.length r.k L 0) r.ss.length)⟩
theorem ir(g h p o:Nat)(r:Ib)(L:List Nat)(w:World)(v:w.cell? ⟨g,10,none⟩=some (.pointer (some ⟨r.g,0,none⟩)))(A:Bh w r.g (o:Int) r.l r.z r.k r.ss)(E:1<=r.ss.length)(G:r.ss.length<=128)(H:r.k<=r.ss.length)(j:shorts r.ss)(ht:BY w)(u:Aw w h p L 0)(I:p<=w.heap.size):
  Calls Tryz.prog 137 #[.pointer (some ⟨g,0,none⟩),.pointer (some ⟨h,0,none⟩)] w fun e w'=> ∃q:PKV,e=.returned (.tuple #[q.val,.bool true])/\q.pd=I0 o r L/\RowAt w' q.r.a q.r.n q.r.xs/\w.grownBy w' (some h):=by
 have d:=AB w (.cells #[.int .i64 0,.int .i64 0,.int .i64 0,.int .i64 0,.int .i64 0,.slice none 0 0,.string ⟨#[]⟩] 59);have X:=Ab (Cl w (.int .i64 0) (.int .i64 0) (.int .i64 0) (.int .i64 0) (.int .i64 0) (.slice none 0 0) (.string ⟨#[]⟩));have C:=Ab (mg r.g h p (o:Int) r.l r.z r.k r.ss.length r.ss L 0 _ (A.below d) rfl E G H j (ht.below d) (u.below (d.mono I)) (by rw[Bb];omega) (by decide));have J:=u.lt;have K:=(d.cell (World.block_lt_of_cell? w _ v)).trans v;clear A j ht u v;unfold I0;generalize st (Bj r.ss (C1 r.ss.length r.k L 0) r.ss.length)=D at*;generalize C1 r.ss.length r.k L 0=V at*;generalize r.ss.length=k at*;generalize sizeOfK (k:Int)=m at*;have B:=Ab d;clear d;go_enter Tryz.func137,Tryz.ntmps137
 go_wp2_with (first
  |(go_at_call 189;refine(Aa C).mono ?_;rintro e w1 ⟨y,c1,rfl,i, -,c⟩;have b:=(Aa X).kept c (fun e=>by have:=Option.some.inj e;omega);obtain⟨N,O,P,Q,R,S,Y⟩:=b.at;have f0:=b.frz 0;have f1:=b.frz 1;have f2:=b.frz 2;have f3:=b.frz 3;have f4:=b.frz 4;have f5:=b.frz 5;have f6:=b.frz 6;have x:=Ab b;have f:=Ab i;have s:=Ab c;clear b i c)
  |fail)
 refine bodyPost_ret (Nm rfl rfl ((Aa x).sets (.int .i64 (o:Int)) (.int .i64 r.l) (.int .i64 (k:Int)) (.int .i64 r.z) (.int .i64 0) (.slice y m c1) (.string D))).1 rfl ⟨⟨(o:Int),r.l,(k:Int),r.z,0,⟨y,m,c1,V,D⟩⟩,rfl,rfl,(Aa f).other7 ((Aa x).apart (Aa f)) _ _ _ _ _ _ _,?_⟩;exact Jr (BI (CR (Aa B) (some h)) (Aa s) (.inl rfl)) (BZ (Below.refl _ _) (Nat.le_refl _) _ _ _ _ _ _ _)
theorem ix(g j k:Nat)(r:Gd)(B m:Nat)(t:Int)(L:List Nat)(w:World)(p:w.cell? ⟨g,14,none⟩=some (.pointer (some ⟨r.g,0,none⟩)))(y:Ao w r.g r.gb B m t r.i r.v r.ps)(s: -1099511627776<=t/\t<=1099511627776)(ht:Tab w)(o:Aw w j k L 0)(Q:k<=w.heap.size):
  Calls Tryz.prog 138 #[.pointer (some ⟨g,0,none⟩),.pointer (some ⟨j,0,none⟩)] w fun e w'=> ∃q:PKV,e=.returned (.tuple #[q.val,.bool (H3 (r.ps.map PKV.pd) L 0 t).isSome])/\q.pd=(H3 (r.ps.map PKV.pd) L 0 t).getD EP.pd/\RowAt w' q.r.a q.r.n q.r.xs/\w.grownBy w' (some j):=by
 have f:=AB w (.cells #[.int .i64 0,.int .i64 0,.int .i64 0,.int .i64 0,.int .i64 0,.slice none 0 0,.string ⟨#[]⟩] 59);have X:=Ab (Cl w (.int .i64 0) (.int .i64 0) (.int .i64 0) (.int .i64 0) (.int .i64 0) (.slice none 0 0) (.string ⟨#[]⟩));have N:=Ab (fy r.g r.gb B m t r.i r.v r.ps j k L 0 _ (ht.below f) (y.below f) (o.below (f.mono Q)) (by rw[Bb];omega) (by decide) s);have R:=o.lt;have S:=(f.cell (World.block_lt_of_cell? w _ p)).trans p;clear y ht o p;generalize H3 (r.ps.map PKV.pd) L 0 t=O at*;have K:=Ab f;clear f;go_enter Tryz.func138,Tryz.ntmps138
 go_wp2_with (first
  |(go_at_call 190;refine(Aa N).mono ?_;rintro e w1 ⟨c, -,d⟩;obtain⟨q,rfl,x,c⟩:=c.row;obtain⟨H,E,D,J,C,z,G,A,V,I⟩:=q;simp only[PKV.val];have b:=(Aa X).kept d (fun e=>by have:=Option.some.inj e;omega);obtain⟨Y,Z,y2,y3,y4,y5,y6⟩:=b.at;have f0:=b.frz 0;have f1:=b.frz 1;have f2:=b.frz 2;have f3:=b.frz 3;have f4:=b.frz 4;have f5:=b.frz 5;have f6:=b.frz 6;have u:=Ab b;have h:=Ab c;have P:=Ab x;have l:=Ab d;clear b c d x)
  |fail)
 refine bodyPost_ret (Nm rfl rfl ((Aa u).sets (.int .i64 H) (.int .i64 E) (.int .i64 D) (.int .i64 J) (.int .i64 C) (.slice z G A) (.string I))).2.1 rfl ⟨⟨H,E,D,J,C,⟨z,G,A,V,I⟩⟩,rfl,Aa P,(Aa h).other7 ((Aa u).apart (Aa h)) _ _ _ _ _ _ _,?_⟩;exact Jr (BI (CR (Aa K) (some j)) (Aa l) (.inl rfl)) (BZ (Below.refl _ _) (Nat.le_refl _) _ _ _ _ _ _ _)
structure Bo(o:Nat)(r:Ib):Prop where
 one:1<=r.ss.length
 most:r.ss.length<=128
 k:r.k<=r.ss.length
 sh:shorts r.ss
 ck:∀L,BN (I0 o r L)=true
def DW(n:AD)(L:List Nat):Option PD:=match n.src with
 |some r=>some (I0 n.id r L)
 |none=>match n.s.rl with
  |some r=>H3 (r.ps.map PKV.pd) L 0 (GQ n.p.target)
  |none=>none
theorem UI(g B i j:Nat)(n:AD)(L:List Nat)(w:World)(h:Aj w g B n)(ht:Bs w)(l:∀r,n.src=some r->Bo n.id r)(u:Aw w i j L 0)(m:j<=w.heap.size):
  Calls Tryz.prog (Io n.p.kd) #[.pointer (some ⟨g,0,none⟩),.pointer (some ⟨i,0,none⟩)] w fun e w'=> ∃q:PKV,e=.returned (.tuple #[q.val,.bool (DW n L).isSome])/\q.pd=(DW n L).getD EP.pd/\RowAt w' q.r.a q.r.n q.r.xs/\w.grownBy w' (some i):=by
 have o:=h.blk;unfold Io DW;rcases h.kd with⟨a,b,c,d⟩|⟨a,b,c,d⟩|⟨a,b,c,d⟩
 ·rw[if_pos a]
  cases f:n.src with
  |none=>exact absurd f b
  |some r=>
   have k:=l r f;exact(ir g i j n.id r L w (by have:=o.at 10 rfl;rwa[f]at this) (h.src r f).src k.one k.most k.k k.sh ht.pl u m).mono fun e w' h=>h
 ·rw[if_neg (by omega),if_pos a,b]
  cases f:n.s.rl with
  |none=>exact absurd f c
  |some r=>exact(ix g i j r B _ _ L w (by have:=o.at 14 rfl;rwa[f]at this) (h.st.rl r f) (nL _) ht.tab u m).mono fun e w' h=>h
 ·rw[if_neg (by omega),if_neg (by omega),b,c]
  exact(mi _ _ w).mono fun e w' ⟨x,v⟩=>⟨EP,x,rfl,FQ _,CR v _⟩
theorem Tn(k:Int)(args:Array Value)(w:World):Sem.run Tryz.prog (callFunc (Io k) args) w=.ok (.enter (Io k) args) w:=by
 unfold Io;split
 ·kernel_rfl
 ·split
  ·kernel_rfl
  ·kernel_rfl
def Ex(n:AD)(L:List Nat)(f:Bm):Prop:=f.fr=n.id/\f.ic=n.inc/\f.kd=(if (DW n L).isSome=true then 2 else 1)/\f.p.pd=(DW n L).getD EP.pd
theorem Ji:(Tryz.prog.info? 78).map (·.size)=some 10:=by kernel_rfl
theorem Sg(d:tmps.getD 4 undef=.pointer (some ⟨g,0,none⟩))(f:BkA 78 W g cs)(e:cs.length=10):(results Tryz.f35 tmps).run Tryz.prog W=.ok (.agg cs.toArray) W:=by
 have c:=f.load Tryz.underlying78 rfl Ji e;have b:tmps[4]?.getD undef=.pointer (some ⟨g,0,none⟩):=by simpa using d
 simp[results,Tryz.results35,asAddr,b,c]
theorem XD(a:Option Addr)(n c:Nat)(xs:List Nat)(w:World)(h:RowAt w a n xs)(d:n<=1048576):Calls Tryz.prog 81 #[.slice a n c] w fun e w'=> ∃g,e=.returned (.pointer (some ⟨g,0,none⟩))/\Hid (w.heap.size<=g/\Aw w' g w'.heap.size xs 0/\Below w.heap.size w w'):=
 (XV a n c xs w h d).mono fun e w' ⟨g,b,h⟩=>⟨g,b,Ab h⟩
def KT(w:World)(q:Nat)(u0 u3 u4 u5 u6 u7 u8 u9:Value):World:=((((((((w.setCell ⟨q,0,none⟩ u0).setCell ⟨q,3,none⟩ u3).setCell ⟨q,4,none⟩ u4).setCell ⟨q,5,none⟩ u5).setCell ⟨q,6,none⟩ u6).setCell ⟨q,7,none⟩ u7).setCell ⟨q,8,none⟩ u8).setCell ⟨q,9,none⟩ u9).drew
theorem BkA.drew(h:BkA T w g cs):BkA T w.drew g cs:=h
theorem BkA.putF{q:Nat}(h:BkA T w q [v0,v1,v2,v3,v4,v5,v6,v7,v8,v9])(u0 u3 u4 u5 u6 u7 u8 u9:Value):BkA T (KT w q u0 u3 u4 u5 u6 u7 u8 u9) q [u0,v1,v2,u3,u4,u5,u6,u7,u8,u9]:=by
 have b:BkA T _ q [u0,v1,v2,v3,v4,v5,v6,v7,v8,v9]:=h.set 0 u0;have c:BkA T _ q [u0,v1,v2,u3,v4,v5,v6,v7,v8,v9]:=b.set 3 u3;have d:BkA T _ q [u0,v1,v2,u3,u4,v5,v6,v7,v8,v9]:=c.set 4 u4;have e:BkA T _ q [u0,v1,v2,u3,u4,u5,v6,v7,v8,v9]:=d.set 5 u5;have f:BkA T _ q [u0,v1,v2,u3,u4,u5,u6,v7,v8,v9]:=e.set 6 u6;have i:BkA T _ q [u0,v1,v2,u3,u4,u5,u6,u7,v8,v9]:=f.set 7 u7;have j:BkA T _ q [u0,v1,v2,u3,u4,u5,u6,u7,u8,v9]:=i.set 8 u8;have k:BkA T _ q [u0,v1,v2,u3,u4,u5,u6,u7,u8,u9]:=j.set 9 u9;unfold KT;exact k.drew
theorem Tu.drew{F:Nat->Prop}(h:Tu F w w'):Tu F w w'.drew:=h.trans (Tu.of_below (F:=F) (Below.refl _ _).drew) fun _ _ e=>e
theorem px(w:World)(q:Nat)(u0 u3 u4 u5 u6 u7 u8 u9:Value):Tu (fun j=>j=q) w (KT w q u0 u3 u4 u5 u6 u7 u8 u9):=
 ((((((((Bt w q 0 u0).trans (Bt _ q 3 u3) fun _ _ e=>e).trans (Bt _ q 4 u4) fun _ _ e=>e).trans (Bt _ q 5 u5) fun _ _ e=>e).trans (Bt _ q 6 u6) fun _ _ e=>e).trans (Bt _ q 7 u7) fun _ _ e=>e).trans (Bt _ q 8 u8) fun _ _ e=>e).trans (Bt _ q 9 u9) fun _ _ e=>e).drew
theorem BkA.row{q:Nat}(h:BkA T w q cs)(c:RowAt w a n xs)(o:∀x∈cs,∀i,x≠ .int .u64 i){w':World}(ht:Tu (fun j=>j=q) w w'):RowAt w' a n xs:=by
 refine⟨c.1,c.2.1,?_⟩;rcases c.2.2 with l|⟨b,off,rfl,k⟩
 ·exact .inl l
 ·refine .inr ⟨b,off,rfl,fun i f=>ht.cell (k i f) fun e=>?_⟩
  have e:b=q:=e;have d:=k i f;subst e;unfold BkA at h;rw[cell_of_row w b _ _ _ _ h]at d;have m:cs[off+i]? =some (.int .u64 ((xs.getD i 0:Nat):Int)):=by simpa using d
  exact o _ (List.mem_of_getElem? m) _ rfl
theorem dE(g B:Nat)(n:AD)(a:Option Addr)(dn dc:Nat)(L:List Nat)(w:World)(h:Aj w g B n)(ht:Bs w)(ak:∀r,n.src=some r->Bo n.id r)(hd:RowAt w a dn L)(az:dn<=1048576):
  Calls Tryz.prog 35 #[.pointer (some ⟨g,0,none⟩),.slice a dn dc] w fun e w'=> ∃f:Bm,e=.returned f.val/\Ex n L f/\RowAt w' f.p.r.a f.p.r.n f.p.r.xs/\Below w.heap.size w w':=by
 have c0:=h.blk.at 0 rfl;have c1:=h.blk.at 1 rfl;have aj:=h.blk.lt;have H:=Ab h;have HT:=Ab ht;have ad:=Ab ak;have a1:=h.num.1;have HW:=Ab (fun wx=>Zj n.p.kd wx);have ac:=Ab (fun wx (hb:Below w.heap.size w wx)=>XD a dn dc L wx (hd.below hb) az);obtain⟨W,hW,X,B1⟩:∃W,W=w.alloc (.cells #[.int .i64 0,.int .i64 0,.int .i64 0,.int .i64 0,.int .i64 0,.int .i64 0,.int .i64 0,.int .i64 0,.slice none 0 0,.string ⟨#[]⟩] 78)/\BkA 78 W w.heap.size [.int .i64 0,.int .i64 0,.int .i64 0,.int .i64 0,.int .i64 0,.int .i64 0,.int .i64 0,.int .i64 0,.slice none 0 0,.string ⟨#[]⟩]/\Below w.heap.size w W:=⟨_,rfl,AV 78 w [_,_,_,_,_,_,_,_,_,_],AB _ _⟩;have HX:=Ab X;have HB:=Ab B1;have c0:=(B1.cell aj).trans c0;have c1:=(B1.cell aj).trans c1;have an:W.heap.size=w.heap.size+1:=by rw[hW,Bb]
 have a2:W.heap.size≠g:=by omega
 have a4:IntKind.i64.wrap (n.inc:Int)=(n.inc:Int):=by rw[IntKind.wrap_i64];omega
 have aw:=Ab an;clear X B1 ht ak hd h an;go_enter Tryz.func35,Tryz.ntmps35;go_wp2_with fail;rw[<-hW];clear hW;go_cut [5] from 9 to 18 (fun t wx=> ∃q,t=.pointer (some ⟨q,0,none⟩)/\Hid (BkA 78 wx q [.int .i64 1,.int .i64 (n.id:Int),.int .i64 (n.inc:Int),.int .i64 0,.int .i64 0,.int .i64 0,.int .i64 0,.int .i64 0,.slice none 0 0,.string ⟨#[]⟩]/\W.heap.size<=q/\Below W.heap.size W wx))
 case first=>
  go_region_held3 (fun w'=>w'.cell? ⟨g,0,none⟩=some (.int .i64 (n.id:Int))/\w'.cell? ⟨g,1,none⟩=some (.int .u32 (n.inc:Int))) (go_keep) (first|fail);go_wp2_with fail;go_meet;exact⟨_,rfl,Ab ⟨AV 78 W [_,_,_,_,_,_,_,_,_,_],Nat.le_refl _,(AB _ _).drew⟩⟩
 case rest=>
  obtain⟨q,rfl,A⟩:=hcut;rename_i wc;have z:=Ab (Ad (Aa HB) (Aa A).2.2);have Y:=Ab ((Aa H).below (Aa z));have e2:=(Aa Y).blk.at 2 rfl;have a0:q≠w.heap.size:=by have:=(Aa A).2.1;have:=Aa aw;omega
  clear c0 c1;generalize hO:DW n L=O at*;have HO:=Ab hO;clear hO;cases O with
  |none=>
   go_wp2_with (first
    |(go_at_call 80;refine(Aa HW _).mono ?_;rintro e w1 ⟨rfl,N⟩;obtain rfl:=N.symm;clear N)
    |(go_at_call 81;refine(Aa ac _ (Aa z)).mono ?_;rintro e w2 ⟨Q,rfl,b⟩;have V:=Ab ((Aa Y).below (Aa b).2.2);have y:=Ab (Ad (Aa z) (Aa b).2.2);have Z:=Ab ((Aa A).1.below (Aa b).2.2);have aa:=Ab (((Aa HX).below (Aa A).2.2).below (Aa b).2.2))
    |fail)
   rw[Tn,Oper.upon_enter];refine(UI g B Q w2.heap.size n L w2 (Aa V) ((Aa HT).below (Aa y)) (Aa ad) (Aa b).2.1 (Nat.le_refl _)).mono ?_;rw[Aa HO];rintro e w3 ⟨⟨u,o,m,x,l,j,s,k,qx,v⟩,rfl,J,K,d⟩;have E:w.heap.size<=Q:=Nat.le_trans (Aa z).size (Aa b).1;have G:some q≠some Q:=fun e=>by have:=(Aa A).1.lt;have:=(Aa b).1;have:=Option.some.inj e;omega
   have I:some w.heap.size≠some Q:=fun e=>by have:=((Aa HX).below (Aa A).2.2).lt;have:=(Aa b).1;have:=Option.some.inj e;omega
   have c:=(Aa Z).kept d G;have P:=(Aa aa).kept d I;have ag:=Ab K;have ae:=Ab J;have S:=Ab ((Aa y).trans (WY d (Aa y).size E));have C:=Ab (fun ob=>c.below (AB w3 ob));have ab:=Ab (fun ob=>P.below (AB w3 ob));have af:=Ab c.lt;clear c P K J d E G I;simp only[PKV.val,Option.isSome_none]
   go_wp2_with (first
    |((with_reducible refine OX 78 Tryz.underlying78 rfl Ji 5 q _ ?_ (Aa C _) rfl ?_);(focus rfl))
    |((with_reducible refine Ku 78 Ji 4 37 w.heap.size _ [.int .i64 1,.int .i64 (n.id:Int),.int .i64 (n.inc:Int),.int .i64 0,.int .i64 0,.int .i64 0,.int .i64 0,.int .i64 0,.slice none 0 0,.string ⟨#[]⟩] ?_ ?_ (Aa ab _) rfl rfl ?_ ?_);(focus rfl);(focus rfl);(focus simp[Value.oneCell']);intro w4 ao al;have ax:=Ab ao;have av:=Ab al;clear ao al)
    |fail)
   exact bodyPost_ret (Sg rfl (Aa ax) rfl) rfl ⟨⟨1,n.id,n.inc,EP⟩,rfl,⟨rfl,rfl,by rw[Aa HO];rfl,by rw[Aa HO];rfl⟩,FQ _,GR (Ad (Aa S) (AB _ _)) (Aa av) (Nat.le_refl _)⟩
  |some D=>
   go_wp2_with (first
    |(go_at_call 80;refine(Aa HW _).mono ?_;rintro e w1 ⟨rfl,N⟩;obtain rfl:=N.symm;clear N)
    |(go_at_call 81;refine(Aa ac _ (Aa z)).mono ?_;rintro e w2 ⟨Q,rfl,b⟩;have V:=Ab ((Aa Y).below (Aa b).2.2);have y:=Ab (Ad (Aa z) (Aa b).2.2);have Z:=Ab ((Aa A).1.below (Aa b).2.2);have aa:=Ab (((Aa HX).below (Aa A).2.2).below (Aa b).2.2))
    |fail)
   rw[Tn,Oper.upon_enter];refine(UI g B Q w2.heap.size n L w2 (Aa V) ((Aa HT).below (Aa y)) (Aa ad) (Aa b).2.1 (Nat.le_refl _)).mono ?_;rw[Aa HO];rintro e w3 ⟨⟨u,o,m,x,l,j,s,k,qx,v⟩,rfl,J,K,d⟩;have E:w.heap.size<=Q:=Nat.le_trans (Aa z).size (Aa b).1;have G:some q≠some Q:=fun e=>by have:=(Aa A).1.lt;have:=(Aa b).1;have:=Option.some.inj e;omega
   have I:some w.heap.size≠some Q:=fun e=>by have:=((Aa HX).below (Aa A).2.2).lt;have:=(Aa b).1;have:=Option.some.inj e;omega
   have c:=(Aa Z).kept d G;have P:=(Aa aa).kept d I;have ag:=Ab K;have ae:=Ab J;have S:=Ab ((Aa y).trans (WY d (Aa y).size E));have C:=Ab (fun ob=>c.below (AB w3 ob));have ab:=Ab (fun ob=>P.below (AB w3 ob));have af:=Ab c.lt;clear c P K J d E G I;simp only[PKV.val,Option.isSome_some];have i:=Aa C (.cells #[.int .i64 u,.int .i64 o,.int .i64 m,.int .i64 x,.int .i64 l,.slice j s k,.string v] 59);have k0:=i.at 0 rfl;have k3:=i.at 3 rfl;have k4:=i.at 4 rfl;have k5:=i.at 5 rfl;have k6:=i.at 6 rfl;have k7:=i.at 7 rfl;have k8:=i.at 8 rfl;have k9:=i.at 9 rfl;have f0:=i.frz 0;have f3:=i.frz 3;have f4:=i.frz 4;have f5:=i.frz 5;have f6:=i.frz 6;have f7:=i.frz 7;have f8:=i.frz 8;have f9:=i.frz 9;have a3:w3.heap.size≠q:=Nat.ne_of_gt (Aa af);have R:=px (w3.alloc (.cells #[.int .i64 u,.int .i64 o,.int .i64 m,.int .i64 x,.int .i64 l,.slice j s k,.string v] 59)) q (.int .i64 2) (.int .i64 u) (.int .i64 o) (.int .i64 m) (.int .i64 x) (.int .i64 l) (.slice j s k) (.string v);have ar:=Ab ((Aa C (.cells #[.int .i64 u,.int .i64 o,.int .i64 m,.int .i64 x,.int .i64 l,.slice j s k,.string v] 59)).putF (.int .i64 2) (.int .i64 u) (.int .i64 o) (.int .i64 m) (.int .i64 x) (.int .i64 l) (.slice j s k) (.string v));have ai:=Ab ((Aa ab (.cells #[.int .i64 u,.int .i64 o,.int .i64 m,.int .i64 x,.int .i64 l,.slice j s k,.string v] 59)).tu R fun e=>a0 e.symm);have au:=Ab ((Aa C (.cells #[.int .i64 u,.int .i64 o,.int .i64 m,.int .i64 x,.int .i64 l,.slice j s k,.string v] 59)).row ((Aa ag).below (AB w3 (.cells #[.int .i64 u,.int .i64 o,.int .i64 m,.int .i64 x,.int .i64 l,.slice j s k,.string v] 59))) (by simp) R);have aq:=Ab (GR (Ad (Aa S) (AB w3 (.cells #[.int .i64 u,.int .i64 o,.int .i64 m,.int .i64 x,.int .i64 l,.slice j s k,.string v] 59))) R (by have:=(Aa A).2.1;have:=(Aa HB).size;omega));clear R;clear i;go_wp2_with fail;go_region_law (first|fail)
   all_goals change Exit.then _ _ _ _ (KT (w3.alloc (.cells #[.int .i64 u,.int .i64 o,.int .i64 m,.int .i64 x,.int .i64 l,.slice j s k,.string v] 59)) q (.int .i64 2) (.int .i64 u) (.int .i64 o) (.int .i64 m) (.int .i64 x) (.int .i64 l) (.slice j s k) (.string v))
   all_goals generalize KT (w3.alloc (.cells #[.int .i64 u,.int .i64 o,.int .i64 m,.int .i64 x,.int .i64 l,.slice j s k,.string v] 59)) q (.int .i64 2) (.int .i64 u) (.int .i64 o) (.int .i64 m) (.int .i64 x) (.int .i64 l) (.slice j s k) (.string v)=w5 at*
   all_goals go_wp2_with (first
    |((with_reducible refine OX 78 Tryz.underlying78 rfl Ji 5 q _ ?_ (Aa ar) rfl ?_);(focus rfl))
    |((with_reducible refine Ku 78 Ji 4 37 w.heap.size _ [.int .i64 2,.int .i64 (n.id:Int),.int .i64 (n.inc:Int),.int .i64 u,.int .i64 o,.int .i64 m,.int .i64 x,.int .i64 l,.slice j s k,.string v] ?_ ?_ (Aa ai) rfl rfl ?_ ?_);(focus rfl);(focus rfl);(focus simp[Value.oneCell']);intro w6 ap am;have ay:=Ab ap;have ah:=Ab am;clear ap am)
    |fail)
   all_goals exact bodyPost_ret (Sg rfl (Aa ay) rfl) rfl ⟨⟨2,n.id,n.inc,⟨u,o,m,x,l,⟨j,s,k,qx,v⟩⟩⟩,rfl,⟨rfl,rfl,by rw[Aa HO];rfl,by rw[Aa HO];exact Aa ae⟩,(Aa ai).row (Aa au) (by simp) (Aa ah),GR (Aa aq) (Aa ah) (Nat.le_refl _)⟩
end Go.Proofs.YtfpfcnfmigaphaaGreatDoor
