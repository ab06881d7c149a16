/- Laws for the proof. -/
import Derived.Test.YtfpmnekaockodaaGreatDoorU34
import Derived.Test.YtfpmnekaockodaaGreatDoorU35
namespace Go.Proofs.YtfpmnekaockodaaGreatDoor
open Go.RowKit Go.Sort
set_option linter.all false
set_option maxRecDepth 4000
set_option maxHeartbeats 8000000
variable {tmps:Array Value}{xs:List Nat}{cs:List Value}{g n:Nat}{a:Option Addr}{T:TypeId}{v0 v1 v2 v3 v4 v5 v6 v7 v8 v9:Value}{w w' W:World}
def AR(w:World)(g:Nat)(v0 v1 v2 v3 v4 v5 v6 v7 v8 v9:Value):Prop:=w.heap[g]? =some (.cells #[v0,v1,v2,v3,v4,v5,v6,v7,v8,v9] 157 (0,0))
theorem JR(w:World)(v0 v1 v2 v3 v4 v5 v6 v7 v8 v9:Value):AR (w.alloc (.cells #[v0,v1,v2,v3,v4,v5,v6,v7,v8,v9] 157)) w.heap.size v0 v1 v2 v3 v4 v5 v6 v7 v8 v9:=by
 show(w.heap.push _)[w.heap.size]? =_;simp
theorem AR.lt(h:AR w g v0 v1 v2 v3 v4 v5 v6 v7 v8 v9):g<w.heap.size:=(Array.getElem?_eq_some_iff.1 h).1
theorem AR.below(h:AR w g v0 v1 v2 v3 v4 v5 v6 v7 v8 v9)(b:Below w.heap.size w w'):AR w' g v0 v1 v2 v3 v4 v5 v6 v7 v8 v9:=(b.block g h.lt).trans h
theorem AR.at(h:AR w g v0 v1 v2 v3 v4 v5 v6 v7 v8 v9):Ga w g v0 v1 v2 v3 v4 v5 v6 v7 v8 v9:=by
 unfold AR at h;refine⟨⟨?_,?_,?_⟩,?_,?_,?_,?_,?_,?_,?_⟩<;>rw[cell_of_row w g _ _ _ _ h]<;>rfl
theorem AR.frz(h:AR w g v0 v1 v2 v3 v4 v5 v6 v7 v8 v9)(i:Nat):w.frozen? ⟨g,i,none⟩=false:=by
 unfold AR at h;simp[World.frozen?,h]
theorem AR.other(h:AR w g v0 v1 v2 v3 v4 v5 v6 v7 v8 v9){a:Addr}(b:g≠a.block)(u:Value):AR (w.setCell a u) g v0 v1 v2 v3 v4 v5 v6 v7 v8 v9:=
 (Below.heap_setCell w a u g b).trans h
theorem AR.set0(h:AR w g v0 v1 v2 v3 v4 v5 v6 v7 v8 v9)(u:Value):AR (w.setCell ⟨g,0,none⟩ u) g u v1 v2 v3 v4 v5 v6 v7 v8 v9:=heap_setCell_same w g 0 _ _ u h
theorem AR.set1(h:AR w g v0 v1 v2 v3 v4 v5 v6 v7 v8 v9)(u:Value):AR (w.setCell ⟨g,1,none⟩ u) g v0 u v2 v3 v4 v5 v6 v7 v8 v9:=heap_setCell_same w g 1 _ _ u h
theorem AR.set2(h:AR w g v0 v1 v2 v3 v4 v5 v6 v7 v8 v9)(u:Value):AR (w.setCell ⟨g,2,none⟩ u) g v0 v1 u v3 v4 v5 v6 v7 v8 v9:=heap_setCell_same w g 2 _ _ u h
theorem AR.set3(h:AR w g v0 v1 v2 v3 v4 v5 v6 v7 v8 v9)(u:Value):AR (w.setCell ⟨g,3,none⟩ u) g v0 v1 v2 u v4 v5 v6 v7 v8 v9:=heap_setCell_same w g 3 _ _ u h
theorem AR.set4(h:AR w g v0 v1 v2 v3 v4 v5 v6 v7 v8 v9)(u:Value):AR (w.setCell ⟨g,4,none⟩ u) g v0 v1 v2 v3 u v5 v6 v7 v8 v9:=heap_setCell_same w g 4 _ _ u h
theorem AR.set5(h:AR w g v0 v1 v2 v3 v4 v5 v6 v7 v8 v9)(u:Value):AR (w.setCell ⟨g,5,none⟩ u) g v0 v1 v2 v3 v4 u v6 v7 v8 v9:=heap_setCell_same w g 5 _ _ u h
theorem AR.set6(h:AR w g v0 v1 v2 v3 v4 v5 v6 v7 v8 v9)(u:Value):AR (w.setCell ⟨g,6,none⟩ u) g v0 v1 v2 v3 v4 v5 u v7 v8 v9:=heap_setCell_same w g 6 _ _ u h
theorem AR.set7(h:AR w g v0 v1 v2 v3 v4 v5 v6 v7 v8 v9)(u:Value):AR (w.setCell ⟨g,7,none⟩ u) g v0 v1 v2 v3 v4 v5 v6 u v8 v9:=heap_setCell_same w g 7 _ _ u h
theorem AR.set8(h:AR w g v0 v1 v2 v3 v4 v5 v6 v7 v8 v9)(u:Value):AR (w.setCell ⟨g,8,none⟩ u) g v0 v1 v2 v3 v4 v5 v6 v7 u v9:=heap_setCell_same w g 8 _ _ u h
theorem AR.set9(h:AR w g v0 v1 v2 v3 v4 v5 v6 v7 v8 v9)(u:Value):AR (w.setCell ⟨g,9,none⟩ u) g v0 v1 v2 v3 v4 v5 v6 v7 v8 u:=heap_setCell_same w g 9 _ _ u h
def Nt(w:World)(g:Nat)(u0 u1 u2 u3 u4 u5 u6 u7 u8 u9:Value):World:=((((((((((w.setCell ⟨g,0,none⟩ u0).setCell ⟨g,1,none⟩ u1).setCell ⟨g,2,none⟩ u2).setCell ⟨g,3,none⟩ u3).setCell ⟨g,4,none⟩ u4).setCell ⟨g,5,none⟩ u5).setCell ⟨g,6,none⟩ u6).setCell ⟨g,7,none⟩ u7).setCell ⟨g,8,none⟩ u8).setCell ⟨g,9,none⟩ u9)
def Jq(w:World)(g:Nat)(u3 u4 u5 u6 u7 u8 u9:Value):World:=(((((((w.setCell ⟨g,3,none⟩ u3).setCell ⟨g,4,none⟩ u4).setCell ⟨g,5,none⟩ u5).setCell ⟨g,6,none⟩ u6).setCell ⟨g,7,none⟩ u7).setCell ⟨g,8,none⟩ u8).setCell ⟨g,9,none⟩ u9)
theorem AR.sets(h:AR w g v0 v1 v2 v3 v4 v5 v6 v7 v8 v9)(u0 u1 u2 u3 u4 u5 u6 u7 u8 u9:Value):AR (Nt w g u0 u1 u2 u3 u4 u5 u6 u7 u8 u9) g u0 u1 u2 u3 u4 u5 u6 u7 u8 u9:=((((((((((h.set0 u0).set1 u1).set2 u2).set3 u3).set4 u4).set5 u5).set6 u6).set7 u7).set8 u8).set9 u9)
theorem AR.setp(h:AR w g v0 v1 v2 v3 v4 v5 v6 v7 v8 v9)(u3 u4 u5 u6 u7 u8 u9:Value):AR (Jq w g u3 u4 u5 u6 u7 u8 u9) g v0 v1 v2 u3 u4 u5 u6 u7 u8 u9:=(((((((h.set3 u3).set4 u4).set5 u5).set6 u6).set7 u7).set8 u8).set9 u9)
theorem AR.otherp{b:Nat}(h:AR w g v0 v1 v2 v3 v4 v5 v6 v7 v8 v9)(c:g≠b)(u3 u4 u5 u6 u7 u8 u9:Value):AR (Jq w b u3 u4 u5 u6 u7 u8 u9) g v0 v1 v2 v3 v4 v5 v6 v7 v8 v9:=(((((((h.other (a:=⟨b,3,none⟩) c u3).other (a:=⟨b,4,none⟩) c u4).other (a:=⟨b,5,none⟩) c u5).other (a:=⟨b,6,none⟩) c u6).other (a:=⟨b,7,none⟩) c u7).other (a:=⟨b,8,none⟩) c u8).other (a:=⟨b,9,none⟩) c u9)
theorem JP{B:Nat}{a:World}(h:Below B a w){g:Nat}(b:B<=g)(u0 u1 u2 u3 u4 u5 u6 u7 u8 u9:Value):Below B a (Nt w g u0 u1 u2 u3 u4 u5 u6 u7 u8 u9):=((((((((((h.setCell b u0).setCell b u1).setCell b u2).setCell b u3).setCell b u4).setCell b u5).setCell b u6).setCell b u7).setCell b u8).setCell b u9)
theorem aH{B:Nat}{a:World}(h:Below B a w){g:Nat}(b:B<=g)(u3 u4 u5 u6 u7 u8 u9:Value):Below B a (Jq w g u3 u4 u5 u6 u7 u8 u9):=(((((((h.setCell b u3).setCell b u4).setCell b u5).setCell b u6).setCell b u7).setCell b u8).setCell b u9)
theorem RowAt.other10(h:RowAt w a n xs){B:Nat}(b:∀c,a=some c->n≠0->c.block≠B)(u0 u1 u2 u3 u4 u5 u6 u7 u8 u9:Value):RowAt (Nt w B u0 u1 u2 u3 u4 u5 u6 u7 u8 u9) a n xs:=((((((((((h.other b 0 u0).other b 1 u1).other b 2 u2).other b 3 u3).other b 4 u4).other b 5 u5).other b 6 u6).other b 7 u7).other b 8 u8).other b 9 u9)
theorem RowAt.otherP(h:RowAt w a n xs){B:Nat}(b:∀c,a=some c->n≠0->c.block≠B)(u3 u4 u5 u6 u7 u8 u9:Value):RowAt (Jq w B u3 u4 u5 u6 u7 u8 u9) a n xs:=(((((((h.other b 3 u3).other b 4 u4).other b 5 u5).other b 6 u6).other b 7 u7).other b 8 u8).other b 9 u9)
theorem AR.apart{r s u v x y z A:Int}{b:Option Addr}{m c:Nat}{t:ByteArray}(h:AR w g (.int .i64 r) (.int .i64 s) (.int .i64 u) (.int .i64 v) (.int .i64 x) (.int .i64 y) (.int .i64 z) (.int .i64 A) (.slice b m c) (.string t))
  {a:Option Addr} {n:Nat} {xs:List Nat} (q:RowAt w a n xs):∀f,a=some f->n≠0->f.block≠g:=by
 intro f o B j;obtain⟨l,off,e,p⟩:=q.at (i:=0) (by omega);rw[o]at e;obtain rfl:=Option.some.inj e;have d:=p 0 (by omega);simp only at j;subst j;unfold AR at h;rw[Nat.add_zero,cell_of_row w l _ _ _ _ h]at d
 match off,d with
 |0,d=>simp at d
 |1,d=>simp at d
 |2,d=>simp at d
 |3,d=>simp at d
 |4,d=>simp at d
 |5,d=>simp at d
 |6,d=>simp at d
 |7,d=>simp at d
 |8,d=>simp at d
 |9,d=>simp at d
 |k+10,d=>simp at d
theorem AX.apart{r s u v x:Int}{b:Option Addr}{m c:Nat}{t:ByteArray}(h:AX w g (.int .i64 r) (.int .i64 s) (.int .i64 u) (.int .i64 v) (.int .i64 x) (.slice b m c) (.string t))
  {a:Option Addr} {n:Nat} {xs:List Nat} (q:RowAt w a n xs):∀f,a=some f->n≠0->f.block≠g:=by
 intro f o y j;obtain⟨l,off,e,p⟩:=q.at (i:=0) (by omega);rw[o]at e;obtain rfl:=Option.some.inj e;have d:=p 0 (by omega);simp only at j;subst j;unfold AX at h;rw[Nat.add_zero,cell_of_row w l _ _ _ _ h]at d
 match off,d with
 |0,d=>simp at d
 |1,d=>simp at d
 |2,d=>simp at d
 |3,d=>simp at d
 |4,d=>simp at d
 |5,d=>simp at d
 |6,d=>simp at d
 |k+7,d=>simp at d
theorem NT(s:ByteArray)(d:s.size=1\/s.size=4)(w:World):
  Calls Tryz.prog 151 #[.string s] w fun e w'=>e=.returned (.int .i64 ((num (tx s):Nat):Int))/\w'=w:=by
 have c:=fun wx=>Sd s (s.size:Int) wx;have b:=Np (s:=s) (k:=(s.size:Int)) (by rcases d with h|h<;>rw[h]<;>simp[EL]) (Int.le_refl _);rw[Int.toNat_natCast,<-AU,List.take_length]at b;rw[AU]at b;rw[b.1,b.2]at c;have f:=Ab c;generalize num (tx s)=x at*;clear c b d;go_enter Tryz.func151,Tryz.ntmps151;go_wp2_with fail;refine(Aa f _).mono ?_;rintro e w' ⟨rfl,i⟩;obtain rfl:=i.symm;go_wp2;go_ret;exact⟨rfl,rfl⟩
theorem kH(s:ByteArray)(y:6<=s.size)(w:World):
  Calls Tryz.prog 114 #[.string s] w fun e w'=>e=.returned (.agg #[.int .i64 ((hdK s:Nat):Int),.int .i64 ((hdF s:Nat):Int),.int .i64 ((hdI s:Nat):Int),.int .i64 0,.int .i64 0,.int .i64 0,.int .i64 0,.int .i64 0,.slice none 0 0,.string ⟨#[]⟩])/\Below w.heap.size w w':=by
 have d:=fun wx=>NT (s.extract 0 1) (by rw[ByteArray.size_extract];omega) wx;have f:=fun wx=>NT (s.extract 1 2) (by rw[ByteArray.size_extract];omega) wx;have j:=fun wx=>NT (s.extract 2 6) (by rw[ByteArray.size_extract];omega) wx;rw[show num (tx (s.extract 0 1))=hdK s from Lg s 0 (by omega)]at d;rw[show num (tx (s.extract 1 2))=hdF s from Lg s 1 (by omega)]at f;rw[show num (tx (s.extract 2 6))=hdI s from by rw[Ex];rfl]at j;have k:=Ab d;have l:=Ab f;have m:=Ab j;generalize hdK s=r at*;generalize hdF s=u at*;generalize hdI s=x at*;have o:(1:Int)<=(s.size:Int):=by omega
 have p:(2:Int)<=(s.size:Int):=by omega
 have q:(6:Int)<=(s.size:Int):=by omega
 clear d f j;go_enter Tryz.func114,Tryz.ntmps114;go_wp2_with fail;refine wp_region_any (by kernel_rfl) ?_;change wpAny _ _ _ _ _ _ _ (World.drew _);refine wpAny_take (i:=0) (v:=?_) rfl (by kernel_rfl) (by kernel_rfl) (by kernel_rfl) (fun _ _ _ h=>h) (Or.inl ⟨by rfl,?f0⟩) ?_
 case f0=>(intro w;go_simp;try with_reducible rfl)
 refine wpAny_take (i:=1) (v:=?_) rfl (by kernel_rfl) (by kernel_rfl) (by kernel_rfl) (fun _ _ _ h=>h) (Or.inl ⟨by rfl,?f1⟩) ?_
 case f1=>(intro w;go_simp;try with_reducible rfl)
 refine wpAny_take (i:=3) (v:=?_) rfl (by kernel_rfl) (by kernel_rfl) (by kernel_rfl) (fun _ _ _ h=>h) (Or.inl ⟨by rfl,?f3⟩) ?_
 case f3=>(intro w;go_simp;try with_reducible rfl)
 refine wpAny_take (i:=4) (v:=?_) rfl (by kernel_rfl) (by kernel_rfl) (by kernel_rfl) (fun _ _ _ h=>h) (Or.inl ⟨by rfl,?f4⟩) ?_
 case f4=>(intro w;go_simp;try with_reducible rfl)
 refine wpAny_take (i:=6) (v:=?_) rfl (by kernel_rfl) (by kernel_rfl) (by kernel_rfl) (fun _ _ _ h=>h) (Or.inl ⟨by rfl,?f6⟩) ?_
 case f6=>(intro w;go_simp;try with_reducible rfl)
 refine wpAny_take (i:=7) (v:=?_) rfl (by kernel_rfl) (by kernel_rfl) (by kernel_rfl) (fun _ _ _ h=>h) (Or.inl ⟨by rfl,?f7⟩) ?_
 case f7=>(intro w;go_simp;try with_reducible rfl)
 refine wpAny_ready (rs:=[2]) (by kernel_rfl) (by simp) ?_;refine AllReady.cons rfl (fun K b=>?_) AllReady.nil;go_simp;refine(Aa k _).mono ?_;rintro e w' ⟨rfl,c⟩;obtain rfl:=c.symm;clear c;refine b _ _ ?_;clear b K;refine wpAny_ready (rs:=[5]) (by kernel_rfl) (by simp) ?_;refine AllReady.cons rfl (fun K b=>?_) AllReady.nil;go_simp;refine(Aa l _).mono ?_;rintro e w' ⟨rfl,c⟩;obtain rfl:=c.symm;clear c;refine b _ _ ?_;clear b K;refine wpAny_ready (rs:=[8]) (by kernel_rfl) (by simp) ?_;refine AllReady.cons rfl (fun K b=>?_) AllReady.nil;go_simp;refine(Aa m _).mono ?_;rintro e w' ⟨rfl,c⟩;obtain rfl:=c.symm;clear c;refine b _ _ ?_;clear b K;refine wpAny_take (i:=9) (v:=?_) rfl (by kernel_rfl) (by kernel_rfl) (by kernel_rfl) (fun _ _ _ h=>h) (Or.inl ⟨by rfl,?f9⟩) ?_
 case f9=>(intro w;go_simp;try with_reducible rfl)
 refine wpAny_ready (rs:=[10]) (by kernel_rfl) (by simp) ?_;refine AllReady.cons rfl (fun K b=>?_) AllReady.nil;go_simp;refine b _ _ ?_;clear b K;refine wpAny_done (by kernel_rfl) ?_ _;go_wp2;exact bodyPost_ret (v:=.agg #[.int .i64 (r:Int),.int .i64 (u:Int),.int .i64 (x:Int),.int .i64 0,.int .i64 0,.int .i64 0,.int .i64 0,.int .i64 0,.slice none 0 0,.string ⟨#[]⟩]) (by simp[results,Tryz.results114,go_sem]) rfl ⟨rfl,(Bv w _).drew⟩
def Lm(kd:Int)(s:ByteArray)(o l k z h:Int)(xs:List Nat)(t:ByteArray)(en:Nat):Prop:=
 (kd=1->(s.size≠0->en=3/\A9 o l k z h xs t)/\(s.size=0->en=0/\A9 o l k z h xs t))/\(kd=2->Cg s o l k z h xs t en)/\(kd≠1->kd≠2->en=3/\A9 o l k z h xs t)
def Rg(w:World)(kd:Int)(s:ByteArray)(e:Ending)(w':World):Prop:=
 ∃(o l k z h:Int) (a:Option Addr) (n c:Nat) (xs:List Nat) (t:ByteArray) (en:Nat),e=.returned (.tuple #[.agg #[.int .i64 o,.int .i64 l,.int .i64 k,.int .i64 z,.int .i64 h,.slice a n c,.string t],.int .i64 ((en:Nat):Int)])/\
  RowAt w' a n xs/\DI w a n/\Lm kd s o l k z h xs t en/\Below w.heap.size w w'
theorem OT{kd:Int}{s:ByteArray}{en:Nat}(h:Lm kd s 0 0 0 0 0 [] ⟨#[]⟩ en)(b:Below w.heap.size w w'):
  Rg w kd s (.returned (.tuple #[.agg #[.int .i64 0,.int .i64 0,.int .i64 0,.int .i64 0,.int .i64 0,.slice none 0 0,.string ⟨#[]⟩],.int .i64 ((en:Nat):Int)])) w':=
 ⟨0,0,0,0,0,none,0,0,[],⟨#[]⟩,en,rfl,Dv _,OA _ _,h,b⟩
theorem JI:A9 0 0 0 0 0 [] ⟨#[]⟩:=⟨rfl,rfl,rfl,rfl,rfl,rfl,rfl⟩
theorem LK{x:Int}{u0 u1 u2 u3 u4 u5 u6:Value}(d:tmps.getD 4 undef=.pointer (some ⟨g,0,none⟩))(e:tmps.getD 5 undef=.int .i64 x)(f:AX W g u0 u1 u2 u3 u4 u5 u6):
  (results Tryz.f115 tmps).run Tryz.prog W=.ok (.tuple #[.agg #[u0,u1,u2,u3,u4,u5,u6],.int .i64 x]) W:=by
 obtain⟨h,i,j,k,l,m,o⟩:=f.at;have b:tmps[4]?.getD undef=.pointer (some ⟨g,0,none⟩):=by simpa using d
 have c:tmps[5]?.getD undef=.int .i64 x:=by simpa using e
 simp[results,Tryz.results115,go_sem,b,c,h,i,j,k,l,m,o]
theorem fA{s:ByteArray}(b:¬s.size=0):s.toList.isEmpty=false:=by
 have h:=MA s ⟨#[]⟩;rw[decide_eq_false (fun h=>b (by rw[h];rfl))]at h;simpa using h
theorem rz(kd:Int)(v0 v1 v2 v3 v4 v5 v6:Value)(s:ByteArray)(w:World)(E:s.size<=140737488351232):
  Calls Tryz.prog 115 #[Gw kd v0 v1 v2 v3 v4 v5 v6,.string s] w (Rg w kd s):=by
 by_cases x:kd=1
 ·subst x
  rw[M4];have H:=Ri;by_cases p:s.size=0
  ·obtain rfl:s=⟨#[]⟩:=WB p
   go_enter Tryz.func115,Tryz.ntmps115;go_wp2;exact bodyPost_ret (LK rfl rfl (CM w (.int .i64 0) (.int .i64 0) (.int .i64 0) (.int .i64 0) (.int .i64 0) (.slice none 0 0) (.string ⟨#[]⟩))) rfl (OT (en:=0) ⟨fun _=>⟨fun h=>absurd rfl h,fun _=>⟨rfl,JI⟩⟩,fun h=>absurd h (by decide),fun h=>absurd rfl h⟩ (Bv w _))
  ·have L:=fA p
   have I:=Ab p;clear p;go_enter Tryz.func115,Tryz.ntmps115;go_wp2;exact bodyPost_ret (LK rfl rfl (CM w (.int .i64 0) (.int .i64 0) (.int .i64 0) (.int .i64 0) (.int .i64 0) (.slice none 0 0) (.string ⟨#[]⟩))) rfl (OT (en:=3) ⟨fun _=>⟨fun _=>⟨rfl,JI⟩,fun h=>absurd h (Aa I)⟩,fun h=>absurd h (by decide),fun h=>absurd rfl h⟩ (Bv w _))
 ·by_cases y:kd=2
  ·subst y
   rw[M5];have H:=Rh;have K:=Nq;have A:=Ab (fun wx=>oU s wx E);have C:=Ab (CM w (.int .i64 0) (.int .i64 0) (.int .i64 0) (.int .i64 0) (.int .i64 0) (.slice none 0 0) (.string ⟨#[]⟩));have u:=Ab (Bv w (.cells #[.int .i64 0,.int .i64 0,.int .i64 0,.int .i64 0,.int .i64 0,.slice none 0 0,.string ⟨#[]⟩] 75));clear E;go_enter Tryz.func115,Tryz.ntmps115;go_wp2_with fail;refine(Aa A _).mono ?_;rintro e w1 ⟨o,l,k,z,h,a,n,c,xs,t,en,rfl,D,j,d,i⟩;have v:=Ab (j.mono (Aa u).size);have m:=Ab ((Aa C).below i);have B1:=Ab (Ad (Aa u) i);have B:=Ab D;have J:=Ab d;clear D j d i C u A;obtain⟨N,O,P,Q,R,S,V⟩:=(Aa m).at;have f:=(Aa m).frz;go_wp2;have q:=Ab ((Aa m).sets (.int .i64 o) (.int .i64 l) (.int .i64 k) (.int .i64 z) (.int .i64 h) (.slice a n c) (.string t));have b:=Ab (CD (Aa B1) (Nat.le_refl _) (.int .i64 o) (.int .i64 l) (.int .i64 k) (.int .i64 z) (.int .i64 h) (.slice a n c) (.string t));have r:=Ab ((Aa B).other7 ((Aa m).apart (Aa B)) (.int .i64 o) (.int .i64 l) (.int .i64 k) (.int .i64 z) (.int .i64 h) (.slice a n c) (.string t));exact bodyPost_ret (LK rfl rfl (Aa q)) rfl ⟨o,l,k,z,h,a,n,c,xs,t,en,rfl,Aa r,Aa v,⟨fun h=>absurd h (by decide),fun _=>Aa J,fun _ h=>absurd rfl h⟩,Aa b⟩
  ·rw[Ql x y]
   have H:=Rk;have K:=Rj;go_enter Tryz.func115,Tryz.ntmps115;go_wp2;exact bodyPost_ret (LK rfl rfl (CM w (.int .i64 0) (.int .i64 0) (.int .i64 0) (.int .i64 0) (.int .i64 0) (.slice none 0 0) (.string ⟨#[]⟩))) rfl (OT (en:=3) ⟨fun h=>absurd h x,fun h=>absurd h y,fun _ _=>⟨rfl,JI⟩⟩ (Bv w _))
theorem N2{b:Bool}{u0 u1 u2 u3 u4 u5 u6:Value}(m:tmps.getD 4 undef=.pointer (some ⟨g,0,none⟩))(o:tmps.getD 5 undef=.bool b)(p:AX W g u0 u1 u2 u3 u4 u5 u6):
  (results Tryz.f143 tmps).run Tryz.prog W=.ok (.tuple #[.agg #[u0,u1,u2,u3,u4,u5,u6],.bool b]) W/\(results Tryz.f144 tmps).run Tryz.prog W=.ok (.tuple #[.agg #[u0,u1,u2,u3,u4,u5,u6],.bool b]) W/\(results Tryz.f145 tmps).run Tryz.prog W=.ok (.tuple #[.agg #[u0,u1,u2,u3,u4,u5,u6],.bool b]) W:=by
 obtain⟨e,f,h,i,j,k,l⟩:=p.at;have c:tmps[4]?.getD undef=.pointer (some ⟨g,0,none⟩):=by simpa using m
 have d:tmps[5]?.getD undef=.bool b:=by simpa using o
 refine⟨?_,?_,?_⟩
 ·simp[results,Tryz.results143,go_sem,c,d,e,f,h,i,j,k,l]
 ·simp[results,Tryz.results144,go_sem,c,d,e,f,h,i,j,k,l]
 ·simp[results,Tryz.results145,go_sem,c,d,e,f,h,i,j,k,l]
def IT(k:Int):FuncId:=if k=1 then 143 else if k=2 then 144 else 145
theorem YT(k:Int)(w:World):Calls Tryz.prog 109 #[.int .i64 k] w fun e w'=>e=.returned (.func (.func (IT k)) #[] #[])/\w'=w:=by
 unfold IT;by_cases b:k=1
 ·subst b
  go_enter Tryz.func109,Tryz.ntmps109;go_wp2;go_ret;exact⟨rfl,rfl⟩
 ·by_cases c:k=2
  ·subst c
   go_enter Tryz.func109,Tryz.ntmps109;go_wp2;go_ret;exact⟨rfl,rfl⟩
  ·rw[if_neg b,if_neg c]
   go_enter Tryz.func109,Tryz.ntmps109;go_wp2;go_ret;exact⟨rfl,rfl⟩
theorem ot(a b:Value)(w:World):Calls Tryz.prog 145 #[a,b] w fun e w'=>e=.returned (.tuple #[EQ.val,.bool false])/\Below w.heap.size w w':=by
 have X:=Ab (CM w (.int .i64 0) (.int .i64 0) (.int .i64 0) (.int .i64 0) (.int .i64 0) (.slice none 0 0) (.string ⟨#[]⟩));go_enter Tryz.func145,Tryz.ntmps145;go_wp2;exact bodyPost_ret (N2 rfl rfl (Aa X)).2.2 rfl ⟨rfl,Ax _ _⟩
def Ke(o:Nat)(r:IM)(L:List Nat):PD:=⟨(o:Int),r.l,(r.ss.length:Int),r.z,0,Dj r.ss.length r.k L 0,st (Br r.ss (Dj r.ss.length r.k L 0) r.ss.length)⟩
theorem kX(g h p o:Nat)(r:IM)(L:List Nat)(w:World)(v:w.cell? ⟨g,10,none⟩=some (.pointer (some ⟨r.g,0,none⟩)))(A:Bn w r.g (o:Int) r.l r.z r.k r.ss)(E:1<=r.ss.length)(H:r.ss.length<=128)(I:r.k<=r.ss.length)(j:shorts r.ss)(ht:B8 w)(u:Az w h p L 0)(J:p<=w.heap.size):
  Calls Tryz.prog 143 #[.pointer (some ⟨g,0,none⟩),.pointer (some ⟨h,0,none⟩)] w fun e w'=> ∃q:PKV,e=.returned (.tuple #[q.val,.bool true])/\q.pd=Ke o r L/\RowAt w' q.r.a q.r.n q.r.xs/\w.grownBy w' (some h):=by
 have d:=Ax w (.cells #[.int .i64 0,.int .i64 0,.int .i64 0,.int .i64 0,.int .i64 0,.slice none 0 0,.string ⟨#[]⟩] 75);have X:=Ab (CM w (.int .i64 0) (.int .i64 0) (.int .i64 0) (.int .i64 0) (.int .i64 0) (.slice none 0 0) (.string ⟨#[]⟩));have C:=Ab (oo r.g h p (o:Int) r.l r.z r.k r.ss.length r.ss L 0 _ (A.below d) rfl E H I j (ht.below d) (u.below (d.mono J)) (by rw[Bc];omega) (by decide));have K:=u.lt;have N:=(d.cell (World.block_lt_of_cell? w _ v)).trans v;clear A j ht u v;unfold Ke;generalize st (Br r.ss (Dj r.ss.length r.k L 0) r.ss.length)=D at*;generalize Dj r.ss.length r.k L 0=V at*;generalize r.ss.length=k at*;generalize sizeOfK (k:Int)=m at*;have B:=Ab d;clear d;go_enter Tryz.func143,Tryz.ntmps143
 go_wp2_with (first
  |(go_at_call 167;refine(Aa C).mono ?_;rintro e w1 ⟨y,c1,rfl,i, -,c⟩;have b:=(Aa X).kept c (fun e=>by have:=Option.some.inj e;omega);obtain⟨O,P,Q,R,S,Y,Z⟩:=b.at;have f0:=b.frz 0;have f1:=b.frz 1;have f2:=b.frz 2;have f3:=b.frz 3;have f4:=b.frz 4;have f5:=b.frz 5;have f6:=b.frz 6;have x:=Ab b;have f:=Ab i;have s:=Ab c;clear b i c)
  |fail)
 refine bodyPost_ret (N2 rfl rfl ((Aa x).sets (.int .i64 (o:Int)) (.int .i64 r.l) (.int .i64 (k:Int)) (.int .i64 r.z) (.int .i64 0) (.slice y m c1) (.string D))).1 rfl ⟨⟨(o:Int),r.l,(k:Int),r.z,0,⟨y,m,c1,V,D⟩⟩,rfl,rfl,(Aa f).other7 ((Aa x).apart (Aa f)) _ _ _ _ _ _ _,?_⟩;exact JT (BD (CN (Aa B) (some h)) (Aa s) (.inl rfl)) (CD (Below.refl _ _) (Nat.le_refl _) _ _ _ _ _ _ _)
theorem ka(g j k:Nat)(r:Gc)(B m:Nat)(t:Int)(L:List Nat)(w:World)(p:w.cell? ⟨g,14,none⟩=some (.pointer (some ⟨r.g,0,none⟩)))(y:Aq w r.g r.gb B m t r.i r.v r.ps)(s: -1099511627776<=t/\t<=1099511627776)(ht:Tab w)(o:Az w j k L 0)(R:k<=w.heap.size):
  Calls Tryz.prog 144 #[.pointer (some ⟨g,0,none⟩),.pointer (some ⟨j,0,none⟩)] w fun e w'=> ∃q:PKV,e=.returned (.tuple #[q.val,.bool (GY (r.ps.map PKV.pd) L 0 t).isSome])/\q.pd=(GY (r.ps.map PKV.pd) L 0 t).getD EQ.pd/\RowAt w' q.r.a q.r.n q.r.xs/\w.grownBy w' (some j):=by
 have f:=Ax w (.cells #[.int .i64 0,.int .i64 0,.int .i64 0,.int .i64 0,.int .i64 0,.slice none 0 0,.string ⟨#[]⟩] 75);have X:=Ab (CM w (.int .i64 0) (.int .i64 0) (.int .i64 0) (.int .i64 0) (.int .i64 0) (.slice none 0 0) (.string ⟨#[]⟩));have P:=Ab (iB r.g r.gb B m t r.i r.v r.ps j k L 0 _ (ht.below f) (y.below f) (o.below (f.mono R)) (by rw[Bc];omega) (by decide) s);have S:=o.lt;have V:=(f.cell (World.block_lt_of_cell? w _ p)).trans p;clear y ht o p;generalize GY (r.ps.map PKV.pd) L 0 t=O at*;have N:=Ab f;clear f;go_enter Tryz.func144,Tryz.ntmps144
 go_wp2_with (first
  |(go_at_call 168;refine(Aa P).mono ?_;rintro e w1 ⟨c, -,d⟩;obtain⟨q,rfl,x,c⟩:=c.row;obtain⟨I,E,D,K,C,z,H,A,Y,J⟩:=q;simp only[PKV.val];have b:=(Aa X).kept d (fun e=>by have:=Option.some.inj e;omega);obtain⟨Z,y1,y2,y3,y4,y5,y6⟩:=b.at;have f0:=b.frz 0;have f1:=b.frz 1;have f2:=b.frz 2;have f3:=b.frz 3;have f4:=b.frz 4;have f5:=b.frz 5;have f6:=b.frz 6;have u:=Ab b;have h:=Ab c;have Q:=Ab x;have l:=Ab d;clear b c d x)
  |fail)
 refine bodyPost_ret (N2 rfl rfl ((Aa u).sets (.int .i64 I) (.int .i64 E) (.int .i64 D) (.int .i64 K) (.int .i64 C) (.slice z H A) (.string J))).2.1 rfl ⟨⟨I,E,D,K,C,⟨z,H,A,Y,J⟩⟩,rfl,Aa Q,(Aa h).other7 ((Aa u).apart (Aa h)) _ _ _ _ _ _ _,?_⟩;exact JT (BD (CN (Aa N) (some j)) (Aa l) (.inl rfl)) (CD (Below.refl _ _) (Nat.le_refl _) _ _ _ _ _ _ _)
structure Cm(o:Nat)(r:IM):Prop where
 one:1<=r.ss.length
 most:r.ss.length<=128
 k:r.k<=r.ss.length
 sh:shorts r.ss
 ck:∀L,BT (Ke o r L)=true
def C8(n:Ao)(L:List Nat):Option PD:=match n.src with
 |some r=>some (Ke n.id r L)
 |none=>match n.s.rl with
  |some r=>GY (r.ps.map PKV.pd) L 0 (Gs n.p.target)
  |none=>none
theorem V8(g B i j:Nat)(n:Ao)(L:List Nat)(w:World)(h:Al w g B n)(ht:Bt w)(l:∀r,n.src=some r->Cm n.id r)(u:Az w i j L 0)(m:j<=w.heap.size):
  Calls Tryz.prog (IT n.p.kd) #[.pointer (some ⟨g,0,none⟩),.pointer (some ⟨i,0,none⟩)] w fun e w'=> ∃q:PKV,e=.returned (.tuple #[q.val,.bool (C8 n L).isSome])/\q.pd=(C8 n L).getD EQ.pd/\RowAt w' q.r.a q.r.n q.r.xs/\w.grownBy w' (some i):=by
 have o:=h.blk;unfold IT C8;rcases h.kd with⟨a,b,c,d⟩|⟨a,b,c,d⟩|⟨a,b,c,d⟩
 ·rw[if_pos a]
  cases f:n.src with
  |none=>exact absurd f b
  |some r=>
   have k:=l r f;exact(kX g i j n.id r L w (by have:=o.at 10 rfl;rwa[f]at this) (h.src r f).src k.one k.most k.k k.sh ht.pl u m).mono fun e w' h=>h
 ·rw[if_neg (by omega),if_pos a,b]
  cases f:n.s.rl with
  |none=>exact absurd f c
  |some r=>exact(ka g i j r B _ _ L w (by have:=o.at 14 rfl;rwa[f]at this) (h.st.rl r f) (pQ _) ht.tab u m).mono fun e w' h=>h
 ·rw[if_neg (by omega),if_neg (by omega),b,c]
  exact(ot _ _ w).mono fun e w' ⟨x,v⟩=>⟨EQ,x,rfl,Dv _,CN v _⟩
theorem Uz(k:Int)(args:Array Value)(w:World):Sem.run Tryz.prog (callFunc (IT k) args) w=.ok (.enter (IT k) args) w:=by
 unfold IT;split
 ·kernel_rfl
 ·split
  ·kernel_rfl
  ·kernel_rfl
def Fi(n:Ao)(L:List Nat)(f:Bp):Prop:=f.fr=n.id/\f.ic=n.inc/\f.kd=(if (C8 n L).isSome=true then 2 else 1)/\f.p.pd=(C8 n L).getD EQ.pd
theorem JK:(Tryz.prog.info? 157).map (·.size)=some 10:=by kernel_rfl
theorem Td(d:tmps.getD 4 undef=.pointer (some ⟨g,0,none⟩))(f:BkA 157 W g cs)(e:cs.length=10):(results Tryz.f78 tmps).run Tryz.prog W=.ok (.agg cs.toArray) W:=by
 have c:=f.load Tryz.underlying157 rfl JK e;have b:tmps[4]?.getD undef=.pointer (some ⟨g,0,none⟩):=by simpa using d
 simp[results,Tryz.results78,asAddr,b,c]
theorem X9(a:Option Addr)(n c:Nat)(xs:List Nat)(w:World)(h:RowAt w a n xs)(d:n<=1048576):Calls Tryz.prog 110 #[.slice a n c] w fun e w'=> ∃g,e=.returned (.pointer (some ⟨g,0,none⟩))/\Hid (w.heap.size<=g/\Az w' g w'.heap.size xs 0/\Below w.heap.size w w'):=
 (Zs a n c xs w h d).mono fun e w' ⟨g,b,h⟩=>⟨g,b,Ab h⟩
def Lr(w:World)(q:Nat)(u0 u3 u4 u5 u6 u7 u8 u9:Value):World:=((((((((w.setCell ⟨q,0,none⟩ u0).setCell ⟨q,3,none⟩ u3).setCell ⟨q,4,none⟩ u4).setCell ⟨q,5,none⟩ u5).setCell ⟨q,6,none⟩ u6).setCell ⟨q,7,none⟩ u7).setCell ⟨q,8,none⟩ u8).setCell ⟨q,9,none⟩ u9).drew
theorem BkA.drew(h:BkA T w g cs):BkA T w.drew g cs:=h
theorem BkA.putF{q:Nat}(h:BkA T w q [v0,v1,v2,v3,v4,v5,v6,v7,v8,v9])(u0 u3 u4 u5 u6 u7 u8 u9:Value):BkA T (Lr w q u0 u3 u4 u5 u6 u7 u8 u9) q [u0,v1,v2,u3,u4,u5,u6,u7,u8,u9]:=by
 have b:BkA T _ q [u0,v1,v2,v3,v4,v5,v6,v7,v8,v9]:=h.set 0 u0;have c:BkA T _ q [u0,v1,v2,u3,v4,v5,v6,v7,v8,v9]:=b.set 3 u3;have d:BkA T _ q [u0,v1,v2,u3,u4,v5,v6,v7,v8,v9]:=c.set 4 u4;have e:BkA T _ q [u0,v1,v2,u3,u4,u5,v6,v7,v8,v9]:=d.set 5 u5;have f:BkA T _ q [u0,v1,v2,u3,u4,u5,u6,v7,v8,v9]:=e.set 6 u6;have i:BkA T _ q [u0,v1,v2,u3,u4,u5,u6,u7,v8,v9]:=f.set 7 u7;have j:BkA T _ q [u0,v1,v2,u3,u4,u5,u6,u7,u8,v9]:=i.set 8 u8;have k:BkA T _ q [u0,v1,v2,u3,u4,u5,u6,u7,u8,u9]:=j.set 9 u9;unfold Lr;exact k.drew
theorem Tu.drew{F:Nat->Prop}(h:Tu F w w'):Tu F w w'.drew:=h.trans (Tu.of_below (F:=F) (Below.refl _ _).drew) fun _ _ e=>e
theorem qo(w:World)(q:Nat)(u0 u3 u4 u5 u6 u7 u8 u9:Value):Tu (fun j=>j=q) w (Lr w q u0 u3 u4 u5 u6 u7 u8 u9):=
 ((((((((Be w q 0 u0).trans (Be _ q 3 u3) fun _ _ e=>e).trans (Be _ q 4 u4) fun _ _ e=>e).trans (Be _ q 5 u5) fun _ _ e=>e).trans (Be _ q 6 u6) fun _ _ e=>e).trans (Be _ q 7 u7) fun _ _ e=>e).trans (Be _ q 8 u8) fun _ _ e=>e).trans (Be _ q 9 u9) fun _ _ e=>e).drew
theorem BkA.row{q:Nat}(h:BkA T w q cs)(c:RowAt w a n xs)(o:∀x∈cs,∀i,x≠ .int .u64 i){w':World}(ht:Tu (fun j=>j=q) w w'):RowAt w' a n xs:=by
 refine⟨c.1,c.2.1,?_⟩;rcases c.2.2 with l|⟨b,off,rfl,k⟩
 ·exact .inl l
 ·refine .inr ⟨b,off,rfl,fun i f=>ht.cell (k i f) fun e=>?_⟩
  have e:b=q:=e;have d:=k i f;subst e;unfold BkA at h;rw[cell_of_row w b _ _ _ _ h]at d;have m:cs[off+i]? =some (.int .u64 ((xs.getD i 0:Nat):Int)):=by simpa using d
  exact o _ (List.mem_of_getElem? m) _ rfl
theorem fP(g B:Nat)(n:Ao)(a:Option Addr)(dn dc:Nat)(L:List Nat)(w:World)(h:Al w g B n)(ht:Bt w)(al:∀r,n.src=some r->Cm n.id r)(hd:RowAt w a dn L)(a0:dn<=1048576):
  Calls Tryz.prog 78 #[.pointer (some ⟨g,0,none⟩),.slice a dn dc] w fun e w'=> ∃f:Bp,e=.returned f.val/\Fi n L f/\RowAt w' f.p.r.a f.p.r.n f.p.r.xs/\Below w.heap.size w w':=by
 have c0:=h.blk.at 0 rfl;have c1:=h.blk.at 1 rfl;have ak:=h.blk.lt;have H:=Ab h;have HT:=Ab ht;have ae:=Ab al;have a2:=h.num.1;have HW:=Ab (fun wx=>YT n.p.kd wx);have ad:=Ab (fun wx (hb:Below w.heap.size w wx)=>X9 a dn dc L wx (hd.below hb) a0);obtain⟨W,hW,X,B1⟩:∃W,W=w.alloc (.cells #[.int .i64 0,.int .i64 0,.int .i64 0,.int .i64 0,.int .i64 0,.int .i64 0,.int .i64 0,.int .i64 0,.slice none 0 0,.string ⟨#[]⟩] 157)/\BkA 157 W w.heap.size [.int .i64 0,.int .i64 0,.int .i64 0,.int .i64 0,.int .i64 0,.int .i64 0,.int .i64 0,.int .i64 0,.slice none 0 0,.string ⟨#[]⟩]/\Below w.heap.size w W:=⟨_,rfl,AN 157 w [_,_,_,_,_,_,_,_,_,_],Ax _ _⟩;have HX:=Ab X;have HB:=Ab B1;have c0:=(B1.cell ak).trans c0;have c1:=(B1.cell ak).trans c1;have ao:W.heap.size=w.heap.size+1:=by rw[hW,Bc]
 have a3:W.heap.size≠g:=by omega
 have a5:IntKind.i64.wrap (n.inc:Int)=(n.inc:Int):=by rw[IntKind.wrap_i64];omega
 have ax:=Ab ao;clear X B1 ht al hd h ao;go_enter Tryz.func78,Tryz.ntmps78;go_wp2_with fail;rw[<-hW];clear hW;go_cut [5] from 9 to 18 (fun t wx=> ∃q,t=.pointer (some ⟨q,0,none⟩)/\Hid (BkA 157 wx q [.int .i64 1,.int .i64 (n.id:Int),.int .i64 (n.inc:Int),.int .i64 0,.int .i64 0,.int .i64 0,.int .i64 0,.int .i64 0,.slice none 0 0,.string ⟨#[]⟩]/\W.heap.size<=q/\Below W.heap.size W wx))
 case first=>
  go_region_held3 (fun w'=>w'.cell? ⟨g,0,none⟩=some (.int .i64 (n.id:Int))/\w'.cell? ⟨g,1,none⟩=some (.int .u32 (n.inc:Int))) (go_keep) (first|fail);go_wp2_with fail;go_meet;exact⟨_,rfl,Ab ⟨AN 157 W [_,_,_,_,_,_,_,_,_,_],Nat.le_refl _,(Ax _ _).drew⟩⟩
 case rest=>
  obtain⟨q,rfl,A⟩:=hcut;rename_i wc;have z:=Ab (Ad (Aa HB) (Aa A).2.2);have Z:=Ab ((Aa H).below (Aa z));have e2:=(Aa Z).blk.at 2 rfl;have a1:q≠w.heap.size:=by have:=(Aa A).2.1;have:=Aa ax;omega
  clear c0 c1;generalize hO:C8 n L=O at*;have HO:=Ab hO;clear hO;cases O with
  |none=>
   go_wp2_with (first
    |(go_at_call 109;refine(Aa HW _).mono ?_;rintro e w1 ⟨rfl,P⟩;obtain rfl:=P.symm;clear P)
    |(go_at_call 110;refine(Aa ad _ (Aa z)).mono ?_;rintro e w2 ⟨R,rfl,b⟩;have Y:=Ab ((Aa Z).below (Aa b).2.2);have y:=Ab (Ad (Aa z) (Aa b).2.2);have aa:=Ab ((Aa A).1.below (Aa b).2.2);have ab:=Ab (((Aa HX).below (Aa A).2.2).below (Aa b).2.2))
    |fail)
   rw[Uz,Oper.upon_enter];refine(V8 g B R w2.heap.size n L w2 (Aa Y) ((Aa HT).below (Aa y)) (Aa ae) (Aa b).2.1 (Nat.le_refl _)).mono ?_;rw[Aa HO];rintro e w3 ⟨⟨u,o,m,x,l,j,s,k,qx,v⟩,rfl,K,N,d⟩;have E:w.heap.size<=R:=Nat.le_trans (Aa z).size (Aa b).1;have I:some q≠some R:=fun e=>by have:=(Aa A).1.lt;have:=(Aa b).1;have:=Option.some.inj e;omega
   have J:some w.heap.size≠some R:=fun e=>by have:=((Aa HX).below (Aa A).2.2).lt;have:=(Aa b).1;have:=Option.some.inj e;omega
   have c:=(Aa aa).kept d I;have Q:=(Aa ab).kept d J;have ah:=Ab N;have af:=Ab K;have V:=Ab ((Aa y).trans (QC d (Aa y).size E));have C:=Ab (fun ob=>c.below (Ax w3 ob));have ac:=Ab (fun ob=>Q.below (Ax w3 ob));have ag:=Ab c.lt;clear c Q N K d E I J;simp only[PKV.val,Option.isSome_none]
   go_wp2_with (first
    |((with_reducible refine PI 157 Tryz.underlying157 rfl JK 5 q _ ?_ (Aa C _) rfl ?_);(focus rfl))
    |((with_reducible refine K2 157 JK 4 37 w.heap.size _ [.int .i64 1,.int .i64 (n.id:Int),.int .i64 (n.inc:Int),.int .i64 0,.int .i64 0,.int .i64 0,.int .i64 0,.int .i64 0,.slice none 0 0,.string ⟨#[]⟩] ?_ ?_ (Aa ac _) rfl rfl ?_ ?_);(focus rfl);(focus rfl);(focus simp[Value.oneCell']);intro w4 ap am;have ay:=Ab ap;have aw:=Ab am;clear ap am)
    |fail)
   exact bodyPost_ret (Td rfl (Aa ay) rfl) rfl ⟨⟨1,n.id,n.inc,EQ⟩,rfl,⟨rfl,rfl,by rw[Aa HO];rfl,by rw[Aa HO];rfl⟩,Dv _,GX (Ad (Aa V) (Ax _ _)) (Aa aw) (Nat.le_refl _)⟩
  |some D=>
   go_wp2_with (first
    |(go_at_call 109;refine(Aa HW _).mono ?_;rintro e w1 ⟨rfl,P⟩;obtain rfl:=P.symm;clear P)
    |(go_at_call 110;refine(Aa ad _ (Aa z)).mono ?_;rintro e w2 ⟨R,rfl,b⟩;have Y:=Ab ((Aa Z).below (Aa b).2.2);have y:=Ab (Ad (Aa z) (Aa b).2.2);have aa:=Ab ((Aa A).1.below (Aa b).2.2);have ab:=Ab (((Aa HX).below (Aa A).2.2).below (Aa b).2.2))
    |fail)
   rw[Uz,Oper.upon_enter];refine(V8 g B R w2.heap.size n L w2 (Aa Y) ((Aa HT).below (Aa y)) (Aa ae) (Aa b).2.1 (Nat.le_refl _)).mono ?_;rw[Aa HO];rintro e w3 ⟨⟨u,o,m,x,l,j,s,k,qx,v⟩,rfl,K,N,d⟩;have E:w.heap.size<=R:=Nat.le_trans (Aa z).size (Aa b).1;have I:some q≠some R:=fun e=>by have:=(Aa A).1.lt;have:=(Aa b).1;have:=Option.some.inj e;omega
   have J:some w.heap.size≠some R:=fun e=>by have:=((Aa HX).below (Aa A).2.2).lt;have:=(Aa b).1;have:=Option.some.inj e;omega
   have c:=(Aa aa).kept d I;have Q:=(Aa ab).kept d J;have ah:=Ab N;have af:=Ab K;have V:=Ab ((Aa y).trans (QC d (Aa y).size E));have C:=Ab (fun ob=>c.below (Ax w3 ob));have ac:=Ab (fun ob=>Q.below (Ax w3 ob));have ag:=Ab c.lt;clear c Q N K d E I J;simp only[PKV.val,Option.isSome_some];have i:=Aa C (.cells #[.int .i64 u,.int .i64 o,.int .i64 m,.int .i64 x,.int .i64 l,.slice j s k,.string v] 75);have k0:=i.at 0 rfl;have k3:=i.at 3 rfl;have k4:=i.at 4 rfl;have k5:=i.at 5 rfl;have k6:=i.at 6 rfl;have k7:=i.at 7 rfl;have k8:=i.at 8 rfl;have k9:=i.at 9 rfl;have f0:=i.frz 0;have f3:=i.frz 3;have f4:=i.frz 4;have f5:=i.frz 5;have f6:=i.frz 6;have f7:=i.frz 7;have f8:=i.frz 8;have f9:=i.frz 9;have a4:w3.heap.size≠q:=Nat.ne_of_gt (Aa ag);have S:=qo (w3.alloc (.cells #[.int .i64 u,.int .i64 o,.int .i64 m,.int .i64 x,.int .i64 l,.slice j s k,.string v] 75)) q (.int .i64 2) (.int .i64 u) (.int .i64 o) (.int .i64 m) (.int .i64 x) (.int .i64 l) (.slice j s k) (.string v);have au:=Ab ((Aa C (.cells #[.int .i64 u,.int .i64 o,.int .i64 m,.int .i64 x,.int .i64 l,.slice j s k,.string v] 75)).putF (.int .i64 2) (.int .i64 u) (.int .i64 o) (.int .i64 m) (.int .i64 x) (.int .i64 l) (.slice j s k) (.string v));have aj:=Ab ((Aa ac (.cells #[.int .i64 u,.int .i64 o,.int .i64 m,.int .i64 x,.int .i64 l,.slice j s k,.string v] 75)).tu S fun e=>a1 e.symm);have av:=Ab ((Aa C (.cells #[.int .i64 u,.int .i64 o,.int .i64 m,.int .i64 x,.int .i64 l,.slice j s k,.string v] 75)).row ((Aa ah).below (Ax w3 (.cells #[.int .i64 u,.int .i64 o,.int .i64 m,.int .i64 x,.int .i64 l,.slice j s k,.string v] 75))) (by simp) S);have ar:=Ab (GX (Ad (Aa V) (Ax w3 (.cells #[.int .i64 u,.int .i64 o,.int .i64 m,.int .i64 x,.int .i64 l,.slice j s k,.string v] 75))) S (by have:=(Aa A).2.1;have:=(Aa HB).size;omega));clear S;clear i;go_wp2_with fail;go_region_law (first|fail)
   all_goals change Exit.then _ _ _ _ (Lr (w3.alloc (.cells #[.int .i64 u,.int .i64 o,.int .i64 m,.int .i64 x,.int .i64 l,.slice j s k,.string v] 75)) q (.int .i64 2) (.int .i64 u) (.int .i64 o) (.int .i64 m) (.int .i64 x) (.int .i64 l) (.slice j s k) (.string v))
   all_goals generalize Lr (w3.alloc (.cells #[.int .i64 u,.int .i64 o,.int .i64 m,.int .i64 x,.int .i64 l,.slice j s k,.string v] 75)) q (.int .i64 2) (.int .i64 u) (.int .i64 o) (.int .i64 m) (.int .i64 x) (.int .i64 l) (.slice j s k) (.string v)=w5 at*
   all_goals go_wp2_with (first
    |((with_reducible refine PI 157 Tryz.underlying157 rfl JK 5 q _ ?_ (Aa au) rfl ?_);(focus rfl))
    |((with_reducible refine K2 157 JK 4 37 w.heap.size _ [.int .i64 2,.int .i64 (n.id:Int),.int .i64 (n.inc:Int),.int .i64 u,.int .i64 o,.int .i64 m,.int .i64 x,.int .i64 l,.slice j s k,.string v] ?_ ?_ (Aa aj) rfl rfl ?_ ?_);(focus rfl);(focus rfl);(focus simp[Value.oneCell']);intro w6 aq an;have az:=Ab aq;have ai:=Ab an;clear aq an)
    |fail)
   all_goals exact bodyPost_ret (Td rfl (Aa az) rfl) rfl ⟨⟨2,n.id,n.inc,⟨u,o,m,x,l,⟨j,s,k,qx,v⟩⟩⟩,rfl,⟨rfl,rfl,by rw[Aa HO];rfl,by rw[Aa HO];exact Aa af⟩,(Aa aj).row (Aa av) (by simp) (Aa ai),GX (Aa ar) (Aa ai) (Nat.le_refl _)⟩
end Go.Proofs.YtfpmnekaockodaaGreatDoor
