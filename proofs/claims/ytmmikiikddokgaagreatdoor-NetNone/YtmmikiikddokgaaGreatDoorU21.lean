/-
  Laws that the proof stands on.
-/
import Derived.Test.YtmmikiikddokgaaGreatDoorU20
import Derived.WalkMore
namespace Go.Proofs.YtmmikiikddokgaaGreatDoor
open Go.RowKit Go.Sort
set_option linter.unusedVariables false
set_option linter.unusedSimpArgs false
set_option maxRecDepth 4000
set_option maxHeartbeats 8000000
variable {ps:List PKV}{i:Nat}
theorem ZC{w:World}(h:KsIn w ps):Ae w (ps.map PKV.r):=fun r a=>by
 obtain⟨p,hp,rfl⟩:=List.mem_map.1 a;exact h p hp
theorem Zl(ps:List PKV):vecsL (ps.map PKV.r)=vecsD (ps.map PKV.pd):=by
 unfold vecsL vecsD;rw[List.map_map,List.map_map];rfl
theorem aU(a:i<ps.length):(ps.map PKV.r).getD i .dflt=(ps.getD i .dflt).r:=by
 rw[List.getD_eq_getElem?_getD,List.getElem?_map,List.getElem?_eq_getElem a,List.getD_eq_getElem?_getD,List.getElem?_eq_getElem a];rfl
theorem fC(g B m:Nat)(v:Value)(ps:List PKV)(w:World)(h:Ay w g B m v ps):
  Calls Tryz.prog 350 #[.pointer (some ⟨g,0,none⟩)] w fun e w'=> ∃v',e=.returned v'/\CP w' w.heap.size v' (ps.map PKV.r)/\Below w.heap.size w w':=by
 have af:=h.len.2;obtain⟨a,c,rfl,R, -, -⟩:=h.at;have ag:=QF ps.length (by omega);have y:Below w.heap.size w (w.alloc (.cells (madeCells #[.slice none 0 0] ps.length) 40)):=(Below.refl _ _).alloc (Nat.le_refl _) _;obtain⟨k0,k1⟩:=h.cells (Below.refl _ _);obtain⟨j0,j1⟩:=h.cells y;have W:=Ab R;obtain⟨q,f⟩:∃q,q=ps.map PKV.r:=⟨_,rfl⟩;have d:q.length=ps.length:=by rw[f,List.length_map]
 have H:=QE w ps.length (by omega);rw[<-d,<-Sv,d]at H;have H:=Ab H;have G:=Ab y;have V:=Ab f;have u:=Ab d;rw[<-f];clear h R y f d;go_enter Tryz.func350,Tryz.ntmps350;go_wp2;go_loopw [17] (fun i wr=> ∃k:Nat,k<=ps.length/\i=.int .i64 k/\Hid (wr.ownsRow w.heap.size 40 1 (.slice (some ⟨w.heap.size,0,none⟩) ps.length ps.length) ps.length (ER q k))/\Hid (Below w.heap.size w wr)) (fun i _=>ps.length-(intOf i).toNat)
 case atStart=>exact⟨0,Nat.zero_le _,rfl,H,G⟩
 case round=>
  obtain⟨k,hk,rfl,N,L⟩:=hrel;clear H G;by_cases C:k<ps.length
  ·obtain⟨b,off,rfl,J⟩:=((Aa W).below (Aa L)).at C
   obtain⟨X,Y,Z,aa,ab,ac,ad⟩:=J k C;have S:(k:Int)<(ps.length:Int):=by omega
   have E:=Aa u;have Q:=Su q k (by omega);rw[show q.getD k .dflt=(ps.getD k .dflt).r from by rw[Aa V];exact aU C]at Q;have K:(ER q k)[k]? =some (.slice none 0 0):=by
    unfold ER;have hl:((q.take k).map fun r=>Value.slice r.a r.n r.c).length=k:=by simp;omega
    rw[List.getElem?_append_right (by omega),hl,Nat.sub_self,List.getElem?_replicate,if_pos (by omega)]
   clear E;generalize ps.getD k .dflt=p at*;have x:Below wr.heap.size wr (wr.alloc (.cells #[.int .i64 p.o,.int .i64 p.l,.int .i64 p.k,.int .i64 p.z,.int .i64 p.h,.slice p.r.a p.r.n p.r.c,.string p.r.s] 75)):=(Below.refl _ _).alloc (Nat.le_refl _) _;have j:=Ka (Aa N) x;have A:=j.cellAt k (by omega);rw[K]at A;have ae:=j.frozenAt k;have D:=(j.stored k (.slice p.r.a p.r.n p.r.c)).1;rw[Q]at D;have I:=(Ad (Aa L) x).setCell (p:=⟨w.heap.size,k,none⟩) (Nat.le_refl _) (.slice p.r.a p.r.n p.r.c);obtain⟨ah,ai,aj,ak,al,am,an⟩:=Fk wr (.int .i64 p.o) (.int .i64 p.l) (.int .i64 p.k) (.int .i64 p.z) (.int .i64 p.h) (.slice p.r.a p.r.n p.r.c) (.string p.r.s);have T:=Ab D;have O:=Ab I;clear J j D I x Q K N L;go_wp2;go_roundw
   case rel=>exact⟨k+1,by omega,by go_num,T,O⟩
   case measure=>simp[intOf];omega
  ·obtain rfl:k=ps.length:=by omega
   have j:=Aa N;rw[<-Aa u,TT]at j;have P:=Ab j;clear j N;go_wp2;go_ret;exact⟨_,rfl,by rw[<-Aa u];exact Aa P,Aa L⟩
def Ez(ps:List PKV):List Int:=ps.map fun p=>(cnt p.r.xs:Int)
theorem IX(ps:List PKV):(Ez ps).length=ps.length:=by simp[Ez]
theorem S7(a:i<ps.length):(Ez ps).getD i 0=(cnt (ps.getD i .dflt).r.xs:Int):=by
 unfold Ez;rw[List.getD_eq_getElem?_getD,List.getElem?_map,List.getElem?_eq_getElem a,List.getD_eq_getElem?_getD,List.getElem?_eq_getElem a];rfl
theorem kE(a:i<ps.length):(Ez ps).getD i 0=(degD (ps.map PKV.pd) i:Int):=by
 rw[S7 a];unfold degD;rw[Lh a];rfl
theorem fB(g B m:Nat)(v:Value)(ps:List PKV)(w:World)(h:Ay w g B m v ps):
  Calls Tryz.prog 351 #[.pointer (some ⟨g,0,none⟩)] w fun e w'=> ∃v',e=.returned v'/\Am w' w.heap.size v' (Ez ps)/\Below w.heap.size w w':=by
 have ai:=h.len.2;obtain⟨a,c,rfl,Q, -, -⟩:=h.at;have aj:=LS ps.length (by omega);have x:Below w.heap.size w (w.alloc (.cells (madeCells #[.int .i64 0] ps.length) 3)):=(Below.refl _ _).alloc (Nat.le_refl _) _;obtain⟨k0,k1⟩:=h.cells (Below.refl _ _);obtain⟨j0,j1⟩:=h.cells x;have X:=Ab Q;have W:=Ab (LR w ps.length (by omega) (Df (Ez ps) 0) (by rw[Nr,IX]));have D:=Ab x
 have O:Hid (∀i,i<ps.length->(ps.getD i .dflt).r.n<=1048576):=Ab fun i T=>by
  have Z:=(h.inv.get (i:=i) (by rw[List.length_map];exact T)).1;rw[Lh T]at Z;have h2:=JN Z;have h3:=(Q.2.1 i T).1;have h4:(ps.getD i .dflt).r.xs.length<=2:=h2;omega
 clear h Q x;go_enter Tryz.func351,Tryz.ntmps351;go_wp2;go_loopw [17] (fun i wr=> ∃k:Nat,k<=ps.length/\i=.int .i64 k/\Hid (Am wr w.heap.size (.slice (some ⟨w.heap.size,0,none⟩) ps.length ps.length) (Df (Ez ps) k))/\Hid (Below w.heap.size w wr)) (fun i _=>ps.length-(intOf i).toNat)
 case atStart=>exact⟨0,Nat.zero_le _,rfl,W,D⟩
 case round=>
  obtain⟨k,hk,rfl,J,C⟩:=hrel;clear W D;by_cases d:k<ps.length
  ·obtain⟨b,off,rfl,G⟩:=((Aa X).below (Aa C)).at d
   obtain⟨ab,ac,ad,ae,af,ag,ah⟩:=G k d;have q:=((Aa X).below (Aa C)).2.1 k d;have I:=Aa O k d;have aa:(k:Int)<(ps.length:Int):=by omega
   have R:=Nq (Ez ps) k (by rw[IX];exact d);rw[S7 d]at R;have y:=Ls (Ez ps) k (by rw[IX];omega);rw[IX]at y;generalize ps.getD k .dflt=p at*;have j:Below wr.heap.size wr (wr.alloc (.cells #[.int .i64 p.o,.int .i64 p.l,.int .i64 p.k,.int .i64 p.z,.int .i64 p.h,.slice p.r.a p.r.n p.r.c,.string p.r.s] 75)):=(Below.refl _ _).alloc (Nat.le_refl _) _;have L:=Ab (GC p.r.a p.r.n p.r.c p.r.xs _ (q.below j) I);have u:=(Aa J).below j;obtain⟨g1,Y,P,S, -,f,H⟩:=u.at (by omega);rw[y]at P;simp only[Value.slice.injEq,Option.some.injEq,Addr.mk.injEq,and_true,true_and]at P;obtain⟨rfl,rfl⟩:=P;have f:=f k (by omega);have H:=H k;have A:=u.stored k (cnt p.r.xs:Int);rw[R]at A;have E:=(Ad (Aa C) j).setCell (p:=⟨w.heap.size,k,none⟩) (Nat.le_refl _) (.int .i64 (cnt p.r.xs:Int));obtain⟨ak,al,am,an,ao,ap,aq⟩:=Fk wr (.int .i64 p.o) (.int .i64 p.l) (.int .i64 p.k) (.int .i64 p.z) (.int .i64 p.h) (.slice p.r.a p.r.n p.r.c) (.string p.r.s);have HS:=Ab A;have K:=Ab E;clear G u A E j R y J C q I S;generalize (Df (Ez ps) k).getD k 0=zz at*;go_wp2_with (go_at_call 180;refine(Aa L).mono ?_;rintro e w2 ⟨rfl,V⟩;subst V);go_roundw
   case rel=>exact⟨k+1,by omega,by go_num,HS,K⟩
   case measure=>simp[intOf];omega
  ·obtain rfl:k=ps.length:=by omega
   have u:=Aa J;rw[show Df (Ez ps) ps.length=Ez ps from by rw[<-IX ps,NI]]at u;have N:=Ab u;clear u J;go_wp2;go_ret;exact⟨_,rfl,Aa N,Aa C⟩
theorem fD(g B m:Nat)(v:Value)(ps:List PKV)(w:World)(h:Ay w g B m v ps)(s:0<ps.length):
  Calls Tryz.prog 346 #[.pointer (some ⟨g,0,none⟩)] w fun e w'=>e=.returned (.int .i64 (goesTo (ps.map PKV.pd) ps.length:Int))/\Below w.heap.size w w':=by
 have af:=h.len.2;obtain⟨a,c,rfl,hP, -, -⟩:=h.at;have W:=Ab (fB g B m _ ps w h);have V:=Ab (fun(w':World) (hb:Below w.heap.size w w')=>h.cells hb);have X:=Ab hP
 have N:Hid (∀i,i<ps.length->(degD (ps.map PKV.pd) i:Int)<=(ps.getD 0 .dflt).k/\(ps.getD 0 .dflt).k<=128):=Ab fun i I=>by
  have:=h.inv.deg (i:=i) (by rw[List.length_map];exact I);rw[Lh s]at this;exact this
 have Y:Hid (∀(w1:World) (G:Value),Am w1 w.heap.size G (Ez ps)->∃y l,G=.slice (some ⟨y,0,none⟩) ps.length l/\∀i,i<ps.length->w1.cell? ⟨y,i,none⟩=some (.int .i64 (degD (ps.map PKV.pd) i:Int))):=Ab fun w1 G q=>by
  obtain⟨y,l,Z, -, -,A, -⟩:=q.at (by rw[IX];exact s);rw[IX]at A Z;exact⟨y,l,Z,fun i I=>by rw[A i I,kE I]⟩
 clear h hP;generalize ps.map PKV.pd=L at*;generalize ps.length=n at*;go_enter Tryz.func346,Tryz.ntmps346;go_wp2_with fail;go_step3;go_wp2_with fail;refine(Aa W).mono ?_;rintro e w1 ⟨G,rfl,q,p⟩;obtain⟨y,l,rfl,C⟩:=Aa Y w1 G q;obtain⟨k0,k1⟩:=Aa V w1 p;obtain⟨b,off,rfl,z⟩:=((Aa X).below p).at s;obtain⟨-, -,hk, -, -, -, -⟩:=z 0 s;rw[Nat.zero_mul,Nat.add_zero]at hk;have u:=Ab p;have J:=Ab C;have ac:(0:Int)<(n:Int):=by omega
 obtain⟨S,T⟩:=Aa N 0 s;obtain⟨D,hD⟩:∃D:Nat,(ps.getD 0 .dflt).k=(D:Int):=⟨(ps.getD 0 .dflt).k.toNat,by omega⟩;have Q:D<=128:=by omega
 have x:Hid (∀j,j<n->degD L j<=D):=Ab fun j o=>by have:=(Aa N j o).1;omega
 rw[hD]at hk;clear z W V X N q p C S T hD Y;go_wp2;go_step3;go_wp2;go_loop [4,5] (fun pl i=> ∃d:Nat,d<=128/\pl=.int .i64 0/\i=.int .i64 d/\Hid (∀j,j<n->degD L j<=d)) (fun _ i=>(intOf i).toNat)
 case atStart=>exact⟨D,Q,rfl,rfl,x⟩
 case round=>
  obtain⟨d,hd,rfl,rfl,f⟩:=hrel;clear x;by_cases ad:0<d
  ·have aa:(0:Int)<(d:Int):=by omega
   go_wp2;go_loop [4,22] (fun pl i=> ∃k:Nat,k<=n/\pl=.int .i64 0/\i=.int .i64 k/\Hid (∀j,j<k->degD L j≠d)) (fun _ i=>n-(intOf i).toNat)
   case atStart=>exact⟨0,Nat.zero_le _,rfl,rfl,Ab (fun j o=>by omega)⟩
   case round=>
    obtain⟨k,ae,rfl,rfl,r⟩:=hrel;by_cases E:k<n
    ·have ab:(k:Int)<(n:Int):=by omega
     have hc:=Aa J k E;by_cases H:degD L k=d
     ·have R:((degD L k:Int)==(d:Int))=true:=by rw[beq_iff_eq];omega
      have K:Hid (goesTo L n=k):=Ab (RM E (fun j o=>by rw[H];exact Aa f j o) fun j o=>by
       have h1:=Aa f j (by omega);have h2:=Aa r j o;omega)
      clear H f r;go_wp2
      (try rw[Exit.noGoto_ret])
      go_ret;exact⟨by rw[Aa K];rfl,Aa u⟩
     ·have R:((degD L k:Int)==(d:Int))=false:=by rw[beq_eq_false_iff_ne];omega
      have P:Hid (∀j,j<k+1->degD L j≠d):=Ab fun j o=>by
       by_cases e:j=k
       ·rw[e];exact H
       ·exact Aa r j (by omega)
      clear H r;go_wp2;go_round
      case rel=>exact⟨k+1,by omega,rfl,by go_num,P⟩
      case measure=>simp[intOf];omega
    ·have O:Hid (∀j,j<n->degD L j<=d-1):=Ab fun j o=>by
      have h1:=Aa f j o;have h2:=Aa r j (by omega);omega
     clear f r;go_wp2;go_round
     case rel=>exact⟨d-1,by omega,rfl,by go_num,O⟩
     case measure=>simp[intOf];omega
  ·obtain rfl:d=0:=by omega
   have K:Hid (goesTo L n=0):=Ab (RM s (fun j o=>by have:=Aa f j o;omega) fun j o=>by omega);clear f;go_wp2
   (try rw[Exit.noGoto_ret])
   go_ret;exact⟨by rw[Aa K];rfl,Aa u⟩
theorem I7(w:World)(p:PKV):Below w.heap.size w (w.alloc (.cells #[.int .i64 p.o,.int .i64 p.l,.int .i64 p.k,.int .i64 p.z,.int .i64 p.h,.slice p.r.a p.r.n p.r.c,.string p.r.s] 75)):=(Below.refl _ _).alloc (Nat.le_refl _) _
theorem RT(g B m:Nat)(v:Value)(ps:List PKV)(p:PKV)(w:World)(h:Ay w g B m v ps):
  Calls Tryz.prog 348 #[.pointer (some ⟨g,0,none⟩),p.val] w fun e w'=>e=.returned (.bool (alkH (ps.map PKV.pd) p.pd))/\Below w.heap.size w w':=by
 unfold PKV.val;have ab:=h.len.2;have j:=I7 w p;have D:=h.below j;obtain⟨V,X,Y,Z,q4,q5,q6⟩:=Fk w (.int .i64 p.o) (.int .i64 p.l) (.int .i64 p.k) (.int .i64 p.z) (.int .i64 p.h) (.slice p.r.a p.r.n p.r.c) (.string p.r.s);generalize hW:w.alloc (.cells #[.int .i64 p.o,.int .i64 p.l,.int .i64 p.k,.int .i64 p.z,.int .i64 p.h,.slice p.r.a p.r.n p.r.c,.string p.r.s] 75)=W at*;obtain⟨a,c,rfl,R, -, -⟩:=D.at;obtain⟨k0,T⟩:=D.cells (Below.refl _ _);have r1:=cell_regrown T;have s0:=cell_regrown V;have s1:=cell_regrown X;have s2:=cell_regrown Y;have s3:=cell_regrown Z;have s4:=cell_regrown q4;have s5:=cell_regrown q5;have s6:=cell_regrown q6;have x:=Ab j;have aa:Tryz.prog.eqGuardType Tryz.prog.depth 423=false:=by kernel_rfl
 have H:=Ab (Cq (W:=W) (fun w' hb=>UK p w'));unfold PKV.val at H;cases ps with
 |nil=>
  clear h D j R k0 T V X Y Z q4 q5 q6 H;go_enter Tryz.func348,Tryz.ntmps348;go_wp2_with fail;refine wp_region_quiet_below (by kernel_rfl) (by kernel_rfl) ?_
  repeat (with_reducible refine wpQuiet_step (fun K u=>?_);go_simp;first|(with_reducible refine u _ ?_;clear u K))
  refine wpQuiet_nil ?_;intro w3 d;obtain⟨⟨y,f⟩,d⟩:=d;have G:=Ab (Ad (Aa x) (show Below W.heap.size W w3 by rw[d];exact below_regrown _ y f));clear d y f;go_wp2;go_ret;exact⟨rfl,Aa G⟩
 |cons q E=>
  obtain⟨b,off,rfl,C⟩:=R.at (i:=0) (by simp);obtain⟨I,J,L,N,O,P,Q⟩:=C 0 (by simp);simp only[Nat.zero_mul,Nat.add_zero,List.getD_cons_zero]at I J L N O P Q;have y0:=cell_regrown I;have y1:=cell_regrown J;have y2:=cell_regrown L;have y3:=cell_regrown N;have y4:=cell_regrown O;have y5:=cell_regrown P;have y6:=cell_regrown Q;have cQ:=Ab (Cq (W:=W) (fun w' hb=>UK q w'));unfold PKV.val at cQ;have S:=Yo p.o p.l p.k p.z q.o q.l q.k q.z;have A:decide (p.o=q.o/\p.l=q.l/\p.k=q.k/\p.z=q.z)=alkH ((q::E).map PKV.pd) p.pd:=by
   show _=Bv q.pd p.pd;unfold Bv;rw[decide_eq_decide];exact⟨fun h=>⟨h.1.symm,h.2.1.symm,h.2.2.1.symm,h.2.2.2.symm⟩,fun h=>⟨h.1.symm,h.2.1.symm,h.2.2.1.symm,h.2.2.2.symm⟩⟩
  rw[A]at S;generalize alkH ((q::E).map PKV.pd) p.pd=AL at*;have ac:0<(q::E).length:=Nat.succ_pos _;clear h D j R k0 T V X Y Z q4 q5 q6 C I J L N O P Q A;generalize (q::E).length=n at*;have ad:(0:Int)<(n:Int):=by omega
  have hd:((n:Int)==0)=false:=by rw[beq_eq_false_iff_ne];omega
  go_enter Tryz.func348,Tryz.ntmps348;go_wp2_with fail;refine wp_region_quiet_below (by kernel_rfl) (by kernel_rfl) ?_
  repeat (with_reducible refine wpQuiet_step (fun K u=>?_);go_simp;first|(with_reducible refine u _ ?_;clear u K)|(apply Exists.intro;apply And.intro;(intro _;(go_at_call 352;first|with_reducible exact Aa H _ _|with_reducible exact Aa cQ _ _));with_reducible refine u _ ?_;clear u K))
  refine wpQuiet_nil ?_;intro w3 d;obtain⟨⟨y,f⟩,d⟩:=d;have G:=Ab (Ad (Aa x) (show Below W.heap.size W w3 by rw[d];exact below_regrown _ y f));clear d y f;go_wp2;go_ret;exact⟨rfl,Aa G⟩
theorem dj(g B m:Nat)(v:Value)(ps:List PKV)(p:PKV)(w:World)(ht:Tab w)(h:Ay w g B m v ps)(Y:RowAt w p.r.a p.r.n p.r.xs)(hn:p.r.n<=10):
  Calls Tryz.prog 345 #[.pointer (some ⟨g,0,none⟩),p.val] w fun e w'=>e=.returned (.bool (DA m (ps.map PKV.pd) p.pd))/\Below w.heap.size w w':=by
 unfold PKV.val;have ac:=h.len.2;have j:=I7 w p;have C:=h.below j;have u:=Y.below j;have D:=ht.below j;have J:=Fk w (.int .i64 p.o) (.int .i64 p.l) (.int .i64 p.k) (.int .i64 p.z) (.int .i64 p.h) (.slice p.r.a p.r.n p.r.c) (.string p.r.s);generalize hW:w.alloc (.cells #[.int .i64 p.o,.int .i64 p.l,.int .i64 p.k,.int .i64 p.z,.int .i64 p.h,.slice p.r.a p.r.n p.r.c,.string p.r.s] 75)=W at*;obtain⟨q0,q1,q2,q3,q4,q5,q6⟩:=id J;obtain⟨L, -⟩:=C.cells (Below.refl _ _);have E:=Ab j;have f:Hid (DA m (ps.map PKV.pd) p.pd=(decide (0<m)&&BO p.pd&&alkH (ps.map PKV.pd) p.pd&&Fj (vecsD (ps.map PKV.pd)) p.r.xs)):=Ab rfl;by_cases hm:0<m
 ·have hd:decide ((0:Int)<(m:Int))=true:=by simp;omega
  cases q:BO p.pd
  ·have r0:=cell_regrown L
   have s0:=cell_regrown q0;have s1:=cell_regrown q1;have s2:=cell_regrown q2;have s3:=cell_regrown q3;have s4:=cell_regrown q4;have s5:=cell_regrown q5;have s6:=cell_regrown q6;have cC:=Ab (Cq (W:=W) (fun w' d=>EL p.o p.l p.k p.z p.h p.r.a p.r.n p.r.c p.r.xs p.r.s w' (u.below d) 1 (PQ q)));have H:Hid (DA m (ps.map PKV.pd) p.pd=false):=Ab (by rw[Aa f,q];simp);clear h Y ht C u D j J q0 q1 q2 q3 q4 q5 q6 L q f;generalize DA m (ps.map PKV.pd) p.pd=T at*;go_enter Tryz.func345,Tryz.ntmps345;go_wp2_with fail;refine wp_region_quiet_below (by kernel_rfl) (by kernel_rfl) ?_
   repeat (with_reducible refine wpQuiet_step (fun K A=>?_);go_simp;first|(with_reducible refine A _ ?_;clear A K)|(apply Exists.intro;apply And.intro;(intro _;(go_at_call 121;exact Aa cC _ _));with_reducible refine A _ ?_;clear A K))
   refine wpQuiet_nil ?_;intro w3 b;obtain⟨⟨G,x⟩,b⟩:=b;have N:=Ab (Ad (Aa E) (show Below W.heap.size W w3 by rw[b];exact below_regrown _ G x));clear b G x;go_wp2;go_ret;exact⟨by rw[Aa H];rfl,Aa N⟩
  ·cases y:alkH (ps.map PKV.pd) p.pd
   ·have r0:=cell_regrown L
    have s0:=cell_regrown q0;have s1:=cell_regrown q1;have s2:=cell_regrown q2;have s3:=cell_regrown q3;have s4:=cell_regrown q4;have s5:=cell_regrown q5;have s6:=cell_regrown q6;have cC:=Ab (Cq (W:=W) (fun w' d=>EL p.o p.l p.k p.z p.h p.r.a p.r.n p.r.c p.r.xs p.r.s w' (u.below d) 0 (My q)));have P:=Cq (W:=W) (fun w' d=>RT g B m v ps p w' (C.below d));rw[y]at P;unfold PKV.val at P;have P:=Ab P;have H:Hid (DA m (ps.map PKV.pd) p.pd=false):=Ab (by rw[Aa f,y];simp);clear h Y ht C u D j J q0 q1 q2 q3 q4 q5 q6 L q y f;generalize DA m (ps.map PKV.pd) p.pd=T at*;go_enter Tryz.func345,Tryz.ntmps345;go_wp2_with fail;refine wp_region_quiet_below (by kernel_rfl) (by kernel_rfl) ?_
    repeat (with_reducible refine wpQuiet_step (fun K A=>?_);go_simp;first|(with_reducible refine A _ ?_;clear A K)|(apply Exists.intro;apply And.intro;(intro _;first|(go_at_call 121;exact Aa cC _ _)|(go_at_call 348;exact Aa P _ _));with_reducible refine A _ ?_;clear A K))
    refine wpQuiet_nil ?_;intro w3 b;obtain⟨⟨G,x⟩,b⟩:=b;have N:=Ab (Ad (Aa E) (show Below W.heap.size W w3 by rw[b];exact below_regrown _ G x));clear b G x;go_wp2;go_ret;exact⟨by rw[Aa H];rfl,Aa N⟩
   ·have HC:=Ab (fun wx (d:Below W.heap.size W wx)=>EL p.o p.l p.k p.z p.h p.r.a p.r.n p.r.c p.r.xs p.r.s wx (u.below d) 0 (My q))
    have O:=(fun wx (d:Below W.heap.size W wx)=>RT g B m v ps p wx (C.below d));rw[y]at O;unfold PKV.val at O;have O:=Ab O;have HR:=Ab (fun wx (d:Below W.heap.size W wx)=>fC g B m v ps wx (C.below d));have HF:=Ab (fun wx I c1 (d:Below W.heap.size W wx) (Z:VecsAt wx I ps.length (vecsD (ps.map PKV.pd)))=>jy I ps.length c1 (vecsD (ps.map PKV.pd)) p.r.a p.r.n p.r.c p.r.xs wx (D.below d) Z C.inv.fit (u.below d) (by omega) (by omega))
    have HV:Hid (∀wx v1 B1,Below W.heap.size W wx->CP wx B1 v1 (ps.map PKV.r)->∃I c1,v1=.slice I ps.length c1/\VecsAt wx I ps.length (vecsD (ps.map PKV.pd))):=Ab fun wx v1 B1 d ho=>by
     obtain⟨I,c1,e,Z⟩:=ho.vecs (ZC (C.rows.ks.below d));rw[List.length_map]at e Z;rw[Zl]at Z;exact⟨I,c1,e,Z⟩
    have HQ:=Ab (fun wx (d:Below W.heap.size W wx)=>show _/\_ from⟨(C.cells d).1,J.below d⟩);have H:Hid (DA m (ps.map PKV.pd) p.pd=Fj (vecsD (ps.map PKV.pd)) p.r.xs):=Ab (by rw[Aa f,y,q,decide_eq_true hm];rfl);clear h Y ht C u D j J q y f;generalize DA m (ps.map PKV.pd) p.pd=T at*;generalize Fj (vecsD (ps.map PKV.pd)) p.r.xs=FR at*;go_enter Tryz.func345,Tryz.ntmps345;go_wp2_with fail
    go_region_held3 (fun w'=>w'.cell? ⟨g,0,none⟩=some (.int .i64 (m:Int))/\w'.cell? ⟨w.heap.size,0,none⟩=some (.int .i64 p.o)/\w'.cell? ⟨w.heap.size,1,none⟩=some (.int .i64 p.l)/\w'.cell? ⟨w.heap.size,2,none⟩=some (.int .i64 p.k)/\w'.cell? ⟨w.heap.size,3,none⟩=some (.int .i64 p.z)/\w'.cell? ⟨w.heap.size,4,none⟩=some (.int .i64 p.h)/\w'.cell? ⟨w.heap.size,5,none⟩=some (.slice p.r.a p.r.n p.r.c)/\w'.cell? ⟨w.heap.size,6,none⟩=some (.string p.r.s)) (go_keep) (first
     |(go_at_call 121;refine(Aa HC _ (Below.refl _ _).drew).mono ?_;rintro e w1 ⟨rfl,Q⟩;have D1:=Ab (show Below W.heap.size W w1 from Ad (Below.refl _ _).drew Q);obtain⟨u0,t0,t1,t2,t3,t4,t5,t6⟩:=Aa HQ w1 (Aa D1);clear Q)
     |(go_at_call 348;refine(Aa O _ (Aa D1)).mono ?_;rintro e w2 ⟨rfl,R⟩;have D2:=Ab (Ad (Aa D1) R);obtain⟨u0,t0,t1,t2,t3,t4,t5,t6⟩:=Aa HQ w2 (Aa D2);clear R)
     |(go_at_call 350;refine(Aa HR _ (Aa D2)).mono ?_;rintro e w3 ⟨v3,rfl,X,S⟩;have D3:=Ab (Ad (Aa D2) S);obtain⟨a3,c3,rfl,aa⟩:=Aa HV w3 v3 _ (Aa D3) X;have ab:=Ab aa;obtain⟨u0,t0,t1,t2,t3,t4,t5,t6⟩:=Aa HQ w3 (Aa D3);clear S X aa)
     |(go_at_call 349;refine(Aa HF _ a3 c3 (Aa D3) (Aa ab)).mono ?_;rintro e w4 ⟨rfl,V⟩;have D4:=Ab (Ad (Aa D3) V);obtain⟨u0,t0,t1,t2,t3,t4,t5,t6⟩:=Aa HQ w4 (Aa D4);clear V))
    all_goals go_wp2
    all_goals go_ret
    all_goals exact⟨by rw[Aa H];rfl,Ad (Aa E) (Aa D4)⟩
 ·obtain rfl:m=0:=by omega
  have r0:=cell_regrown L;have H:Hid (DA 0 (ps.map PKV.pd) p.pd=false):=Ab (by rw[Aa f];rfl);clear h Y ht C u D j J q0 q1 q2 q3 q4 q5 q6 L f;generalize DA 0 (ps.map PKV.pd) p.pd=T at*;go_enter Tryz.func345,Tryz.ntmps345;go_wp2_with fail;refine wp_region_quiet_below (by kernel_rfl) (by kernel_rfl) ?_
  repeat (with_reducible refine wpQuiet_step (fun K A=>?_);go_simp;first|(with_reducible refine A _ ?_;clear A K))
  refine wpQuiet_nil ?_;intro w3 b;obtain⟨⟨G,x⟩,b⟩:=b;have N:=Ab (Ad (Aa E) (show Below W.heap.size W w3 by rw[b];exact below_regrown _ G x));clear b G x;go_wp2;go_ret;exact⟨by rw[Aa H];rfl,Aa N⟩
theorem iB(w:World)(h:TypeId)(g o c:Nat)(e:∀j,j<7->(w.cell? ⟨g,o+j,none⟩).isSome=true)(f:∀j,j<7->w.frozen? ⟨g,o+j,none⟩=false):
  (Builtin.clear_ #[69] h #[.slice (some ⟨g,o,none⟩) 1 c]).run Tryz.prog w=.ok (.tuple #[]) (w.setCells g o zK.cells):=by
 have a:=run_storeCells_cells (P:=Tryz.prog) g o zK.cells 0 w (fun j b=>by rw[Nat.add_zero];exact e j b) (fun j b=>by rw[Nat.add_zero];exact f j b) (LD zK);simp only[Nat.add_zero]at a;have d:(Builtin.zeroCells (Value.agg #[.int .i64 0,.int .i64 0,.int .i64 0,.int .i64 0,.int .i64 0,.slice none 0 0,.string ⟨#[]⟩]).cells 1).toList=zK.cells:=by
  simp[Builtin.zeroCells,Value.cells];rfl
 simp[Builtin.clear_,run_underlying Tryz.underlying69,d,a]
theorem RU(ps:List PKV)(i:Nat)(b:i<=ps.length):(cellsK ps).take (i*7)=cellsK (ps.take i)/\(cellsK ps).drop (i*7)=cellsK (ps.drop i):=by
 have e:cellsK ps=cellsK (ps.take i)++cellsK (ps.drop i):=by rw[<-J4,List.take_append_drop]
 have a:(cellsK (ps.take i)).length=i*7:=by rw[H9,List.length_take,Nat.min_eq_left b]
 rw[e];exact⟨by rw[<-a];exact List.take_left,by rw[<-a];exact List.drop_left⟩
theorem Yh{w:World}{B g cap:Nat}(h:OwnP w B (.slice (some ⟨g,0,none⟩) ps.length cap) ps){i:Nat}(u:i<ps.length):
  OwnP ((w.drew.setCells g (i*7) (cellsK (ps.drop (i+1)))).setCells g ((ps.length-1)*7) zK.cells) B (.slice (some ⟨g,0,none⟩) (ps.length-1) cap) (ps.eraseIdx i)/\
   w.grownBy ((w.drew.setCells g (i*7) (cellsK (ps.drop (i+1)))).setCells g ((ps.length-1)*7) zK.cells) (some g):=by
 have k:w.grownBy ((w.drew.setCells g (i*7) (cellsK (ps.drop (i+1)))).setCells g ((ps.length-1)*7) zK.cells) (some g):=
  By (By (JI (Ge w _)) (Gy g _ _ w.drew) (.inl rfl)) (Gy g _ _ _) (.inl rfl)
 refine⟨?_,k⟩;rcases h.2 with⟨e,_⟩|⟨g',n,d,e,r,s,C,x,m,ht⟩
 ·cases e
 simp only[Value.slice.injEq,Option.some.injEq,Addr.mk.injEq,and_true,true_and]at e;obtain⟨rfl,rfl⟩:=e;have b:=List.length_eraseIdx_of_lt u;obtain⟨c1,o,p,q⟩:=Gz g 75 (cellsK (ps.drop (i+1))) (i*7) w.drew d s;obtain⟨c2,y,z,A⟩:=Gz g 75 zK.cells ((ps.length-1)*7) _ c1 o;refine⟨by rw[H9],.inr ⟨g,cap,c2,by rw[b],r,y,by omega,x,by rw[z,p,m],?_⟩⟩;have a:(cellsK (ps.drop (i+1))).length=(ps.length-(i+1))*7:=by rw[H9,List.length_drop]
 have f:cellsK (ps.eraseIdx i)=(cellsK ps).take (i*7)++cellsK (ps.drop (i+1)):=by
  rw[List.eraseIdx_eq_take_drop_succ,J4,(RU ps i (by omega)).1]
 have c:((cellsK ps).take (i*7)).length=i*7:=by rw[List.length_take,H9];omega
 rw[f,b];apply List.ext_getElem?;intro j;by_cases v:j<(ps.length-1)*7
 ·rw[List.getElem?_take,if_pos v,Array.getElem?_toList,A j (by omega),if_neg (by omega),q j (by omega),a]
  by_cases l:j<i*7
  ·rw[if_neg (by omega),List.getElem?_append_left (by omega),List.getElem?_take,if_pos l,<-ht,List.getElem?_take,if_pos (by omega),Array.getElem?_toList]
  ·rw[if_pos (by omega),List.getElem?_append_right (by omega),c]
 ·rw[List.getElem?_eq_none (by rw[List.length_take];omega),List.getElem?_eq_none (by rw[List.length_append,c,a];omega)]
theorem jI(B g cap i:Nat)(ps:List PKV)(w:World)(h:OwnP w B (.slice (some ⟨g,0,none⟩) ps.length cap) ps)(S:i<ps.length)(hl:ps.length<=256):
  Calls Tryz.prog 347 #[.slice (some ⟨g,0,none⟩) ps.length cap,.int .i64 (i:Int),.int .i64 ((i:Int)+1)] w fun e w'=>e=.returned (.slice (some ⟨g,0,none⟩) (ps.length-1) cap)/\OwnP w' B (.slice (some ⟨g,0,none⟩) (ps.length-1) cap) (ps.eraseIdx i)/\w.grownBy w' (some g):=by
 obtain⟨i0,y,C,D,E⟩:=info_parts Ma;have I:=Ab (Yh h S);rcases h.2 with⟨e,_⟩|⟨g',J,k,e,Q,r,hn,O,z,ht⟩
 ·cases e
 simp only[Value.slice.injEq,Option.some.injEq,Addr.mk.injEq,and_true,true_and]at e;obtain⟨rfl,rfl⟩:=e;have O:cap<=9223372036854775807:=by simpa [maxLen]using O
 obtain⟨news,a⟩:∃news,news=cellsK (ps.drop (i+1)):=⟨_,rfl⟩;have b:news.length=(ps.length-(i+1))*7:=by rw[a,H9,List.length_drop]
 have m:∀t,t<cap*7->(w.cell? ⟨g,t,none⟩).isSome=true/\w.frozen? ⟨g,t,none⟩=false:=fun t o=>by
  refine⟨?_,by simp[World.frozen?,r]⟩;rw[cell_of_row w g _ _ _ _ r,Array.getElem?_eq_getElem (by omega)];rfl
 have f:∀t u,news[t]? =some u->w.cell? ⟨g,(i+1)*7+t,none⟩=some u:=fun t u l=>by
  refine h.cellAt ?_;rw[a,<-(RU ps (i+1) (by omega)).2,List.getElem?_drop]at l;exact l
 obtain⟨A,hA,p⟩:∃A:Addr,(if cap=i+1 then some (⟨g,0,none⟩:Addr)else some ⟨g,(i+1)*7,none⟩)=some A/\Hid (∀t u,news[t]? =some u->w.drew.cell? (A.add t)=some u):=by
  by_cases K:cap=i+1
  ·refine⟨⟨g,0,none⟩,by simp[K],fun t u l=>?_⟩
   have P:news.length=0:=by rw[b];omega
   rw[List.length_eq_zero_iff.1 P]at l;simp at l
  ·refine⟨⟨g,(i+1)*7,none⟩,by simp[K],fun t u l=>?_⟩
   rw[Addr.add_lit];exact f t u l
 have s1:Hid (news.length=(ps.length-(i+1))*7):=b;have s2:Hid (∀u∈news,u.oneCell'=true):=by rw[a];exact ee _
 have s3:Hid (∀t,t<news.length->(w.drew.cell? ⟨g,0+i*7+t,none⟩).isSome=true/\w.drew.frozen? ⟨g,0+i*7+t,none⟩=false):=by
  intro t o;rw[b]at o;rw[Nat.zero_add];exact m _ (by omega)
 obtain⟨d,c⟩:∃d,d=w.drew.setCells g (0+i*7) news:=⟨_,rfl⟩;have x:∃c1,d.heap[g]? =some (.cells c1 75 (0,0))/\c1.size=k.size:=by
  obtain⟨c1,q,G, -⟩:=Gz g 75 news (0+i*7) w.drew k r;exact⟨c1,by rw[c];exact q,G⟩
 obtain⟨c1,q,G⟩:=x
 have L:∀H,(Builtin.clear_ #[69] H #[.slice (some ⟨g,(ps.length-1)*7,none⟩) 1 (cap-(ps.length-1))]).run Tryz.prog d=.ok (.tuple #[]) (d.setCells g ((ps.length-1)*7) zK.cells):=fun H=>
  iB d H g _ _ (fun j V=>by rw[cell_of_row d g _ _ _ _ q,Array.getElem?_eq_getElem (by omega)];rfl) (fun j V=>by simp[World.frozen?,q])
 have v:=Aa I;rw[<-a,<-Nat.zero_add (i*7),<-c]at v;have s:=Ab v;have hW:Hid (d=w.drew.setCells g (0+i*7) news):=Ab c;clear c a b m f h v I Q r z ht q G c1 k C E;generalize ps.eraseIdx i=es at*;generalize ps.length=n at*;obtain⟨N,rfl⟩:∃N,n=N+1:=⟨n-1,by omega⟩;simp only[Nat.add_sub_cancel,Nat.add_sub_add_right]at*;have X:i+(N-i)=N:=by omega
 have T:i<=cap:=by omega
 have W:i+1<=cap:=by omega
 have Y:(0:Int)<=(i:Int)+1:=by omega
 have Z:(i:Int)+1<=(N:Int)+1:=by omega
 have aa:((i:Int)+1).toNat=i+1:=by omega
 have ab:(i:Int)<=(i:Int)+1:=by omega
 have ac:((i:Int)==(i:Int)+1)=false:=by rw[beq_eq_false_iff_ne];omega
 have R:¬cap=N:=by omega
 go_enter Tryz.func347,Tryz.ntmps347;go_wp2_with fail;go_region_law (refine step_append_room rfl (.tmp 22) (.tmp 25) 69 rfl 75 i0 7 Tryz.underlying69 y D g 0 i cap (by simp[Act.eval,Act.put]) A (N-i) (cap-(i+1)) news (by simp[Act.eval,Act.put]) s1.out p.out s2.out (by omega) s3.out ?_;rw[<-hW.out]);go_wp2;go_ret;exact⟨rfl,Aa s⟩
end Go.Proofs.YtmmikiikddokgaaGreatDoor
