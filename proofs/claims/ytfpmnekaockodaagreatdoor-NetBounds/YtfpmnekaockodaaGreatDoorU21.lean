/- Laws for the proof. -/
import Derived.Test.YtfpmnekaockodaaGreatDoorU20
import Derived.WalkMore
namespace Go.Proofs.YtfpmnekaockodaaGreatDoor
open Go.RowKit Go.Sort
set_option linter.all false
set_option maxRecDepth 4000
set_option maxHeartbeats 8000000
variable {ps:List PKV}{i:Nat}
theorem ZQ{w:World}(h:KsIn w ps):Ae w (ps.map PKV.r):=fun r a=>by
 obtain⟨p,hp,rfl⟩:=List.mem_map.1 a;exact h p hp
theorem cG(ps:List PKV):vecsL (ps.map PKV.r)=vecsD (ps.map PKV.pd):=by
 unfold vecsL vecsD;rw[List.map_map,List.map_map];rfl
theorem cX(a:i<ps.length):(ps.map PKV.r).getD i .dflt=(ps.getD i .dflt).r:=by
 rw[List.getD_eq_getElem?_getD,List.getElem?_map,List.getElem?_eq_getElem a,List.getD_eq_getElem?_getD,List.getElem?_eq_getElem a];rfl
theorem gU(g B m:Nat)(v:Value)(ps:List PKV)(w:World)(h:Ay w g B m v ps):
  Calls Tryz.prog 350 #[.pointer (some ⟨g,0,none⟩)] w fun e w'=> ∃v',e=.returned v'/\CR w' w.heap.size v' (ps.map PKV.r)/\Below w.heap.size w w':=by
 have ag:=h.len.2;obtain⟨a,c,rfl,S, -, -⟩:=h.at;have ah:=QL ps.length (by omega);have y:Below w.heap.size w (w.alloc (.cells (madeCells #[.slice none 0 0] ps.length) 40)):=(Below.refl _ _).alloc (Nat.le_refl _) _;obtain⟨k0,k1⟩:=h.cells (Below.refl _ _);obtain⟨j0,j1⟩:=h.cells y;have X:=Ab S;obtain⟨q,f⟩:∃q,q=ps.map PKV.r:=⟨_,rfl⟩;have d:q.length=ps.length:=by rw[f,List.length_map]
 have I:=QK w ps.length (by omega);rw[<-d,<-Sm,d]at I;have I:=Ab I;have H:=Ab y;have W:=Ab f;have u:=Ab d;rw[<-f];clear h S y f d;go_enter Tryz.func350,Tryz.ntmps350;go_wp2;go_loopw [17] (fun i wr=> ∃k:Nat,k<=ps.length/\i=.int .i64 k/\Hid (wr.ownsRow w.heap.size 40 1 (.slice (some ⟨w.heap.size,0,none⟩) ps.length ps.length) ps.length (E5 q k))/\Hid (Below w.heap.size w wr)) (fun i _=>ps.length-(intOf i).toNat)
 case atStart=>exact⟨0,Nat.zero_le _,rfl,I,H⟩
 case round=>
  obtain⟨k,hk,rfl,O,N⟩:=hrel;clear I H;by_cases C:k<ps.length
  ·obtain⟨b,off,rfl,K⟩:=((Aa X).below (Aa N)).at C
   obtain⟨Y,Z,aa,ab,ac,ad,ae⟩:=K k C;have T:(k:Int)<(ps.length:Int):=by omega
   have E:=Aa u;have R:=Sl q k (by omega);rw[show q.getD k .dflt=(ps.getD k .dflt).r from by rw[Aa W];exact cX C]at R;have L:(E5 q k)[k]? =some (.slice none 0 0):=by
    unfold E5;have hl:((q.take k).map fun r=>Value.slice r.a r.n r.c).length=k:=by simp;omega
    rw[List.getElem?_append_right (by omega),hl,Nat.sub_self,List.getElem?_replicate,if_pos (by omega)]
   clear E;generalize ps.getD k .dflt=p at*;have x:Below wr.heap.size wr (wr.alloc (.cells #[.int .i64 p.o,.int .i64 p.l,.int .i64 p.k,.int .i64 p.z,.int .i64 p.h,.slice p.r.a p.r.n p.r.c,.string p.r.s] 75)):=(Below.refl _ _).alloc (Nat.le_refl _) _;have j:=Ki (Aa O) x;have A:=j.cellAt k (by omega);rw[L]at A;have af:=j.frozenAt k;have D:=(j.stored k (.slice p.r.a p.r.n p.r.c)).1;rw[R]at D;have J:=(Ad (Aa N) x).setCell (p:=⟨w.heap.size,k,none⟩) (Nat.le_refl _) (.slice p.r.a p.r.n p.r.c);obtain⟨ai,aj,ak,al,am,an,ao⟩:=Fv wr (.int .i64 p.o) (.int .i64 p.l) (.int .i64 p.k) (.int .i64 p.z) (.int .i64 p.h) (.slice p.r.a p.r.n p.r.c) (.string p.r.s);have V:=Ab D;have P:=Ab J;clear K j D J x R L O N;go_wp2;go_roundw
   case rel=>exact⟨k+1,by omega,by go_num,V,P⟩
   case measure=>simp[intOf];omega
  ·obtain rfl:k=ps.length:=by omega
   have j:=Aa O;rw[<-Aa u,Uu]at j;have Q:=Ab j;clear j O;go_wp2;go_ret;exact⟨_,rfl,by rw[<-Aa u];exact Aa Q,Aa N⟩
def EG(ps:List PKV):List Int:=ps.map fun p=>(cnt p.r.xs:Int)
theorem I2(ps:List PKV):(EG ps).length=ps.length:=by simp[EG]
theorem Ui(a:i<ps.length):(EG ps).getD i 0=(cnt (ps.getD i .dflt).r.xs:Int):=by
 unfold EG;rw[List.getD_eq_getElem?_getD,List.getElem?_map,List.getElem?_eq_getElem a,List.getD_eq_getElem?_getD,List.getElem?_eq_getElem a];rfl
theorem kM(a:i<ps.length):(EG ps).getD i 0=(degD (ps.map PKV.pd) i:Int):=by
 rw[Ui a];unfold degD;rw[Lu a];rfl
theorem gT(g B m:Nat)(v:Value)(ps:List PKV)(w:World)(h:Ay w g B m v ps):
  Calls Tryz.prog 351 #[.pointer (some ⟨g,0,none⟩)] w fun e w'=> ∃v',e=.returned v'/\Am w' w.heap.size v' (EG ps)/\Below w.heap.size w w':=by
 have ai:=h.len.2;obtain⟨a,c,rfl,R, -, -⟩:=h.at;have aj:=Mg ps.length (by omega);have x:Below w.heap.size w (w.alloc (.cells (madeCells #[.int .i64 0] ps.length) 3)):=(Below.refl _ _).alloc (Nat.le_refl _) _;obtain⟨k0,k1⟩:=h.cells (Below.refl _ _);obtain⟨j0,j1⟩:=h.cells x;have Y:=Ab R;have X:=Ab (Mf w ps.length (by omega) (Df (EG ps) 0) (by rw[ND,I2]));have D:=Ab x
 have P:Hid (∀i,i<ps.length->(ps.getD i .dflt).r.n<=1048576):=Ab fun i V=>by
  have h1:=(h.inv.get (i:=i) (by rw[List.length_map];exact V)).1;rw[Lu V]at h1;have h2:=JX h1;have h3:=(R.2.1 i V).1;have h4:(ps.getD i .dflt).r.xs.length<=2:=h2;omega
 clear h R x;go_enter Tryz.func351,Tryz.ntmps351;go_wp2;go_loopw [17] (fun i wr=> ∃k:Nat,k<=ps.length/\i=.int .i64 k/\Hid (Am wr w.heap.size (.slice (some ⟨w.heap.size,0,none⟩) ps.length ps.length) (Df (EG ps) k))/\Hid (Below w.heap.size w wr)) (fun i _=>ps.length-(intOf i).toNat)
 case atStart=>exact⟨0,Nat.zero_le _,rfl,X,D⟩
 case round=>
  obtain⟨k,hk,rfl,K,C⟩:=hrel;clear X D;by_cases d:k<ps.length
  ·obtain⟨b,off,rfl,H⟩:=((Aa Y).below (Aa C)).at d
   obtain⟨ab,ac,ad,ae,af,ag,ah⟩:=H k d;have q:=((Aa Y).below (Aa C)).2.1 k d;have J:=Aa P k d;have aa:(k:Int)<(ps.length:Int):=by omega
   have S:=NC (EG ps) k (by rw[I2];exact d);rw[Ui d]at S;have y:=LI (EG ps) k (by rw[I2];omega);rw[I2]at y;generalize ps.getD k .dflt=p at*;have j:Below wr.heap.size wr (wr.alloc (.cells #[.int .i64 p.o,.int .i64 p.l,.int .i64 p.k,.int .i64 p.z,.int .i64 p.h,.slice p.r.a p.r.n p.r.c,.string p.r.s] 75)):=(Below.refl _ _).alloc (Nat.le_refl _) _;have N:=Ab (GP p.r.a p.r.n p.r.c p.r.xs _ (q.below j) J);have u:=(Aa K).below j;obtain⟨g1,Z,Q,T, -,f,I⟩:=u.at (by omega);rw[y]at Q;simp only[Value.slice.injEq,Option.some.injEq,Addr.mk.injEq,and_true,true_and]at Q;obtain⟨rfl,rfl⟩:=Q;have f:=f k (by omega);have I:=I k;have A:=u.stored k (cnt p.r.xs:Int);rw[S]at A;have E:=(Ad (Aa C) j).setCell (p:=⟨w.heap.size,k,none⟩) (Nat.le_refl _) (.int .i64 (cnt p.r.xs:Int));obtain⟨ak,al,am,an,ao,ap,aq⟩:=Fv wr (.int .i64 p.o) (.int .i64 p.l) (.int .i64 p.k) (.int .i64 p.z) (.int .i64 p.h) (.slice p.r.a p.r.n p.r.c) (.string p.r.s);have HS:=Ab A;have L:=Ab E;clear H u A E j S y K C q J T;generalize (Df (EG ps) k).getD k 0=zz at*;go_wp2_with (go_at_call 180;refine(Aa N).mono ?_;rintro e w2 ⟨rfl,W⟩;subst W);go_roundw
   case rel=>exact⟨k+1,by omega,by go_num,HS,L⟩
   case measure=>simp[intOf];omega
  ·obtain rfl:k=ps.length:=by omega
   have u:=Aa K;rw[show Df (EG ps) ps.length=EG ps from by rw[<-I2 ps,NQ]]at u;have O:=Ab u;clear u K;go_wp2;go_ret;exact⟨_,rfl,Aa O,Aa C⟩
theorem gV(g B m:Nat)(v:Value)(ps:List PKV)(w:World)(h:Ay w g B m v ps)(s:0<ps.length):
  Calls Tryz.prog 346 #[.pointer (some ⟨g,0,none⟩)] w fun e w'=>e=.returned (.int .i64 (goesTo (ps.map PKV.pd) ps.length:Int))/\Below w.heap.size w w':=by
 have af:=h.len.2;obtain⟨a,c,rfl,hP, -, -⟩:=h.at;have X:=Ab (gT g B m _ ps w h);have W:=Ab (fun(w':World) (hb:Below w.heap.size w w')=>h.cells hb);have Y:=Ab hP
 have O:Hid (∀i,i<ps.length->(degD (ps.map PKV.pd) i:Int)<=(ps.getD 0 .dflt).k/\(ps.getD 0 .dflt).k<=128):=Ab fun i J=>by
  have:=h.inv.deg (i:=i) (by rw[List.length_map];exact J);rw[Lu s]at this;exact this
 have Z:Hid (∀(w1:World) (H:Value),Am w1 w.heap.size H (EG ps)->∃y l,H=.slice (some ⟨y,0,none⟩) ps.length l/\∀i,i<ps.length->w1.cell? ⟨y,i,none⟩=some (.int .i64 (degD (ps.map PKV.pd) i:Int))):=Ab fun w1 H q=>by
  obtain⟨y,l,e1, -, -,A, -⟩:=q.at (by rw[I2];exact s);rw[I2]at A e1;exact⟨y,l,e1,fun i J=>by rw[A i J,kM J]⟩
 clear h hP;generalize ps.map PKV.pd=L at*;generalize ps.length=n at*;go_enter Tryz.func346,Tryz.ntmps346;go_wp2_with fail;go_step3;go_wp2_with fail;refine(Aa X).mono ?_;rintro e w1 ⟨H,rfl,q,p⟩;obtain⟨y,l,rfl,C⟩:=Aa Z w1 H q;obtain⟨k0,k1⟩:=Aa W w1 p;obtain⟨b,off,rfl,z⟩:=((Aa Y).below p).at s;obtain⟨-, -,hk, -, -, -, -⟩:=z 0 s;rw[Nat.zero_mul,Nat.add_zero]at hk;have u:=Ab p;have K:=Ab C;have ac:(0:Int)<(n:Int):=by omega
 obtain⟨T,V⟩:=Aa O 0 s;obtain⟨D,hD⟩:∃D:Nat,(ps.getD 0 .dflt).k=(D:Int):=⟨(ps.getD 0 .dflt).k.toNat,by omega⟩;have R:D<=128:=by omega
 have x:Hid (∀j,j<n->degD L j<=D):=Ab fun j o=>by have:=(Aa O j o).1;omega
 rw[hD]at hk;clear z X W Y O q p C T V hD Z;go_wp2;go_step3;go_wp2;go_loop [4,5] (fun pl i=> ∃d:Nat,d<=128/\pl=.int .i64 0/\i=.int .i64 d/\Hid (∀j,j<n->degD L j<=d)) (fun _ i=>(intOf i).toNat)
 case atStart=>exact⟨D,R,rfl,rfl,x⟩
 case round=>
  obtain⟨d,hd,rfl,rfl,f⟩:=hrel;clear x;by_cases ad:0<d
  ·have aa:(0:Int)<(d:Int):=by omega
   go_wp2;go_loop [4,22] (fun pl i=> ∃k:Nat,k<=n/\pl=.int .i64 0/\i=.int .i64 k/\Hid (∀j,j<k->degD L j≠d)) (fun _ i=>n-(intOf i).toNat)
   case atStart=>exact⟨0,Nat.zero_le _,rfl,rfl,Ab (fun j o=>by omega)⟩
   case round=>
    obtain⟨k,ae,rfl,rfl,r⟩:=hrel;by_cases E:k<n
    ·have ab:(k:Int)<(n:Int):=by omega
     have hc:=Aa K k E;by_cases I:degD L k=d
     ·have S:((degD L k:Int)==(d:Int))=true:=by rw[beq_iff_eq];omega
      have N:Hid (goesTo L n=k):=Ab (Sf E (fun j o=>by rw[I];exact Aa f j o) fun j o=>by
       have h1:=Aa f j (by omega);have h2:=Aa r j o;omega)
      clear I f r;go_wp2
      (try rw[Exit.noGoto_ret])
      go_ret;exact⟨by rw[Aa N];rfl,Aa u⟩
     ·have S:((degD L k:Int)==(d:Int))=false:=by rw[beq_eq_false_iff_ne];omega
      have Q:Hid (∀j,j<k+1->degD L j≠d):=Ab fun j o=>by
       by_cases e:j=k
       ·rw[e];exact I
       ·exact Aa r j (by omega)
      clear I r;go_wp2;go_round
      case rel=>exact⟨k+1,by omega,rfl,by go_num,Q⟩
      case measure=>simp[intOf];omega
    ·have P:Hid (∀j,j<n->degD L j<=d-1):=Ab fun j o=>by
      have h1:=Aa f j o;have h2:=Aa r j (by omega);omega
     clear f r;go_wp2;go_round
     case rel=>exact⟨d-1,by omega,rfl,by go_num,P⟩
     case measure=>simp[intOf];omega
  ·obtain rfl:d=0:=by omega
   have N:Hid (goesTo L n=0):=Ab (Sf s (fun j o=>by have:=Aa f j o;omega) fun j o=>by omega);clear f;go_wp2
   (try rw[Exit.noGoto_ret])
   go_ret;exact⟨by rw[Aa N];rfl,Aa u⟩
theorem Jh(w:World)(p:PKV):Below w.heap.size w (w.alloc (.cells #[.int .i64 p.o,.int .i64 p.l,.int .i64 p.k,.int .i64 p.z,.int .i64 p.h,.slice p.r.a p.r.n p.r.c,.string p.r.s] 75)):=(Below.refl _ _).alloc (Nat.le_refl _) _
theorem Si(g B m:Nat)(v:Value)(ps:List PKV)(p:PKV)(w:World)(h:Ay w g B m v ps):
  Calls Tryz.prog 348 #[.pointer (some ⟨g,0,none⟩),p.val] w fun e w'=>e=.returned (.bool (alkH (ps.map PKV.pd) p.pd))/\Below w.heap.size w w':=by
 unfold PKV.val;have ab:=h.len.2;have j:=Jh w p;have D:=h.below j;obtain⟨X,Y,Z,q3,q4,q5,q6⟩:=Fv w (.int .i64 p.o) (.int .i64 p.l) (.int .i64 p.k) (.int .i64 p.z) (.int .i64 p.h) (.slice p.r.a p.r.n p.r.c) (.string p.r.s);generalize hW:w.alloc (.cells #[.int .i64 p.o,.int .i64 p.l,.int .i64 p.k,.int .i64 p.z,.int .i64 p.h,.slice p.r.a p.r.n p.r.c,.string p.r.s] 75)=W at*;obtain⟨a,c,rfl,S, -, -⟩:=D.at;obtain⟨k0,V⟩:=D.cells (Below.refl _ _);have r1:=cell_regrown V;have s0:=cell_regrown X;have s1:=cell_regrown Y;have s2:=cell_regrown Z;have s3:=cell_regrown q3;have s4:=cell_regrown q4;have s5:=cell_regrown q5;have s6:=cell_regrown q6;have x:=Ab j;have aa:Tryz.prog.eqGuardType Tryz.prog.depth 423=false:=by kernel_rfl
 have I:=Ab (Cr (W:=W) (fun w' hb=>Vz p w'));unfold PKV.val at I;cases ps with
 |nil=>
  clear h D j S k0 V X Y Z q3 q4 q5 q6 I;go_enter Tryz.func348,Tryz.ntmps348;go_wp2_with fail;refine wp_region_quiet_below (by kernel_rfl) (by kernel_rfl) ?_
  repeat (with_reducible refine wpQuiet_step (fun K u=>?_);go_simp;first|(with_reducible refine u _ ?_;clear u K))
  refine wpQuiet_nil ?_;intro w3 d;obtain⟨⟨y,f⟩,d⟩:=d;have H:=Ab (Ad (Aa x) (show Below W.heap.size W w3 by rw[d];exact below_regrown _ y f));clear d y f;go_wp2;go_ret;exact⟨rfl,Aa H⟩
 |cons q E=>
  obtain⟨b,off,rfl,C⟩:=S.at (i:=0) (by simp);obtain⟨J,L,N,O,P,Q,R⟩:=C 0 (by simp);simp only[Nat.zero_mul,Nat.add_zero,List.getD_cons_zero]at J L N O P Q R;have y0:=cell_regrown J;have y1:=cell_regrown L;have y2:=cell_regrown N;have y3:=cell_regrown O;have y4:=cell_regrown P;have y5:=cell_regrown Q;have y6:=cell_regrown R;have cQ:=Ab (Cr (W:=W) (fun w' hb=>Vz q w'));unfold PKV.val at cQ;have T:=Yf p.o p.l p.k p.z q.o q.l q.k q.z;have A:decide (p.o=q.o/\p.l=q.l/\p.k=q.k/\p.z=q.z)=alkH ((q::E).map PKV.pd) p.pd:=by
   show _=Bx q.pd p.pd;unfold Bx;rw[decide_eq_decide];exact⟨fun h=>⟨h.1.symm,h.2.1.symm,h.2.2.1.symm,h.2.2.2.symm⟩,fun h=>⟨h.1.symm,h.2.1.symm,h.2.2.1.symm,h.2.2.2.symm⟩⟩
  rw[A]at T;generalize alkH ((q::E).map PKV.pd) p.pd=AL at*;have ac:0<(q::E).length:=Nat.succ_pos _;clear h D j S k0 V X Y Z q3 q4 q5 q6 C J L N O P Q R A;generalize (q::E).length=n at*;have ad:(0:Int)<(n:Int):=by omega
  have hd:((n:Int)==0)=false:=by rw[beq_eq_false_iff_ne];omega
  go_enter Tryz.func348,Tryz.ntmps348;go_wp2_with fail;refine wp_region_quiet_below (by kernel_rfl) (by kernel_rfl) ?_
  repeat (with_reducible refine wpQuiet_step (fun K u=>?_);go_simp;first|(with_reducible refine u _ ?_;clear u K)|(apply Exists.intro;apply And.intro;(intro _;(go_at_call 352;first|with_reducible exact Aa I _ _|with_reducible exact Aa cQ _ _));with_reducible refine u _ ?_;clear u K))
  refine wpQuiet_nil ?_;intro w3 d;obtain⟨⟨y,f⟩,d⟩:=d;have H:=Ab (Ad (Aa x) (show Below W.heap.size W w3 by rw[d];exact below_regrown _ y f));clear d y f;go_wp2;go_ret;exact⟨rfl,Aa H⟩
theorem eV(g B m:Nat)(v:Value)(ps:List PKV)(p:PKV)(w:World)(ht:Tab w)(h:Ay w g B m v ps)(Z:RowAt w p.r.a p.r.n p.r.xs)(hn:p.r.n<=10):
  Calls Tryz.prog 345 #[.pointer (some ⟨g,0,none⟩),p.val] w fun e w'=>e=.returned (.bool (DD m (ps.map PKV.pd) p.pd))/\Below w.heap.size w w':=by
 unfold PKV.val;have ac:=h.len.2;have j:=Jh w p;have C:=h.below j;have u:=Z.below j;have D:=ht.below j;have L:=Fv w (.int .i64 p.o) (.int .i64 p.l) (.int .i64 p.k) (.int .i64 p.z) (.int .i64 p.h) (.slice p.r.a p.r.n p.r.c) (.string p.r.s);generalize hW:w.alloc (.cells #[.int .i64 p.o,.int .i64 p.l,.int .i64 p.k,.int .i64 p.z,.int .i64 p.h,.slice p.r.a p.r.n p.r.c,.string p.r.s] 75)=W at*;obtain⟨q0,q1,q2,q3,q4,q5,q6⟩:=id L;obtain⟨N, -⟩:=C.cells (Below.refl _ _);have E:=Ab j;have f:Hid (DD m (ps.map PKV.pd) p.pd=(decide (0<m)&&BT p.pd&&alkH (ps.map PKV.pd) p.pd&&Fu (vecsD (ps.map PKV.pd)) p.r.xs)):=Ab rfl;by_cases hm:0<m
 ·have hd:decide ((0:Int)<(m:Int))=true:=by simp;omega
  cases q:BT p.pd
  ·have r0:=cell_regrown N
   have s0:=cell_regrown q0;have s1:=cell_regrown q1;have s2:=cell_regrown q2;have s3:=cell_regrown q3;have s4:=cell_regrown q4;have s5:=cell_regrown q5;have s6:=cell_regrown q6;have cC:=Ab (Cr (W:=W) (fun w' d=>EV p.o p.l p.k p.z p.h p.r.a p.r.n p.r.c p.r.xs p.r.s w' (u.below d) 1 (Qn q)));have I:Hid (DD m (ps.map PKV.pd) p.pd=false):=Ab (by rw[Aa f,q];simp);clear h Z ht C u D j L q0 q1 q2 q3 q4 q5 q6 N q f;generalize DD m (ps.map PKV.pd) p.pd=T at*;go_enter Tryz.func345,Tryz.ntmps345;go_wp2_with fail;refine wp_region_quiet_below (by kernel_rfl) (by kernel_rfl) ?_
   repeat (with_reducible refine wpQuiet_step (fun K A=>?_);go_simp;first|(with_reducible refine A _ ?_;clear A K)|(apply Exists.intro;apply And.intro;(intro _;(go_at_call 121;exact Aa cC _ _));with_reducible refine A _ ?_;clear A K))
   refine wpQuiet_nil ?_;intro w3 b;obtain⟨⟨H,x⟩,b⟩:=b;have O:=Ab (Ad (Aa E) (show Below W.heap.size W w3 by rw[b];exact below_regrown _ H x));clear b H x;go_wp2;go_ret;exact⟨by rw[Aa I];rfl,Aa O⟩
  ·cases y:alkH (ps.map PKV.pd) p.pd
   ·have r0:=cell_regrown N
    have s0:=cell_regrown q0;have s1:=cell_regrown q1;have s2:=cell_regrown q2;have s3:=cell_regrown q3;have s4:=cell_regrown q4;have s5:=cell_regrown q5;have s6:=cell_regrown q6;have cC:=Ab (Cr (W:=W) (fun w' d=>EV p.o p.l p.k p.z p.h p.r.a p.r.n p.r.c p.r.xs p.r.s w' (u.below d) 0 (MJ q)));have Q:=Cr (W:=W) (fun w' d=>Si g B m v ps p w' (C.below d));rw[y]at Q;unfold PKV.val at Q;have Q:=Ab Q;have I:Hid (DD m (ps.map PKV.pd) p.pd=false):=Ab (by rw[Aa f,y];simp);clear h Z ht C u D j L q0 q1 q2 q3 q4 q5 q6 N q y f;generalize DD m (ps.map PKV.pd) p.pd=T at*;go_enter Tryz.func345,Tryz.ntmps345;go_wp2_with fail;refine wp_region_quiet_below (by kernel_rfl) (by kernel_rfl) ?_
    repeat (with_reducible refine wpQuiet_step (fun K A=>?_);go_simp;first|(with_reducible refine A _ ?_;clear A K)|(apply Exists.intro;apply And.intro;(intro _;first|(go_at_call 121;exact Aa cC _ _)|(go_at_call 348;exact Aa Q _ _));with_reducible refine A _ ?_;clear A K))
    refine wpQuiet_nil ?_;intro w3 b;obtain⟨⟨H,x⟩,b⟩:=b;have O:=Ab (Ad (Aa E) (show Below W.heap.size W w3 by rw[b];exact below_regrown _ H x));clear b H x;go_wp2;go_ret;exact⟨by rw[Aa I];rfl,Aa O⟩
   ·have HC:=Ab (fun wx (d:Below W.heap.size W wx)=>EV p.o p.l p.k p.z p.h p.r.a p.r.n p.r.c p.r.xs p.r.s wx (u.below d) 0 (MJ q))
    have P:=(fun wx (d:Below W.heap.size W wx)=>Si g B m v ps p wx (C.below d));rw[y]at P;unfold PKV.val at P;have P:=Ab P;have HR:=Ab (fun wx (d:Below W.heap.size W wx)=>gU g B m v ps wx (C.below d));have HF:=Ab (fun wx J c1 (d:Below W.heap.size W wx) (hv:VecsAt wx J ps.length (vecsD (ps.map PKV.pd)))=>lm J ps.length c1 (vecsD (ps.map PKV.pd)) p.r.a p.r.n p.r.c p.r.xs wx (D.below d) hv C.inv.fit (u.below d) (by omega) (by omega))
    have HV:Hid (∀wx v1 B1,Below W.heap.size W wx->CR wx B1 v1 (ps.map PKV.r)->∃J c1,v1=.slice J ps.length c1/\VecsAt wx J ps.length (vecsD (ps.map PKV.pd))):=Ab fun wx v1 B1 d ho=>by
     obtain⟨J,c1,e,hv⟩:=ho.vecs (ZQ (C.rows.ks.below d));rw[List.length_map]at e hv;rw[cG]at hv;exact⟨J,c1,e,hv⟩
    have HQ:=Ab (fun wx (d:Below W.heap.size W wx)=>show _/\_ from⟨(C.cells d).1,L.below d⟩);have I:Hid (DD m (ps.map PKV.pd) p.pd=Fu (vecsD (ps.map PKV.pd)) p.r.xs):=Ab (by rw[Aa f,y,q,decide_eq_true hm];rfl);clear h Z ht C u D j L q y f;generalize DD m (ps.map PKV.pd) p.pd=T at*;generalize Fu (vecsD (ps.map PKV.pd)) p.r.xs=FR at*;go_enter Tryz.func345,Tryz.ntmps345;go_wp2_with fail
    go_region_held3 (fun w'=>w'.cell? ⟨g,0,none⟩=some (.int .i64 (m:Int))/\w'.cell? ⟨w.heap.size,0,none⟩=some (.int .i64 p.o)/\w'.cell? ⟨w.heap.size,1,none⟩=some (.int .i64 p.l)/\w'.cell? ⟨w.heap.size,2,none⟩=some (.int .i64 p.k)/\w'.cell? ⟨w.heap.size,3,none⟩=some (.int .i64 p.z)/\w'.cell? ⟨w.heap.size,4,none⟩=some (.int .i64 p.h)/\w'.cell? ⟨w.heap.size,5,none⟩=some (.slice p.r.a p.r.n p.r.c)/\w'.cell? ⟨w.heap.size,6,none⟩=some (.string p.r.s)) (go_keep) (first
     |(go_at_call 121;refine(Aa HC _ (Below.refl _ _).drew).mono ?_;rintro e w1 ⟨rfl,R⟩;have D1:=Ab (show Below W.heap.size W w1 from Ad (Below.refl _ _).drew R);obtain⟨u0,t0,t1,t2,t3,t4,t5,t6⟩:=Aa HQ w1 (Aa D1);clear R)
     |(go_at_call 348;refine(Aa P _ (Aa D1)).mono ?_;rintro e w2 ⟨rfl,S⟩;have D2:=Ab (Ad (Aa D1) S);obtain⟨u0,t0,t1,t2,t3,t4,t5,t6⟩:=Aa HQ w2 (Aa D2);clear S)
     |(go_at_call 350;refine(Aa HR _ (Aa D2)).mono ?_;rintro e w3 ⟨v3,rfl,Y,V⟩;have D3:=Ab (Ad (Aa D2) V);obtain⟨a3,c3,rfl,aa⟩:=Aa HV w3 v3 _ (Aa D3) Y;have ab:=Ab aa;obtain⟨u0,t0,t1,t2,t3,t4,t5,t6⟩:=Aa HQ w3 (Aa D3);clear V Y aa)
     |(go_at_call 349;refine(Aa HF _ a3 c3 (Aa D3) (Aa ab)).mono ?_;rintro e w4 ⟨rfl,X⟩;have D4:=Ab (Ad (Aa D3) X);obtain⟨u0,t0,t1,t2,t3,t4,t5,t6⟩:=Aa HQ w4 (Aa D4);clear X))
    all_goals go_wp2
    all_goals go_ret
    all_goals exact⟨by rw[Aa I];rfl,Ad (Aa E) (Aa D4)⟩
 ·obtain rfl:m=0:=by omega
  have r0:=cell_regrown N;have I:Hid (DD 0 (ps.map PKV.pd) p.pd=false):=Ab (by rw[Aa f];rfl);clear h Z ht C u D j L q0 q1 q2 q3 q4 q5 q6 N f;generalize DD 0 (ps.map PKV.pd) p.pd=T at*;go_enter Tryz.func345,Tryz.ntmps345;go_wp2_with fail;refine wp_region_quiet_below (by kernel_rfl) (by kernel_rfl) ?_
  repeat (with_reducible refine wpQuiet_step (fun K A=>?_);go_simp;first|(with_reducible refine A _ ?_;clear A K))
  refine wpQuiet_nil ?_;intro w3 b;obtain⟨⟨H,x⟩,b⟩:=b;have O:=Ab (Ad (Aa E) (show Below W.heap.size W w3 by rw[b];exact below_regrown _ H x));clear b H x;go_wp2;go_ret;exact⟨by rw[Aa I];rfl,Aa O⟩
theorem iI(w:World)(h:TypeId)(g o c:Nat)(e:∀j,j<7->(w.cell? ⟨g,o+j,none⟩).isSome=true)(f:∀j,j<7->w.frozen? ⟨g,o+j,none⟩=false):
  (Builtin.clear_ #[69] h #[.slice (some ⟨g,o,none⟩) 1 c]).run Tryz.prog w=.ok (.tuple #[]) (w.setCells g o zK.cells):=by
 have a:=run_storeCells_cells (P:=Tryz.prog) g o zK.cells 0 w (fun j b=>by rw[Nat.add_zero];exact e j b) (fun j b=>by rw[Nat.add_zero];exact f j b) (LS zK);simp only[Nat.add_zero]at a;have d:(Builtin.zeroCells (Value.agg #[.int .i64 0,.int .i64 0,.int .i64 0,.int .i64 0,.int .i64 0,.slice none 0 0,.string ⟨#[]⟩]).cells 1).toList=zK.cells:=by
  simp[Builtin.zeroCells,Value.cells];rfl
 simp[Builtin.clear_,run_underlying Tryz.underlying69,d,a]
theorem R7(ps:List PKV)(i:Nat)(b:i<=ps.length):(cellsK ps).take (i*7)=cellsK (ps.take i)/\(cellsK ps).drop (i*7)=cellsK (ps.drop i):=by
 have e:cellsK ps=cellsK (ps.take i)++cellsK (ps.drop i):=by rw[<-Kg,List.take_append_drop]
 have a:(cellsK (ps.take i)).length=i*7:=by rw[Ik,List.length_take,Nat.min_eq_left b]
 rw[e];exact⟨by rw[<-a];exact List.take_left,by rw[<-a];exact List.drop_left⟩
theorem YS{w:World}{B g cap:Nat}(h:OwnP w B (.slice (some ⟨g,0,none⟩) ps.length cap) ps){i:Nat}(u:i<ps.length):
  OwnP ((w.drew.setCells g (i*7) (cellsK (ps.drop (i+1)))).setCells g ((ps.length-1)*7) zK.cells) B (.slice (some ⟨g,0,none⟩) (ps.length-1) cap) (ps.eraseIdx i)/\
   w.grownBy ((w.drew.setCells g (i*7) (cellsK (ps.drop (i+1)))).setCells g ((ps.length-1)*7) zK.cells) (some g):=by
 have k:w.grownBy ((w.drew.setCells g (i*7) (cellsK (ps.drop (i+1)))).setCells g ((ps.length-1)*7) zK.cells) (some g):=
  BD (BD (JS (Gn w _)) (GK g _ _ w.drew) (.inl rfl)) (GK g _ _ _) (.inl rfl)
 refine⟨?_,k⟩;rcases h.2 with⟨e,_⟩|⟨g',n,d,e,r,s,C,x,m,ht⟩
 ·cases e
 simp only[Value.slice.injEq,Option.some.injEq,Addr.mk.injEq,and_true,true_and]at e;obtain⟨rfl,rfl⟩:=e;have b:=List.length_eraseIdx_of_lt u;obtain⟨c1,o,p,q⟩:=GL g 75 (cellsK (ps.drop (i+1))) (i*7) w.drew d s;obtain⟨c2,y,z,A⟩:=GL g 75 zK.cells ((ps.length-1)*7) _ c1 o;refine⟨by rw[Ik],.inr ⟨g,cap,c2,by rw[b],r,y,by omega,x,by rw[z,p,m],?_⟩⟩;have a:(cellsK (ps.drop (i+1))).length=(ps.length-(i+1))*7:=by rw[Ik,List.length_drop]
 have f:cellsK (ps.eraseIdx i)=(cellsK ps).take (i*7)++cellsK (ps.drop (i+1)):=by
  rw[List.eraseIdx_eq_take_drop_succ,Kg,(R7 ps i (by omega)).1]
 have c:((cellsK ps).take (i*7)).length=i*7:=by rw[List.length_take,Ik];omega
 rw[f,b];apply List.ext_getElem?;intro j;by_cases v:j<(ps.length-1)*7
 ·rw[List.getElem?_take,if_pos v,Array.getElem?_toList,A j (by omega),if_neg (by omega),q j (by omega),a]
  by_cases l:j<i*7
  ·rw[if_neg (by omega),List.getElem?_append_left (by omega),List.getElem?_take,if_pos l,<-ht,List.getElem?_take,if_pos (by omega),Array.getElem?_toList]
  ·rw[if_pos (by omega),List.getElem?_append_right (by omega),c]
 ·rw[List.getElem?_eq_none (by rw[List.length_take];omega),List.getElem?_eq_none (by rw[List.length_append,c,a];omega)]
theorem ki(B g cap i:Nat)(ps:List PKV)(w:World)(h:OwnP w B (.slice (some ⟨g,0,none⟩) ps.length cap) ps)(T:i<ps.length)(hl:ps.length<=256):
  Calls Tryz.prog 347 #[.slice (some ⟨g,0,none⟩) ps.length cap,.int .i64 (i:Int),.int .i64 ((i:Int)+1)] w fun e w'=>e=.returned (.slice (some ⟨g,0,none⟩) (ps.length-1) cap)/\OwnP w' B (.slice (some ⟨g,0,none⟩) (ps.length-1) cap) (ps.eraseIdx i)/\w.grownBy w' (some g):=by
 obtain⟨i0,y,C,D,E⟩:=info_parts Mb;have J:=Ab (YS h T);rcases h.2 with⟨e,_⟩|⟨g',K,k,e,R,r,hn,P,z,ht⟩
 ·cases e
 simp only[Value.slice.injEq,Option.some.injEq,Addr.mk.injEq,and_true,true_and]at e;obtain⟨rfl,rfl⟩:=e;have P:cap<=9223372036854775807:=by simpa [maxLen]using P
 obtain⟨news,a⟩:∃news,news=cellsK (ps.drop (i+1)):=⟨_,rfl⟩;have b:news.length=(ps.length-(i+1))*7:=by rw[a,Ik,List.length_drop]
 have m:∀t,t<cap*7->(w.cell? ⟨g,t,none⟩).isSome=true/\w.frozen? ⟨g,t,none⟩=false:=fun t o=>by
  refine⟨?_,by simp[World.frozen?,r]⟩;rw[cell_of_row w g _ _ _ _ r,Array.getElem?_eq_getElem (by omega)];rfl
 have f:∀t u,news[t]? =some u->w.cell? ⟨g,(i+1)*7+t,none⟩=some u:=fun t u l=>by
  refine h.cellAt ?_;rw[a,<-(R7 ps (i+1) (by omega)).2,List.getElem?_drop]at l;exact l
 obtain⟨A,hA,p⟩:∃A:Addr,(if cap=i+1 then some (⟨g,0,none⟩:Addr)else some ⟨g,(i+1)*7,none⟩)=some A/\Hid (∀t u,news[t]? =some u->w.drew.cell? (A.add t)=some u):=by
  by_cases L:cap=i+1
  ·refine⟨⟨g,0,none⟩,by simp[L],fun t u l=>?_⟩
   have Q:news.length=0:=by rw[b];omega
   rw[List.length_eq_zero_iff.1 Q]at l;simp at l
  ·refine⟨⟨g,(i+1)*7,none⟩,by simp[L],fun t u l=>?_⟩
   rw[Addr.add_lit];exact f t u l
 have s1:Hid (news.length=(ps.length-(i+1))*7):=b;have s2:Hid (∀u∈news,u.oneCell'=true):=by rw[a];exact gY _
 have s3:Hid (∀t,t<news.length->(w.drew.cell? ⟨g,0+i*7+t,none⟩).isSome=true/\w.drew.frozen? ⟨g,0+i*7+t,none⟩=false):=by
  intro t o;rw[b]at o;rw[Nat.zero_add];exact m _ (by omega)
 obtain⟨d,c⟩:∃d,d=w.drew.setCells g (0+i*7) news:=⟨_,rfl⟩;have x:∃c1,d.heap[g]? =some (.cells c1 75 (0,0))/\c1.size=k.size:=by
  obtain⟨c1,q,H, -⟩:=GL g 75 news (0+i*7) w.drew k r;exact⟨c1,by rw[c];exact q,H⟩
 obtain⟨c1,q,H⟩:=x
 have O:∀I,(Builtin.clear_ #[69] I #[.slice (some ⟨g,(ps.length-1)*7,none⟩) 1 (cap-(ps.length-1))]).run Tryz.prog d=.ok (.tuple #[]) (d.setCells g ((ps.length-1)*7) zK.cells):=fun I=>
  iI d I g _ _ (fun j W=>by rw[cell_of_row d g _ _ _ _ q,Array.getElem?_eq_getElem (by omega)];rfl) (fun j W=>by simp[World.frozen?,q])
 have v:=Aa J;rw[<-a,<-Nat.zero_add (i*7),<-c]at v;have s:=Ab v;have hW:Hid (d=w.drew.setCells g (0+i*7) news):=Ab c;clear c a b m f h v J R r z ht q H c1 k C E;generalize ps.eraseIdx i=es at*;generalize ps.length=n at*;obtain⟨N,rfl⟩:∃N,n=N+1:=⟨n-1,by omega⟩;simp only[Nat.add_sub_cancel,Nat.add_sub_add_right]at*;have Y:i+(N-i)=N:=by omega
 have V:i<=cap:=by omega
 have X:i+1<=cap:=by omega
 have Z:(0:Int)<=(i:Int)+1:=by omega
 have aa:(i:Int)+1<=(N:Int)+1:=by omega
 have ab:((i:Int)+1).toNat=i+1:=by omega
 have ac:(i:Int)<=(i:Int)+1:=by omega
 have ad:((i:Int)==(i:Int)+1)=false:=by rw[beq_eq_false_iff_ne];omega
 have S:¬cap=N:=by omega
 go_enter Tryz.func347,Tryz.ntmps347;go_wp2_with fail;go_region_law (refine step_append_room rfl (.tmp 22) (.tmp 25) 69 rfl 75 i0 7 Tryz.underlying69 y D g 0 i cap (by simp[Act.eval,Act.put]) A (N-i) (cap-(i+1)) news (by simp[Act.eval,Act.put]) s1.out p.out s2.out (by omega) s3.out ?_;rw[<-hW.out]);go_wp2;go_ret;exact⟨rfl,Aa s⟩
end Go.Proofs.YtfpmnekaockodaaGreatDoor
