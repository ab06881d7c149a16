/- Laws for the proof. -/
import Derived.Test.YtfpmnekaockodaaGreatDoorU20
import Derived.WalkMore
set_option linter.all false
open Go.Proofs.Tryz
open Go.Value renaming int->U,slice->θ,string->μ,pointer->σ
open Go.IntKind renaming i64->α
open Option renaming none->β,some->γ
open List renaming getD_eq_getElem?_getD->δ,getElem?_eq_getElem->η,length_map->ν,getElem?_take->ο,getElem?_append_right->π,length_take->ρ,getElem?_eq_none->ς,getElem?_map->τ
open Go.RowKit renaming Below->ε
open Go.RowKit.Below renaming refl->ζ
open Go.Proofs.Tryz renaming prog->ι
open Nat renaming le_refl->κ,add_zero->ξ,zero_le->υ
namespace Go.Proofs.YtfpmnekaockodaaGreatDoor
open Go.RowKit Go.Sort
set_option maxRecDepth 4000
set_option maxHeartbeats 8000000
variable {ps:List PKV}{i:Nat}
def cJ{w:World}(h:KsIn w ps):Ae w (ps.map PKV.r):=fun r a=>by
 obtain⟨p,hp,rfl⟩:=List.mem_map.1 a;exact h p hp
def bJ(ps:List PKV):vecsL (ps.map PKV.r)=vecsD (ps.map PKV.pd):=by
 unfold vecsL vecsD;rw[List.map_map,List.map_map];rfl
def cU(a:i<ps.length):(ps.map PKV.r).getD i .dflt=(ps.getD i .dflt).r:=by
 rw[δ,τ,η a,δ,η a];rfl
def gy(g B m:Nat)(v:Value)(ps:List PKV)(w:World)(h:Av w g B m v ps):
  Calls ι 350 #[.pointer (γ ⟨g,0,β⟩)] w fun e w'=> ∃v',e=.returned v'/\Gb w' w.heap.size v' (ps.map PKV.r)/\ε w.heap.size w w':=by
 have ag:=h.len.2;obtain⟨a,c,rfl,S, -, -⟩:=h.at;have ah:=Q0 ps.length (by omega);have y:ε w.heap.size w (w.alloc (.cells (madeCells #[θ none 0 0] ps.length) 40)):=(ζ _ _).alloc (κ _) _;obtain⟨k0,k1⟩:=h.cells (ζ _ _);obtain⟨j0,j1⟩:=h.cells y;have X:=Ab S;obtain⟨q,f⟩:∃q,q=ps.map PKV.r:=⟨_,rfl⟩;have d:q.length=ps.length:=by rw[f,ν]
 have I:=QZ w ps.length (by omega);rw[<-d,<-S7,d]at I;have I:=Ab I;have H:=Ab y;have W:=Ab f;have u:=Ab d;rw[<-f];clear h S y f d;go_enter func350,ntmps350;go_wp2;go_loopw [17] (fun i wr=> ∃k:Nat,k<=ps.length/\i=U α k/\Hid (wr.ownsRow w.heap.size 40 1 (.slice (γ ⟨w.heap.size,0,β⟩) ps.length ps.length) ps.length (E1 q k))/\Hid (ε w.heap.size w wr)) (fun i _=>ps.length-(intOf i).toNat)
 case atStart=>exact⟨0,υ _,rfl,I,H⟩
 case round=>
  obtain⟨k,hk,rfl,O,N⟩:=hrel;clear I H;by_cases C:k<ps.length
  ·obtain⟨b,off,rfl,K⟩:=((Aa X).below (Aa N)).at C
   obtain⟨Y,Z,aa,ab,ac,ad,ae⟩:=K k C;have T:(k:Int)<(ps.length:Int):=by omega
   have E:=Aa u;have R:=S6 q k (by omega);rw[show q.getD k .dflt=(ps.getD k .dflt).r from by rw[Aa W];exact cU C]at R;have L:(E1 q k)[k]? =γ (θ none 0 0):=by
    unfold E1;have hl:((q.take k).map fun r=>Value.slice r.a r.n r.c).length=k:=by simp;omega
    rw[π (by omega),hl,Nat.sub_self,List.getElem?_replicate,if_pos (by omega)]
   clear E;generalize ps.getD k .dflt=p at*;have x:ε wr.heap.size wr (wr.alloc (.cells #[U α p.o,U α p.l,U α p.k,U α p.z,U α p.h,.slice p.r.a p.r.n p.r.c,μ p.r.s] 75)):=(ζ _ _).alloc (κ _) _;have j:=LL (Aa O) x;have A:=j.cellAt k (by omega);rw[L]at A;have af:=j.frozenAt k;have D:=(j.stored k (.slice p.r.a p.r.n p.r.c)).1;rw[R]at D;have J:=(Ad (Aa N) x).setCell (p:=⟨w.heap.size,k,β⟩) (κ _) (.slice p.r.a p.r.n p.r.c);obtain⟨ai,aj,ak,al,am,an,ao⟩:=Fq wr (U α p.o) (U α p.l) (U α p.k) (U α p.z) (U α p.h) (.slice p.r.a p.r.n p.r.c) (μ p.r.s);have V:=Ab D;have P:=Ab J;clear K j D J x R L O N;go_wp2;go_roundw
   case rel=>exact⟨k+1,by omega,by go_num,V,P⟩
   case measure=>simp[intOf];omega
  ·obtain rfl:k=ps.length:=by omega
   have j:=Aa O;rw[<-Aa u,TK]at j;have Q:=Ab j;clear j O;go_wp2;go_ret;exact⟨_,rfl,by rw[<-Aa u];exact Aa Q,Aa N⟩
def EB(ps:List PKV):List Int:=ps.map fun p=>(cnt p.r.xs:Int)
def I2(ps:List PKV):(EB ps).length=ps.length:=by simp[EB]
def Uj(a:i<ps.length):(EB ps).getD i 0=(cnt (ps.getD i .dflt).r.xs:Int):=by
 unfold EB;rw[δ,τ,η a,δ,η a];rfl
def ke(a:i<ps.length):(EB ps).getD i 0=(degD (ps.map PKV.pd) i:Int):=by
 rw[Uj a];unfold degD;rw[Lq a];rfl
def gx(g B m:Nat)(v:Value)(ps:List PKV)(w:World)(h:Av w g B m v ps):
  Calls ι 351 #[.pointer (γ ⟨g,0,β⟩)] w fun e w'=> ∃v',e=.returned v'/\Am w' w.heap.size v' (EB ps)/\ε w.heap.size w w':=by
 have ai:=h.len.2;obtain⟨a,c,rfl,R, -, -⟩:=h.at;have aj:=Mf ps.length (by omega);have x:ε w.heap.size w (w.alloc (.cells (madeCells #[U α 0] ps.length) 3)):=(ζ _ _).alloc (κ _) _;obtain⟨k0,k1⟩:=h.cells (ζ _ _);obtain⟨j0,j1⟩:=h.cells x;have Y:=Ab R;have X:=Ab (Me w ps.length (by omega) (Da (EB ps) 0) (by rw[NI,I2]));have D:=Ab x
 have P:Hid (∀i,i<ps.length->(ps.getD i .dflt).r.n<=1048576):=Ab fun i V=>by
  have h1:=(h.inv.get (i:=i) (by rw[ν];exact V)).1;rw[Lq V]at h1;have h2:=JZ h1;have h3:=(R.2.1 i V).1;have h4:(ps.getD i .dflt).r.xs.length<=2:=h2;omega
 clear h R x;go_enter func351,ntmps351;go_wp2;go_loopw [17] (fun i wr=> ∃k:Nat,k<=ps.length/\i=U α k/\Hid (Am wr w.heap.size (.slice (γ ⟨w.heap.size,0,β⟩) ps.length ps.length) (Da (EB ps) k))/\Hid (ε w.heap.size w wr)) (fun i _=>ps.length-(intOf i).toNat)
 case atStart=>exact⟨0,υ _,rfl,X,D⟩
 case round=>
  obtain⟨k,hk,rfl,K,C⟩:=hrel;clear X D;by_cases d:k<ps.length
  ·obtain⟨b,off,rfl,H⟩:=((Aa Y).below (Aa C)).at d
   obtain⟨ab,ac,ad,ae,af,ag,ah⟩:=H k d;have q:=((Aa Y).below (Aa C)).2.1 k d;have J:=Aa P k d;have aa:(k:Int)<(ps.length:Int):=by omega
   have S:=NH (EB ps) k (by rw[I2];exact d);rw[Uj d]at S;have y:=LG (EB ps) k (by rw[I2];omega);rw[I2]at y;generalize ps.getD k .dflt=p at*;have j:ε wr.heap.size wr (wr.alloc (.cells #[U α p.o,U α p.l,U α p.k,U α p.z,U α p.h,.slice p.r.a p.r.n p.r.c,μ p.r.s] 75)):=(ζ _ _).alloc (κ _) _;have N:=Ab (GO p.r.a p.r.n p.r.c p.r.xs _ (q.below j) J);have u:=(Aa K).below j;obtain⟨g1,Z,Q,T, -,f,I⟩:=u.at (by omega);rw[y]at Q;simp only[Value.slice.injEq,Option.some.injEq,Addr.mk.injEq,and_true,true_and]at Q;obtain⟨rfl,rfl⟩:=Q;have f:=f k (by omega);have I:=I k;have A:=u.stored k (cnt p.r.xs:Int);rw[S]at A;have E:=(Ad (Aa C) j).setCell (p:=⟨w.heap.size,k,β⟩) (κ _) (U α (cnt p.r.xs:Int));obtain⟨ak,al,am,an,ao,ap,aq⟩:=Fq wr (U α p.o) (U α p.l) (U α p.k) (U α p.z) (U α p.h) (.slice p.r.a p.r.n p.r.c) (μ p.r.s);have HS:=Ab A;have L:=Ab E;clear H u A E j S y K C q J T;generalize (Da (EB ps) k).getD k 0=zz at*;go_wp2_with (go_at_call 180;refine(Aa N).mono ?_;rintro e w2 ⟨rfl,W⟩;subst W);go_roundw
   case rel=>exact⟨k+1,by omega,by go_num,HS,L⟩
   case measure=>simp[intOf];omega
  ·obtain rfl:k=ps.length:=by omega
   have u:=Aa K;rw[show Da (EB ps) ps.length=EB ps from by rw[<-I2 ps,NS]]at u;have O:=Ab u;clear u K;go_wp2;go_ret;exact⟨_,rfl,Aa O,Aa C⟩
def hG(g B m:Nat)(v:Value)(ps:List PKV)(w:World)(h:Av w g B m v ps)(s:0<ps.length):
  Calls ι 346 #[.pointer (γ ⟨g,0,β⟩)] w fun e w'=>e=.returned (U α (goesTo (ps.map PKV.pd) ps.length:Int))/\ε w.heap.size w w':=by
 have af:=h.len.2;obtain⟨a,c,rfl,hP, -, -⟩:=h.at;have X:=Ab (gx g B m _ ps w h);have W:=Ab (fun(w':World) (hb:ε w.heap.size w w')=>h.cells hb);have Y:=Ab hP
 have O:Hid (∀i,i<ps.length->(degD (ps.map PKV.pd) i:Int)<=(ps.getD 0 .dflt).k/\(ps.getD 0 .dflt).k<=128):=Ab fun i J=>by
  have:=h.inv.deg (i:=i) (by rw[ν];exact J);rw[Lq s]at this;exact this
 have Z:Hid (∀(w1:World) (H:Value),Am w1 w.heap.size H (EB ps)->∃y l,H=.slice (γ ⟨y,0,β⟩) ps.length l/\∀i,i<ps.length->w1.cell? ⟨y,i,β⟩=γ (U α (degD (ps.map PKV.pd) i:Int))):=Ab fun w1 H q=>by
  obtain⟨y,l,e1, -, -,A, -⟩:=q.at (by rw[I2];exact s);rw[I2]at A e1;exact⟨y,l,e1,fun i J=>by rw[A i J,ke J]⟩
 clear h hP;generalize ps.map PKV.pd=L at*;generalize ps.length=n at*;go_enter func346,ntmps346;go_wp2_with fail;go_step3;go_wp2_with fail;refine(Aa X).mono ?_;rintro e w1 ⟨H,rfl,q,p⟩;obtain⟨y,l,rfl,C⟩:=Aa Z w1 H q;obtain⟨k0,k1⟩:=Aa W w1 p;obtain⟨b,off,rfl,z⟩:=((Aa Y).below p).at s;obtain⟨-, -,hk, -, -, -, -⟩:=z 0 s;rw[Nat.zero_mul,ξ]at hk;have u:=Ab p;have K:=Ab C;have ac:(0:Int)<(n:Int):=by omega
 obtain⟨T,V⟩:=Aa O 0 s;obtain⟨D,hD⟩:∃D:Nat,(ps.getD 0 .dflt).k=(D:Int):=⟨(ps.getD 0 .dflt).k.toNat,by omega⟩;have R:D<=128:=by omega
 have x:Hid (∀j,j<n->degD L j<=D):=Ab fun j o=>by have:=(Aa O j o).1;omega
 rw[hD]at hk;clear z X W Y O q p C T V hD Z;go_wp2;go_step3;go_wp2;go_loop [4,5] (fun pl i=> ∃d:Nat,d<=128/\pl=U α 0/\i=U α d/\Hid (∀j,j<n->degD L j<=d)) (fun _ i=>(intOf i).toNat)
 case atStart=>exact⟨D,R,rfl,rfl,x⟩
 case round=>
  obtain⟨d,hd,rfl,rfl,f⟩:=hrel;clear x;by_cases ad:0<d
  ·have aa:(0:Int)<(d:Int):=by omega
   go_wp2;go_loop [4,22] (fun pl i=> ∃k:Nat,k<=n/\pl=U α 0/\i=U α k/\Hid (∀j,j<k->degD L j≠d)) (fun _ i=>n-(intOf i).toNat)
   case atStart=>exact⟨0,υ _,rfl,rfl,Ab (fun j o=>by omega)⟩
   case round=>
    obtain⟨k,ae,rfl,rfl,r⟩:=hrel;by_cases E:k<n
    ·have ab:(k:Int)<(n:Int):=by omega
     have hc:=Aa K k E;by_cases I:degD L k=d
     ·have S:((degD L k:Int)==(d:Int))=true:=by rw[beq_iff_eq];omega
      have N:Hid (goesTo L n=k):=Ab (Sk E (fun j o=>by rw[I];exact Aa f j o) fun j o=>by
       have h1:=Aa f j (by omega);have h2:=Aa r j o;omega)
      clear I f r;go_wp2
      (try rw[Exit.noGoto_ret])
      go_ret;exact⟨by rw[Aa N];rfl,Aa u⟩
     ·have S:((degD L k:Int)==(d:Int))=false:=by rw[beq_eq_false_iff_ne];omega
      have Q:Hid (∀j,j<k+1->degD L j≠d):=Ab fun j o=>by
       by_cases e:j=k
       ·rw[e];exact I
       ·exact Aa r j (by omega)
      clear I r;go_wp2;go_round
      case rel=>exact⟨k+1,by omega,rfl,by go_num,Q⟩
      case measure=>simp[intOf];omega
    ·have P:Hid (∀j,j<n->degD L j<=d-1):=Ab fun j o=>by
      have h1:=Aa f j o;have h2:=Aa r j (by omega);omega
     clear f r;go_wp2;go_round
     case rel=>exact⟨d-1,by omega,rfl,by go_num,P⟩
     case measure=>simp[intOf];omega
  ·obtain rfl:d=0:=by omega
   have N:Hid (goesTo L n=0):=Ab (Sk s (fun j o=>by have:=Aa f j o;omega) fun j o=>by omega);clear f;go_wp2
   (try rw[Exit.noGoto_ret])
   go_ret;exact⟨by rw[Aa N];rfl,Aa u⟩
def Jh(w:World)(p:PKV):ε w.heap.size w (w.alloc (.cells #[U α p.o,U α p.l,U α p.k,U α p.z,U α p.h,.slice p.r.a p.r.n p.r.c,μ p.r.s] 75)):=(ζ _ _).alloc (κ _) _
def Sa(g B m:Nat)(v:Value)(ps:List PKV)(p:PKV)(w:World)(h:Av w g B m v ps):
  Calls ι 348 #[.pointer (γ ⟨g,0,β⟩),p.val] w fun e w'=>e=.returned (.bool (alkH (ps.map PKV.pd) p.pd))/\ε w.heap.size w w':=by
 unfold PKV.val;have ab:=h.len.2;have j:=Jh w p;have D:=h.below j;obtain⟨X,Y,Z,q3,q4,q5,q6⟩:=Fq w (U α p.o) (U α p.l) (U α p.k) (U α p.z) (U α p.h) (.slice p.r.a p.r.n p.r.c) (μ p.r.s);generalize hW:w.alloc (.cells #[U α p.o,U α p.l,U α p.k,U α p.z,U α p.h,.slice p.r.a p.r.n p.r.c,μ p.r.s] 75)=W at*;obtain⟨a,c,rfl,S, -, -⟩:=D.at;obtain⟨k0,V⟩:=D.cells (ζ _ _);have r1:=cell_regrown V;have s0:=cell_regrown X;have s1:=cell_regrown Y;have s2:=cell_regrown Z;have s3:=cell_regrown q3;have s4:=cell_regrown q4;have s5:=cell_regrown q5;have s6:=cell_regrown q6;have x:=Ab j;have aa:Tryz.prog.eqGuardType Tryz.prog.depth 423=false:=by kernel_rfl
 have I:=Ab (Cf (W:=W) (fun w' hb=>VA p w'));unfold PKV.val at I;cases ps with
 |nil=>
  clear h D j S k0 V X Y Z q3 q4 q5 q6 I;go_enter func348,ntmps348;go_wp2_with fail;refine wp_region_quiet_below (by kernel_rfl) (by kernel_rfl) ?_
  repeat (with_reducible refine wpQuiet_step (fun K u=>?_);go_simp;first|(with_reducible refine u _ ?_;clear u K))
  refine wpQuiet_nil ?_;intro w3 d;obtain⟨⟨y,f⟩,d⟩:=d;have H:=Ab (Ad (Aa x) (show ε W.heap.size W w3 by rw[d];exact below_regrown _ y f));clear d y f;go_wp2;go_ret;exact⟨rfl,Aa H⟩
 |cons q E=>
  obtain⟨b,off,rfl,C⟩:=S.at (i:=0) (by simp);obtain⟨J,L,N,O,P,Q,R⟩:=C 0 (by simp);simp only[Nat.zero_mul,ξ,List.getD_cons_zero]at J L N O P Q R;have y0:=cell_regrown J;have y1:=cell_regrown L;have y2:=cell_regrown N;have y3:=cell_regrown O;have y4:=cell_regrown P;have y5:=cell_regrown Q;have y6:=cell_regrown R;have cQ:=Ab (Cf (W:=W) (fun w' hb=>VA q w'));unfold PKV.val at cQ;have T:=YI p.o p.l p.k p.z q.o q.l q.k q.z;have A:decide (p.o=q.o/\p.l=q.l/\p.k=q.k/\p.z=q.z)=alkH ((q::E).map PKV.pd) p.pd:=by
   show _=Bt q.pd p.pd;unfold Bt;rw[decide_eq_decide];exact⟨fun h=>⟨h.1.symm,h.2.1.symm,h.2.2.1.symm,h.2.2.2.symm⟩,fun h=>⟨h.1.symm,h.2.1.symm,h.2.2.1.symm,h.2.2.2.symm⟩⟩
  rw[A]at T;generalize alkH ((q::E).map PKV.pd) p.pd=AL at*;have ac:0<(q::E).length:=Nat.succ_pos _;clear h D j S k0 V X Y Z q3 q4 q5 q6 C J L N O P Q R A;generalize (q::E).length=n at*;have ad:(0:Int)<(n:Int):=by omega
  have hd:((n:Int)==0)=false:=by rw[beq_eq_false_iff_ne];omega
  go_enter func348,ntmps348;go_wp2_with fail;refine wp_region_quiet_below (by kernel_rfl) (by kernel_rfl) ?_
  repeat (with_reducible refine wpQuiet_step (fun K u=>?_);go_simp;first|(with_reducible refine u _ ?_;clear u K)|(apply Exists.intro;apply And.intro;(intro _;(go_at_call 352;first|with_reducible exact Aa I _ _|with_reducible exact Aa cQ _ _));with_reducible refine u _ ?_;clear u K))
  refine wpQuiet_nil ?_;intro w3 d;obtain⟨⟨y,f⟩,d⟩:=d;have H:=Ab (Ad (Aa x) (show ε W.heap.size W w3 by rw[d];exact below_regrown _ y f));clear d y f;go_wp2;go_ret;exact⟨rfl,Aa H⟩
def ee(g B m:Nat)(v:Value)(ps:List PKV)(p:PKV)(w:World)(ht:Tab w)(h:Av w g B m v ps)(Z:RowAt w p.r.a p.r.n p.r.xs)(hn:p.r.n<=10):
  Calls ι 345 #[.pointer (γ ⟨g,0,β⟩),p.val] w fun e w'=>e=.returned (.bool (Du m (ps.map PKV.pd) p.pd))/\ε w.heap.size w w':=by
 unfold PKV.val;have ac:=h.len.2;have j:=Jh w p;have C:=h.below j;have u:=Z.below j;have D:=ht.below j;have L:=Fq w (U α p.o) (U α p.l) (U α p.k) (U α p.z) (U α p.h) (.slice p.r.a p.r.n p.r.c) (μ p.r.s);generalize hW:w.alloc (.cells #[U α p.o,U α p.l,U α p.k,U α p.z,U α p.h,.slice p.r.a p.r.n p.r.c,μ p.r.s] 75)=W at*;obtain⟨q0,q1,q2,q3,q4,q5,q6⟩:=id L;obtain⟨N, -⟩:=C.cells (ζ _ _);have E:=Ab j;have f:Hid (Du m (ps.map PKV.pd) p.pd=(decide (0<m)&&BM p.pd&&alkH (ps.map PKV.pd) p.pd&&Fp (vecsD (ps.map PKV.pd)) p.r.xs)):=Ab rfl;by_cases hm:0<m
 ·have hd:decide ((0:Int)<(m:Int))=true:=by simp;omega
  cases q:BM p.pd
  ·have r0:=cell_regrown N
   have s0:=cell_regrown q0;have s1:=cell_regrown q1;have s2:=cell_regrown q2;have s3:=cell_regrown q3;have s4:=cell_regrown q4;have s5:=cell_regrown q5;have s6:=cell_regrown q6;have cC:=Ab (Cf (W:=W) (fun w' d=>ES p.o p.l p.k p.z p.h p.r.a p.r.n p.r.c p.r.xs p.r.s w' (u.below d) 1 (Qq q)));have I:Hid (Du m (ps.map PKV.pd) p.pd=false):=Ab (by rw[Aa f,q];simp);clear h Z ht C u D j L q0 q1 q2 q3 q4 q5 q6 N q f;generalize Du m (ps.map PKV.pd) p.pd=T at*;go_enter func345,ntmps345;go_wp2_with fail;refine wp_region_quiet_below (by kernel_rfl) (by kernel_rfl) ?_
   repeat (with_reducible refine wpQuiet_step (fun K A=>?_);go_simp;first|(with_reducible refine A _ ?_;clear A K)|(apply Exists.intro;apply And.intro;(intro _;(go_at_call 121;exact Aa cC _ _));with_reducible refine A _ ?_;clear A K))
   refine wpQuiet_nil ?_;intro w3 b;obtain⟨⟨H,x⟩,b⟩:=b;have O:=Ab (Ad (Aa E) (show ε W.heap.size W w3 by rw[b];exact below_regrown _ H x));clear b H x;go_wp2;go_ret;exact⟨by rw[Aa I];rfl,Aa O⟩
  ·cases y:alkH (ps.map PKV.pd) p.pd
   ·have r0:=cell_regrown N
    have s0:=cell_regrown q0;have s1:=cell_regrown q1;have s2:=cell_regrown q2;have s3:=cell_regrown q3;have s4:=cell_regrown q4;have s5:=cell_regrown q5;have s6:=cell_regrown q6;have cC:=Ab (Cf (W:=W) (fun w' d=>ES p.o p.l p.k p.z p.h p.r.a p.r.n p.r.c p.r.xs p.r.s w' (u.below d) 0 (MJ q)));have Q:=Cf (W:=W) (fun w' d=>Sa g B m v ps p w' (C.below d));rw[y]at Q;unfold PKV.val at Q;have Q:=Ab Q;have I:Hid (Du m (ps.map PKV.pd) p.pd=false):=Ab (by rw[Aa f,y];simp);clear h Z ht C u D j L q0 q1 q2 q3 q4 q5 q6 N q y f;generalize Du m (ps.map PKV.pd) p.pd=T at*;go_enter func345,ntmps345;go_wp2_with fail;refine wp_region_quiet_below (by kernel_rfl) (by kernel_rfl) ?_
    repeat (with_reducible refine wpQuiet_step (fun K A=>?_);go_simp;first|(with_reducible refine A _ ?_;clear A K)|(apply Exists.intro;apply And.intro;(intro _;first|(go_at_call 121;exact Aa cC _ _)|(go_at_call 348;exact Aa Q _ _));with_reducible refine A _ ?_;clear A K))
    refine wpQuiet_nil ?_;intro w3 b;obtain⟨⟨H,x⟩,b⟩:=b;have O:=Ab (Ad (Aa E) (show ε W.heap.size W w3 by rw[b];exact below_regrown _ H x));clear b H x;go_wp2;go_ret;exact⟨by rw[Aa I];rfl,Aa O⟩
   ·have HC:=Ab (fun wx (d:ε W.heap.size W wx)=>ES p.o p.l p.k p.z p.h p.r.a p.r.n p.r.c p.r.xs p.r.s wx (u.below d) 0 (MJ q))
    have P:=(fun wx (d:ε W.heap.size W wx)=>Sa g B m v ps p wx (C.below d));rw[y]at P;unfold PKV.val at P;have P:=Ab P;have HR:=Ab (fun wx (d:ε W.heap.size W wx)=>gy g B m v ps wx (C.below d));have HF:=Ab (fun wx J c1 (d:ε W.heap.size W wx) (hv:VecsAt wx J ps.length (vecsD (ps.map PKV.pd)))=>mK J ps.length c1 (vecsD (ps.map PKV.pd)) p.r.a p.r.n p.r.c p.r.xs wx (D.below d) hv C.inv.fit (u.below d) (by omega) (by omega))
    have HV:Hid (∀wx v1 B1,ε W.heap.size W wx->Gb wx B1 v1 (ps.map PKV.r)->∃J c1,v1=θ J ps.length c1/\VecsAt wx J ps.length (vecsD (ps.map PKV.pd))):=Ab fun wx v1 B1 d ho=>by
     obtain⟨J,c1,e,hv⟩:=ho.vecs (cJ (C.rows.ks.below d));rw[ν]at e hv;rw[bJ]at hv;exact⟨J,c1,e,hv⟩
    have HQ:=Ab (fun wx (d:ε W.heap.size W wx)=>show _/\_ from⟨(C.cells d).1,L.below d⟩);have I:Hid (Du m (ps.map PKV.pd) p.pd=Fp (vecsD (ps.map PKV.pd)) p.r.xs):=Ab (by rw[Aa f,y,q,decide_eq_true hm];rfl);clear h Z ht C u D j L q y f;generalize Du m (ps.map PKV.pd) p.pd=T at*;generalize Fp (vecsD (ps.map PKV.pd)) p.r.xs=FR at*;go_enter func345,ntmps345;go_wp2_with fail
    go_region_held3 (fun w'=>w'.cell? ⟨g,0,β⟩=γ (U α (m:Int))/\w'.cell? ⟨w.heap.size,0,β⟩=γ (U α p.o)/\w'.cell? ⟨w.heap.size,1,β⟩=γ (U α p.l)/\w'.cell? ⟨w.heap.size,2,β⟩=γ (U α p.k)/\w'.cell? ⟨w.heap.size,3,β⟩=γ (U α p.z)/\w'.cell? ⟨w.heap.size,4,β⟩=γ (U α p.h)/\w'.cell? ⟨w.heap.size,5,β⟩=γ (.slice p.r.a p.r.n p.r.c)/\w'.cell? ⟨w.heap.size,6,β⟩=γ (μ p.r.s)) (go_keep) (first
     |(go_at_call 121;refine(Aa HC _ (ζ _ _).drew).mono ?_;rintro e w1 ⟨rfl,R⟩;have D1:=Ab (show ε W.heap.size W w1 from Ad (ζ _ _).drew R);obtain⟨u0,t0,t1,t2,t3,t4,t5,t6⟩:=Aa HQ w1 (Aa D1);clear R)
     |(go_at_call 348;refine(Aa P _ (Aa D1)).mono ?_;rintro e w2 ⟨rfl,S⟩;have D2:=Ab (Ad (Aa D1) S);obtain⟨u0,t0,t1,t2,t3,t4,t5,t6⟩:=Aa HQ w2 (Aa D2);clear S)
     |(go_at_call 350;refine(Aa HR _ (Aa D2)).mono ?_;rintro e w3 ⟨v3,rfl,Y,V⟩;have D3:=Ab (Ad (Aa D2) V);obtain⟨a3,c3,rfl,aa⟩:=Aa HV w3 v3 _ (Aa D3) Y;have ab:=Ab aa;obtain⟨u0,t0,t1,t2,t3,t4,t5,t6⟩:=Aa HQ w3 (Aa D3);clear V Y aa)
     |(go_at_call 349;refine(Aa HF _ a3 c3 (Aa D3) (Aa ab)).mono ?_;rintro e w4 ⟨rfl,X⟩;have D4:=Ab (Ad (Aa D3) X);obtain⟨u0,t0,t1,t2,t3,t4,t5,t6⟩:=Aa HQ w4 (Aa D4);clear X))
    all_goals go_wp2
    all_goals go_ret
    all_goals exact⟨by rw[Aa I];rfl,Ad (Aa E) (Aa D4)⟩
 ·obtain rfl:m=0:=by omega
  have r0:=cell_regrown N;have I:Hid (Du 0 (ps.map PKV.pd) p.pd=false):=Ab (by rw[Aa f];rfl);clear h Z ht C u D j L q0 q1 q2 q3 q4 q5 q6 N f;generalize Du 0 (ps.map PKV.pd) p.pd=T at*;go_enter func345,ntmps345;go_wp2_with fail;refine wp_region_quiet_below (by kernel_rfl) (by kernel_rfl) ?_
  repeat (with_reducible refine wpQuiet_step (fun K A=>?_);go_simp;first|(with_reducible refine A _ ?_;clear A K))
  refine wpQuiet_nil ?_;intro w3 b;obtain⟨⟨H,x⟩,b⟩:=b;have O:=Ab (Ad (Aa E) (show ε W.heap.size W w3 by rw[b];exact below_regrown _ H x));clear b H x;go_wp2;go_ret;exact⟨by rw[Aa I];rfl,Aa O⟩
def jz(w:World)(h:TypeId)(g o c:Nat)(e:∀j,j<7->(w.cell? ⟨g,o+j,β⟩).isSome=true)(f:∀j,j<7->w.frozen? ⟨g,o+j,β⟩=false):
  (Builtin.clear_ #[69] h #[.slice (γ ⟨g,o,β⟩) 1 c]).run ι w=.ok (.tuple #[]) (w.setCells g o zK.cells):=by
 have a:=run_storeCells_cells (P:=ι) g o zK.cells 0 w (fun j b=>by rw[ξ];exact e j b) (fun j b=>by rw[ξ];exact f j b) (LS zK);simp only[ξ]at a;have d:(Builtin.zeroCells (Value.agg #[U α 0,U α 0,U α 0,U α 0,U α 0,θ none 0 0,μ ⟨#[]⟩]).cells 1).toList=zK.cells:=by
  simp[Builtin.zeroCells,Value.cells];rfl
 simp[Builtin.clear_,run_underlying underlying69,d,a]
def Sb(ps:List PKV)(i:Nat)(b:i<=ps.length):(cellsK ps).take (i*7)=cellsK (ps.take i)/\(cellsK ps).drop (i*7)=cellsK (ps.drop i):=by
 have e:cellsK ps=cellsK (ps.take i)++cellsK (ps.drop i):=by rw[<-Kl,List.take_append_drop]
 have a:(cellsK (ps.take i)).length=i*7:=by rw[Im,ρ,Nat.min_eq_left b]
 rw[e];exact⟨by rw[<-a];exact List.take_left,by rw[<-a];exact List.drop_left⟩
def YB{w:World}{B g cap:Nat}(h:OwnP w B (.slice (γ ⟨g,0,β⟩) ps.length cap) ps){i:Nat}(u:i<ps.length):
  OwnP ((w.drew.setCells g (i*7) (cellsK (ps.drop (i+1)))).setCells g ((ps.length-1)*7) zK.cells) B (.slice (γ ⟨g,0,β⟩) (ps.length-1) cap) (ps.eraseIdx i)/\
   w.grownBy ((w.drew.setCells g (i*7) (cellsK (ps.drop (i+1)))).setCells g ((ps.length-1)*7) zK.cells) (γ g):=by
 have k:w.grownBy ((w.drew.setCells g (i*7) (cellsK (ps.drop (i+1)))).setCells g ((ps.length-1)*7) zK.cells) (γ g):=
  Bx (Bx (JU (Gn w _)) (GJ g _ _ w.drew) (.inl rfl)) (GJ g _ _ _) (.inl rfl)
 refine⟨?_,k⟩;rcases h.2 with⟨e,_⟩|⟨g',n,d,e,r,s,C,x,m,ht⟩
 ·cases e
 simp only[Value.slice.injEq,Option.some.injEq,Addr.mk.injEq,and_true,true_and]at e;obtain⟨rfl,rfl⟩:=e;have b:=List.length_eraseIdx_of_lt u;obtain⟨c1,o,p,q⟩:=GK g 75 (cellsK (ps.drop (i+1))) (i*7) w.drew d s;obtain⟨c2,y,z,A⟩:=GK g 75 zK.cells ((ps.length-1)*7) _ c1 o;refine⟨by rw[Im],.inr ⟨g,cap,c2,by rw[b],r,y,by omega,x,by rw[z,p,m],?_⟩⟩;have a:(cellsK (ps.drop (i+1))).length=(ps.length-(i+1))*7:=by rw[Im,List.length_drop]
 have f:cellsK (ps.eraseIdx i)=(cellsK ps).take (i*7)++cellsK (ps.drop (i+1)):=by
  rw[List.eraseIdx_eq_take_drop_succ,Kl,(Sb ps i (by omega)).1]
 have c:((cellsK ps).take (i*7)).length=i*7:=by rw[ρ,Im];omega
 rw[f,b];apply List.ext_getElem?;intro j;by_cases v:j<(ps.length-1)*7
 ·rw[ο,if_pos v,Array.getElem?_toList,A j (by omega),if_neg (by omega),q j (by omega),a]
  by_cases l:j<i*7
  ·rw[if_neg (by omega),List.getElem?_append_left (by omega),ο,if_pos l,<-ht,ο,if_pos (by omega),Array.getElem?_toList]
  ·rw[if_pos (by omega),π (by omega),c]
 ·rw[ς (by rw[ρ];omega),ς (by rw[List.length_append,c,a];omega)]
def lF(B g cap i:Nat)(ps:List PKV)(w:World)(h:OwnP w B (.slice (γ ⟨g,0,β⟩) ps.length cap) ps)(T:i<ps.length)(hl:ps.length<=256):
  Calls ι 347 #[.slice (γ ⟨g,0,β⟩) ps.length cap,U α (i:Int),U α ((i:Int)+1)] w fun e w'=>e=.returned (.slice (γ ⟨g,0,β⟩) (ps.length-1) cap)/\OwnP w' B (.slice (γ ⟨g,0,β⟩) (ps.length-1) cap) (ps.eraseIdx i)/\w.grownBy w' (γ g):=by
 obtain⟨i0,y,C,D,E⟩:=info_parts Ma;have J:=Ab (YB h T);rcases h.2 with⟨e,_⟩|⟨g',K,k,e,R,r,hn,P,z,ht⟩
 ·cases e
 simp only[Value.slice.injEq,Option.some.injEq,Addr.mk.injEq,and_true,true_and]at e;obtain⟨rfl,rfl⟩:=e;have P:cap<=9223372036854775807:=by simpa [maxLen]using P
 obtain⟨news,a⟩:∃news,news=cellsK (ps.drop (i+1)):=⟨_,rfl⟩;have b:news.length=(ps.length-(i+1))*7:=by rw[a,Im,List.length_drop]
 have m:∀t,t<cap*7->(w.cell? ⟨g,t,β⟩).isSome=true/\w.frozen? ⟨g,t,β⟩=false:=fun t o=>by
  refine⟨?_,by simp[World.frozen?,r]⟩;rw[cell_of_row w g _ _ _ _ r,Array.getElem?_eq_getElem (by omega)];rfl
 have f:∀t u,news[t]? =γ u->w.cell? ⟨g,(i+1)*7+t,β⟩=γ u:=fun t u l=>by
  refine h.cellAt ?_;rw[a,<-(Sb ps (i+1) (by omega)).2,List.getElem?_drop]at l;exact l
 obtain⟨A,hA,p⟩:∃A:Addr,(if cap=i+1 then γ (⟨g,0,β⟩:Addr)else γ ⟨g,(i+1)*7,β⟩)=γ A/\Hid (∀t u,news[t]? =γ u->w.drew.cell? (A.add t)=γ u):=by
  by_cases L:cap=i+1
  ·refine⟨⟨g,0,β⟩,by simp[L],fun t u l=>?_⟩
   have Q:news.length=0:=by rw[b];omega
   rw[List.length_eq_zero_iff.1 Q]at l;simp at l
  ·refine⟨⟨g,(i+1)*7,β⟩,by simp[L],fun t u l=>?_⟩
   rw[Addr.add_lit];exact f t u l
 have s1:Hid (news.length=(ps.length-(i+1))*7):=b;have s2:Hid (∀u∈news,u.oneCell'=true):=by rw[a];exact iA _
 have s3:Hid (∀t,t<news.length->(w.drew.cell? ⟨g,0+i*7+t,β⟩).isSome=true/\w.drew.frozen? ⟨g,0+i*7+t,β⟩=false):=by
  intro t o;rw[b]at o;rw[Nat.zero_add];exact m _ (by omega)
 obtain⟨d,c⟩:∃d,d=w.drew.setCells g (0+i*7) news:=⟨_,rfl⟩;have x:∃c1,d.heap[g]? =γ (.cells c1 75 (0,0))/\c1.size=k.size:=by
  obtain⟨c1,q,H, -⟩:=GK g 75 news (0+i*7) w.drew k r;exact⟨c1,by rw[c];exact q,H⟩
 obtain⟨c1,q,H⟩:=x
 have O:∀I,(Builtin.clear_ #[69] I #[.slice (γ ⟨g,(ps.length-1)*7,β⟩) 1 (cap-(ps.length-1))]).run ι d=.ok (.tuple #[]) (d.setCells g ((ps.length-1)*7) zK.cells):=fun I=>
  jz d I g _ _ (fun j W=>by rw[cell_of_row d g _ _ _ _ q,Array.getElem?_eq_getElem (by omega)];rfl) (fun j W=>by simp[World.frozen?,q])
 have v:=Aa J;rw[<-a,<-Nat.zero_add (i*7),<-c]at v;have s:=Ab v;have hW:Hid (d=w.drew.setCells g (0+i*7) news):=Ab c;clear c a b m f h v J R r z ht q H c1 k C E;generalize ps.eraseIdx i=es at*;generalize ps.length=n at*;obtain⟨N,rfl⟩:∃N,n=N+1:=⟨n-1,by omega⟩;simp only[Nat.add_sub_cancel,Nat.add_sub_add_right]at*;have Y:i+(N-i)=N:=by omega
 have V:i<=cap:=by omega
 have X:i+1<=cap:=by omega
 have Z:(0:Int)<=(i:Int)+1:=by omega
 have aa:(i:Int)+1<=(N:Int)+1:=by omega
 have ab:((i:Int)+1).toNat=i+1:=by omega
 have ac:(i:Int)<=(i:Int)+1:=by omega
 have ad:((i:Int)==(i:Int)+1)=false:=by rw[beq_eq_false_iff_ne];omega
 have S:¬cap=N:=by omega
 go_enter func347,ntmps347;go_wp2_with fail;go_region_law (refine step_append_room rfl (.tmp 22) (.tmp 25) 69 rfl 75 i0 7 underlying69 y D g 0 i cap (by simp[Act.eval,Act.put]) A (N-i) (cap-(i+1)) news (by simp[Act.eval,Act.put]) s1.out p.out s2.out (by omega) s3.out ?_;rw[<-hW.out]);go_wp2;go_ret;exact⟨rfl,Aa s⟩
end Go.Proofs.YtfpmnekaockodaaGreatDoor
