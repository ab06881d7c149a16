/- Laws for the proof. -/
import Derived.Test.YtfpmnekaockodaaGreatDoorU23
namespace Go.Proofs.YtfpmnekaockodaaGreatDoor
open Go.RowKit Go.Sort
set_option linter.all false
set_option maxRecDepth 4000
set_option maxHeartbeats 8000000
variable {ps:List PKV}
theorem pA{X:World}{tmps:Array Value}{g:Nat}{o l k z h:Int}{a:Option Addr}{n c:Nat}{s:ByteArray}(ht:tmps.getD 2 undef=.pointer (some ⟨g,0,none⟩))(d:AX X g (.int .i64 o) (.int .i64 l) (.int .i64 k) (.int .i64 z) (.int .i64 h) (.slice a n c) (.string s)):
  (results Tryz.f248 tmps).run Tryz.prog X=.ok (.agg #[.int .i64 o,.int .i64 l,.int .i64 k,.int .i64 z,.int .i64 h,.slice a n c,.string s]) X:=by
 obtain⟨e,r1,r2,f,i,j,m⟩:=d.at;have b:tmps[2]?.getD undef=.pointer (some ⟨g,0,none⟩):=by simpa using ht
 simp[results,Tryz.results248,go_sem,b,e,r1,r2,f,i,j,m]
theorem Pb(o l k z hp:Int)(a:Option Addr)(n c:Nat)(s:ByteArray)(w:World):
  Calls Tryz.prog 248 #[.agg #[.int .i64 o,.int .i64 l,.int .i64 k,.int .i64 z,.int .i64 hp,.slice a n c,.string s]] w fun e w'=>e=.returned (.agg #[.int .i64 o,.int .i64 l,.int .i64 k,.int .i64 z,.int .i64 0,.slice none 0 0,.string ⟨#[]⟩])/\Below w.heap.size w w':=by
 have f:=(CM w (.int .i64 o) (.int .i64 l) (.int .i64 k) (.int .i64 z) (.int .i64 hp) (.slice a n c) (.string s)).below ((Below.refl _ _).alloc (Nat.le_refl _) (.cells #[.int .i64 0,.int .i64 0,.int .i64 0,.int .i64 0,.int .i64 0,.slice none 0 0,.string ⟨#[]⟩] 75));have b:=CM (w.alloc (.cells #[.int .i64 o,.int .i64 l,.int .i64 k,.int .i64 z,.int .i64 hp,.slice a n c,.string s] 75)) (.int .i64 0) (.int .i64 0) (.int .i64 0) (.int .i64 0) (.int .i64 0) (.slice none 0 0) (.string ⟨#[]⟩);rw[Bc]at b;have d:Below w.heap.size w ((w.alloc (.cells #[.int .i64 o,.int .i64 l,.int .i64 k,.int .i64 z,.int .i64 hp,.slice a n c,.string s] 75)).alloc (.cells #[.int .i64 0,.int .i64 0,.int .i64 0,.int .i64 0,.int .i64 0,.slice none 0 0,.string ⟨#[]⟩] 75)):=GV (Below.refl _ w) (Below.refl _ _);generalize hW:(w.alloc (.cells #[.int .i64 o,.int .i64 l,.int .i64 k,.int .i64 z,.int .i64 hp,.slice a n c,.string s] 75)).alloc (.cells #[.int .i64 0,.int .i64 0,.int .i64 0,.int .i64 0,.int .i64 0,.slice none 0 0,.string ⟨#[]⟩] 75)=W at*;obtain⟨m,p,q,r,u,v,x⟩:=f.at;obtain⟨y,A,C,D,E,H,I⟩:=b.at;have j:=b.frz;have i:=Ab b;have h:=Ab d;clear f b d;go_enter Tryz.func248,Tryz.ntmps248;go_wp2;exact bodyPost_ret (pA (g:=w.heap.size+1) (X:=set7 W (w.heap.size+1) (.int .i64 o) (.int .i64 l) (.int .i64 k) (.int .i64 z) (.int .i64 0) (.slice none 0 0) (.string ⟨#[]⟩)) rfl ((Aa i).sets _ _ _ _ _ _ _)) rfl ⟨rfl,CD (Aa h) (Nat.le_succ _) _ _ _ _ _ _ _⟩
def Jn(ps:List PKV):Bool:=ps.all fun p=>Bx (ps.getD 0 .dflt).pd p.pd
theorem jd(q p:PKV):TB (Bx q.pd p.pd) (Nf p.o p.l p.k p.z 0 [] ⟨#[]⟩ q.o q.l q.k q.z 0 [] ⟨#[]⟩):=by
 unfold TB Bx Nf;rw[decide_eq_true_iff];show(q.o=p.o/\q.l=p.l/\q.k=p.k/\q.z=p.z)↔_;constructor
 ·rintro⟨b,c,d,e⟩
  exact⟨⟨⟨b.symm,c.symm,d.symm,e.symm,rfl⟩,rfl⟩,rfl⟩
 ·intro h
  exact⟨h.1.1.1.symm,h.1.1.2.1.symm,h.1.1.2.2.1.symm,h.1.1.2.2.2.1.symm⟩
theorem SQ(ps:List PKV)(k:Nat)(b:k<ps.length):ps.take (k+1)=ps.take k++[ps.getD k .dflt]:=by
 rw[List.take_succ_eq_append_getElem b];simp[List.getD_eq_getElem?_getD,List.getElem?_eq_getElem b]
theorem LQ(a:Option Addr)(n c:Nat)(ps:List PKV)(w:World)(ht:Tab w)(h:PksAt w a n ps)(h0:0<n)(hn:n<=1048576):
  Calls Tryz.prog 245 #[.slice a n c] w fun e w'=>e=.returned (.bool (Jn ps))/\Below w.heap.size w w':=by
 obtain rfl:=h.1;obtain⟨b,off,rfl,j⟩:=h.at h0;obtain⟨c0,c1,c2,c3,c4,c5,c6⟩:=j 0 h0;simp only[Nat.zero_mul,Nat.add_zero]at c0 c1 c2 c3 c4 c5 c6;have ai:(0:Int)<(ps.length:Int):=by omega
 have Hh:=Ab h;have HT:=Ab ht;unfold Jn;generalize ps.getD 0 .dflt=q at*;have d:=Ab (Pb q.o q.l q.k q.z q.h q.r.a q.r.n q.r.c q.r.s w);clear h j ht;go_enter Tryz.func245,Tryz.ntmps245;go_wp2_with (go_at_call 248;refine(Aa d).mono ?_;rintro e w1 ⟨rfl,X⟩;have Q:=Ab X;clear X);have aa:=CM w1 (.int .i64 q.o) (.int .i64 q.l) (.int .i64 q.k) (.int .i64 q.z) (.int .i64 0) (.slice none 0 0) (.string ⟨#[]⟩);have Y:Below w1.heap.size w1 (w1.alloc (.cells #[.int .i64 q.o,.int .i64 q.l,.int .i64 q.k,.int .i64 q.z,.int .i64 0,.slice none 0 0,.string ⟨#[]⟩] 75)):=(Below.refl _ _).alloc (Nat.le_refl _) _;generalize hW:w1.alloc (.cells #[.int .i64 q.o,.int .i64 q.l,.int .i64 q.k,.int .i64 q.z,.int .i64 0,.slice none 0 0,.string ⟨#[]⟩] 75)=W at*;have ae:=Ab aa;have f:=Ab (Ad (Aa Q) Y);clear aa Y hW Q d c0 c1 c2 c3 c4 c5 c6;go_loopw [12] (fun i wr=> ∃m:Nat,m<=ps.length/\i=.int .i64 m/\Hid (∀p∈ps.take m,Bx q.pd p.pd=true)/\Hid (Below W.heap.size W wr)) (fun i _=>ps.length-(intOf i).toNat)
 case atStart=>exact⟨0,Nat.zero_le _,rfl,Ab (fun p hp=>by rw[List.take_zero]at hp;cases hp),Ab (Below.refl _ _)⟩
 case round=>
  obtain⟨m,hm,rfl,P,HB⟩:=hrel;by_cases u:m<ps.length
  ·have H:=(Aa f).trans ((Aa HB).mono (Aa f).size)
   obtain⟨b',ah,e,j⟩:=((Aa Hh).below H).at u;simp only[Option.some.injEq,Addr.mk.injEq,and_true]at e;obtain⟨rfl,rfl⟩:=e;obtain⟨c0,c1,c2,c3,c4,c5,c6⟩:=j m u;have ag:(m:Int)<(ps.length:Int):=by omega
   have E:=Ab (SQ ps m u);have D:=Ab (show ps.getD m .dflt∈ps from by rw[List.getD_eq_getElem?_getD,List.getElem?_eq_getElem u];exact List.getElem_mem u);clear j;generalize ps.getD m .dflt=p at*;have ab:=CM wr (.int .i64 p.o) (.int .i64 p.l) (.int .i64 p.k) (.int .i64 p.z) (.int .i64 p.h) (.slice p.r.a p.r.n p.r.c) (.string p.r.s);have C:Below wr.heap.size wr (wr.alloc (.cells #[.int .i64 p.o,.int .i64 p.l,.int .i64 p.k,.int .i64 p.z,.int .i64 p.h,.slice p.r.a p.r.n p.r.c,.string p.r.s] 75)):=(Below.refl _ _).alloc (Nat.le_refl _) _;have ac:=((Aa ae).below (Aa HB)).below C;generalize aj:wr.alloc (.cells #[.int .i64 p.o,.int .i64 p.l,.int .i64 p.k,.int .i64 p.z,.int .i64 p.h,.slice p.r.a p.r.n p.r.c,.string p.r.s] 75)=w2 at*;have ad:=(Aa HT).below (Ad H C);have cB:=Cr (W:=w2) (fun w' Z=>Pb p.o p.l p.k p.z p.h p.r.a p.r.n p.r.c p.r.s w');have J:=Cr (W:=w2) (fun w' Z=>TI p.o p.l p.k p.z 0 none 0 0 [] ⟨#[]⟩ q.o q.l q.k q.z 0 none 0 0 [] ⟨#[]⟩ w' (ad.below Z) (Dv _) (Dv _) (by omega) (by omega) (Bx q.pd p.pd) (jd q p));obtain⟨x0,x1,x2,x3,x4,x5,x6⟩:=ab.at;obtain⟨y0,y1,y2,y3,y4,y5,y6⟩:=ac.at;have k0:=cell_regrown x0;have k1:=cell_regrown x1;have k2:=cell_regrown x2;have k3:=cell_regrown x3;have k4:=cell_regrown x4;have k5:=cell_regrown x5;have k6:=cell_regrown x6;have l0:=cell_regrown y0;have l1:=cell_regrown y1;have l2:=cell_regrown y2;have l3:=cell_regrown y3;have l4:=cell_regrown y4;have l5:=cell_regrown y5;have l6:=cell_regrown y6;have R:=Ab (Ad (Aa HB) C);clear ab ac C ad H x0 x1 x2 x3 x4 x5 x6 y0 y1 y2 y3 y4 y5 y6;cases O:Bx q.pd p.pd
   ·rw[O]at J
    have S:Hid ((ps.all fun p=>Bx q.pd p.pd)=false):=Ab (by rw[List.all_eq_false];exact⟨p,Aa D,by rw[O];decide⟩);clear E D P O;go_wp2_with fail;refine wp_region_quiet_below (by kernel_rfl) (by kernel_rfl) ?_
    repeat (with_reducible refine wpQuiet_step (fun K A=>?_);go_simp;first|(with_reducible refine A _ ?_;clear A K)|(apply Exists.intro;apply And.intro;(intro _;first|(go_at_call 248;exact cB _ _)|(go_at_call 203;exact J _ _));with_reducible refine A _ ?_;clear A K))
    refine wpQuiet_nil ?_;intro _ I;obtain⟨⟨V,y⟩,v⟩:=I;subst v;have d:=Ab (Ad (Aa R) (below_regrown w2 V y));clear cB J k0 k1 k2 k3 k4 k5 k6 l0 l1 l2 l3 l4 l5 l6;generalize grow (redrawn w2 V) y=w3 at*;go_wp2;go_ret;exact⟨by rw[Aa S];rfl,(Aa f).trans ((Aa d).mono (Aa f).size)⟩
   ·rw[O]at J
    have S:Hid (∀p∈ps.take (m+1),Bx q.pd p.pd=true):=Ab (fun x hx=>by
     rw[Aa E,List.mem_append,List.mem_singleton]at hx;rcases hx with hx|rfl
     ·exact Aa P x hx
     ·exact O)
    clear E D P O;go_wp2_with fail;refine wp_region_quiet_below (by kernel_rfl) (by kernel_rfl) ?_
    repeat (with_reducible refine wpQuiet_step (fun K A=>?_);go_simp;first|(with_reducible refine A _ ?_;clear A K)|(apply Exists.intro;apply And.intro;(intro _;first|(go_at_call 248;exact cB _ _)|(go_at_call 203;exact J _ _));with_reducible refine A _ ?_;clear A K))
    refine wpQuiet_nil ?_;intro _ I;obtain⟨⟨V,y⟩,v⟩:=I;subst v;have d:=Ab (Ad (Aa R) (below_regrown w2 V y));clear cB J k0 k1 k2 k3 k4 k5 k6 l0 l1 l2 l3 l4 l5 l6;generalize grow (redrawn w2 V) y=w3 at*;go_wp2;go_roundw
    case rel=>exact⟨m+1,by omega,by go_num,S,d⟩
    case measure=>simp[intOf];omega
  ·have af:ps.take m=ps:=List.take_of_length_le (by omega)
   rw[af]at P;have S:Hid ((ps.all fun p=>Bx q.pd p.pd)=true):=Ab (List.all_eq_true.2 (Aa P));go_wp2;go_ret;exact⟨by rw[Aa S];rfl,(Aa f).trans ((Aa HB).mono (Aa f).size)⟩
def IR(ps:List PKV)(m:Nat):Int:=(ps.take m).foldl (fun a p=>max a p.h) (ps.getD 0 .dflt).h
theorem lx{m:Nat}(h:m<ps.length):IR ps (m+1)=max (IR ps m) (ps.getD m .dflt).h:=by
 unfold IR;rw[SQ ps m h,List.foldl_append];rfl
theorem qZ(h:0<ps.length):IR ps ps.length=C6 (ps.map PKV.pd):=by
 cases ps with
 |nil=>simp at h
 |cons p Q=>
  unfold IR;rw[List.take_length];show(p::Q).foldl _ p.h=(Q.map PKV.pd).foldl _ p.h;rw[List.foldl_cons,List.foldl_map,Int.max_self];rfl
theorem eF(a:Option Addr)(n c:Nat)(ps:List PKV)(w:World)(h:PksAt w a n ps)(y:0<n)(Q:n<=1048576):
  Calls Tryz.prog 246 #[.slice a n c] w fun e w'=>e=.returned (.int .i64 (C6 (ps.map PKV.pd)))/\Below w.heap.size w w':=by
 obtain rfl:=h.1;obtain⟨b,off,rfl,d⟩:=h.at y;obtain⟨c0,c1,c2,c3,c4,c5,x⟩:=d 0 y;simp only[Nat.zero_mul,Nat.add_zero]at c0 c1 c2 c3 c4 c5 x;have J:(0:Int)<(ps.length:Int):=by omega
 have I:=Ab h;have E:=Ab (qZ y);have j:=Ab (show(ps.getD 0 .dflt).h=IR ps 0 from rfl);have C:=JM;generalize ps.getD 0 .dflt=q at*;clear h d;go_enter Tryz.func246,Tryz.ntmps246;go_wp2;go_loopw [3,12] (fun K i wr=> ∃m:Nat,m<=ps.length/\i=.int .i64 m/\K=.int .i64 (IR ps m)/\Hid (Below w.heap.size w wr)) (fun _ i _=>ps.length-(intOf i).toNat)
 case atStart=>exact⟨0,Nat.zero_le _,rfl,by rw[Aa j],Ab (Below.refl _ _)⟩
 case round=>
  obtain⟨m,P,rfl,rfl,u⟩:=hrel;clear c0 c1 c2 c3 c4 c5 x j;by_cases f:m<ps.length
  ·obtain⟨O,D,e,d⟩:=((Aa I).below (Aa u)).at f
   simp only[Option.some.injEq,Addr.mk.injEq,and_true]at e;obtain⟨rfl,rfl⟩:=e;obtain⟨c0,c1,c2,c3,c4,c5,x⟩:=d m f;have A:(m:Int)<(ps.length:Int):=by omega
   have H:=Ab (lx f);clear d;generalize ps.getD m .dflt=p at*;have v:=Ab (show Below w.heap.size w (wr.alloc (.cells #[.int .i64 p.o,.int .i64 p.l,.int .i64 p.k,.int .i64 p.z,.int .i64 p.h,.slice p.r.a p.r.n p.r.c,.string p.r.s] 75)) from Ad (Aa u) ((Below.refl _ _).alloc (Nat.le_refl _) _));go_wp2;go_roundw
   case rel=>exact⟨m+1,by omega,by go_num,by rw[Aa H],v⟩
   case measure=>simp[intOf];omega
  ·obtain rfl:m=ps.length:=by omega
   rw[Aa E];go_wp2;go_ret;exact⟨rfl,Aa u⟩
def Ah(ps:List PKV):List RV:=ps.map PKV.r
theorem Ev(ps:List PKV):(Ah ps).length=ps.length:=by simp[Ah]
theorem UF{i:Nat}(b:i<ps.length):(Ah ps).getD i .dflt=(ps.getD i .dflt).r:=by
 unfold Ah;rw[List.getD_eq_getElem?_getD,List.getElem?_map,List.getElem?_eq_getElem b,List.getD_eq_getElem?_getD,List.getElem?_eq_getElem b];rfl
theorem KsIn.rows{w:World}(h:KsIn w ps):Ae w (Ah ps):=fun r b=>by
 obtain⟨p,hp,rfl⟩:=List.mem_map.1 b;exact h p hp
theorem Tk(h:Qt ps){p:PKV}(hp:p∈ps):p.r.n<=10/\p.r.s.size<=1000:=by
 obtain⟨i,b,rfl⟩:=List.mem_iff_getElem.1 hp;have:=h i;rwa[List.getD_eq_getElem?_getD,List.getElem?_eq_getElem b]at this
theorem N3(h:∀p∈ps,p.r.n<=10/\p.r.s.size<=1000):Af (Ah ps):=rM fun r b=>by
 obtain⟨p,hp,rfl⟩:=List.mem_map.1 b;exact h p hp
theorem nQ(ps:List PKV):Fc (ps.map PKV.pd)=AO (Ah ps):=by
 unfold Fc AO Ah;rw[List.foldl_map,List.foldl_map];rfl
theorem nK(ps:List PKV):Hy (ps.map PKV.pd)=Cz ((Ah ps).map fun r=>r.s):=by
 unfold Hy Cz Ah;rw[List.foldl_map,List.map_map,List.foldl_map];rfl
theorem pw{us:List PKV}(h:0<us.length):E9 (us.map PKV.pd)=if Jn us=true/\0<cnt (AO (Ah us))/\C6 (us.map PKV.pd)<15 then some ⟨(us.getD 0 .dflt).o,(us.getD 0 .dflt).l,(us.getD 0 .dflt).k,(us.getD 0 .dflt).z,IntKind.i64.wrap (C6 (us.map PKV.pd)+1),AO (Ah us),st (Cz ((Ah us).map fun r=>r.s))⟩else none:=by
 cases us with
 |nil=>simp at h
 |cons p Q=>
  rw[<-nQ,<-nK];rw[List.map_cons,KI];have e:(∀r∈Q.map PKV.pd,Bx p.pd r=true)↔Jn (p::Q)=true:=by
   unfold Jn;rw[List.all_eq_true];constructor
   ·intro c x b
    rcases List.mem_cons.1 b with rfl|b
    ·exact O9 _
    ·exact c _ (List.mem_map_of_mem b)
   ·intro c x b
    obtain⟨y,d,rfl⟩:=List.mem_map.1 b;exact c y (List.mem_cons_of_mem _ d)
  simp only[e];rfl
theorem lD(a:Option Addr)(n c:Nat)(ps:List PKV)(w:World)(h:PksAt w a n ps)(hk:KsIn w ps)(hs:∀p∈ps,p.r.n<=10/\p.r.s.size<=1000)(hn:n<=300):
  Calls Tryz.prog 247 #[.slice a n c] w fun e w'=> ∃v,e=.returned (.agg #[v,.string (st (Cz ((Ah ps).map fun r=>r.s)))])/\Own w' w.heap.size v (AO (Ah ps))/\Below w.heap.size w w':=by
 obtain rfl:=h.1;have u:=(Below.refl w.heap.size w).alloc (Nat.le_refl _) (.cells #[.slice none 0 0,.string ⟨#[]⟩] 73);have hX:=JO w (.slice none 0 0) (.string ⟨#[]⟩);have y:(w.alloc (.cells #[.slice none 0 0,.string ⟨#[]⟩] 73)).heap.size=w.heap.size+1:=by simp
 have hP:=h.below u;have hK:=hk.below u;generalize aj:w.alloc (.cells #[.slice none 0 0,.string ⟨#[]⟩] 73)=W at*;have HP:=Ab hP;have HK:=Ab hK;have HX:=Ab hX;have J:=Ab u;have j:=Ab y;have HS:=Ab (N3 hs);have Y:=M2 ps.length (by omega) W;rw[y]at Y;have E:=M1 W ps.length (by omega) (BR (Ah ps) 0) (by rw[OF,Ev]);have O:Below W.heap.size W (W.alloc (.cells (madeCells #[.slice none 0 0,.string ⟨#[]⟩] (ps.length*2)) 73)):=(Below.refl _ _).alloc (Nat.le_refl _) _;rw[y]at E;have HM:=Ab E;have K:=Ab O;generalize ai:W.alloc (.cells (madeCells #[.slice none 0 0,.string ⟨#[]⟩] (ps.length*2)) 73)=W2 at*;clear h hk hs u hX hP hK E O y;go_enter Tryz.func247,Tryz.ntmps247;go_wp2;clear aj ai Y;go_loopw [11] (fun i wr=> ∃k:Nat,k<=ps.length/\i=.int .i64 k/\Hid (Ak wr (w.heap.size+1) (.slice (some ⟨w.heap.size+1,0,none⟩) ps.length ps.length) (BR (Ah ps) k))/\Hid (Below W.heap.size W wr)) (fun i _=>ps.length-(intOf i).toNat)
 case atStart=>exact⟨0,Nat.zero_le _,rfl,HM,K⟩
 case round=>
  obtain⟨k,hk,rfl,HI,A⟩:=hrel;clear HM K;by_cases x:k<ps.length
  ·obtain⟨b,off,rfl,Q⟩:=((Aa HP).below (Aa A)).at x
   obtain⟨c0,c1,c2,c3,c4,c5,c6⟩:=Q k x;have an:(k:Int)<(ps.length:Int):=by omega
   have hS:=OE (Ah ps) k (by rw[Ev];exact x);rw[UF x]at hS;clear Q;generalize ps.getD k .dflt=p at*;have d:Below wr.heap.size wr (wr.alloc (.cells #[.int .i64 p.o,.int .i64 p.l,.int .i64 p.k,.int .i64 p.z,.int .i64 p.h,.slice p.r.a p.r.n p.r.c,.string p.r.s] 75)):=(Below.refl _ _).alloc (Nat.le_refl _) _;have Z:=CM wr (.int .i64 p.o) (.int .i64 p.l) (.int .i64 p.k) (.int .i64 p.z) (.int .i64 p.h) (.slice p.r.a p.r.n p.r.c) (.string p.r.s);obtain⟨x0,x1,x2,x3,x4,x5,x6⟩:=Z.at;have q:=(Aa HI).below d;have f:=Ab (Ad (Aa A) d);generalize ao:wr.alloc (.cells #[.int .i64 p.o,.int .i64 p.l,.int .i64 p.k,.int .i64 p.z,.int .i64 p.h,.slice p.r.a p.r.n p.r.c,.string p.r.s] 75)=w3 at*;have S:(BR (Ah ps) k).length=ps.length:=by rw[NP _ _ (by rw[Ev];exact hk),Ev]
   have D:=Il (BR (Ah ps) k) k (by omega);have ab:=q.cellAt D.1;have ac:=q.cellAt D.2;have C:w3.ownsRow (w.heap.size+1) 73 2 (.slice (some ⟨w.heap.size+1,0,none⟩) ps.length ps.length) ps.length (cellsR (BR (Ah ps) k)):=by
    have:w3.ownsRow (w.heap.size+1) 73 2 (.slice (some ⟨w.heap.size+1,0,none⟩) ps.length ps.length) (BR (Ah ps) k).length (cellsR (BR (Ah ps) k)):=q;rwa[S]at this
   have al:=C.frozenAt (k*2);have am:=C.frozenAt (k*2+1);have I:=q.stored k p.r;rw[hS]at I;have ag:=Ab I;have V:W.heap.size<=w.heap.size+1:=by have:=Aa j;omega
   have ae:=Ab (((Aa f).setCell (p:=⟨w.heap.size+1,k*2,none⟩) V (.slice p.r.a p.r.n p.r.c)).setCell (p:=⟨w.heap.size+1,k*2+1,none⟩) V (.string p.r.s));clear q C I hS D S HI A Z d f;generalize (BR (Ah ps) k).getD k .dflt=z at*;go_wp2;go_roundw
   case rel=>exact⟨k+1,by omega,by go_num,ag,ae⟩
   case measure=>simp[intOf];omega
  ·obtain rfl:k=ps.length:=by omega
   have q:=Aa HI;rw[show BR (Ah ps) ps.length=Ah ps from by rw[<-Ev ps,O8]]at q;have X:=(Aa HK).rows.below (Aa A);obtain⟨aa,ak,P,R⟩:=q.at' X;have HC:=Ab (Y0 (some ⟨w.heap.size+1,0,none⟩) ps.length ps.length (Ah ps) wr aa (Aa HS) (by omega) P R);have ah:=Ab ((Aa HX).below (Aa A));have ad:=Ab ((Aa J).trans ((Aa A).mono (by have:=Aa j;omega)));have ap:w.heap.size+1<=wr.heap.size:=by have h1:=Aa j;have h2:=(Aa A).size;omega
   clear X aa ak P R A HX J j HS HP HK q HI;go_wp2_with (go_at_call 275;refine(Aa HC).mono ?_;rintro e w3 ⟨v,rfl,H,d⟩;obtain⟨a2,m2,c2,rfl⟩:∃a m c,v=Value.slice a m c:=(by obtain⟨a,c,e,_⟩:=H.row;exact⟨a,_,c,e⟩);obtain⟨⟨x0,x1⟩,f0,f1⟩:=(Aa ah).below d;have f:=Ab (Ad (Aa ad) d);have af:=Ab H;clear H d HC);have y1:=World.cell?_setCell_same (w3.setCell ⟨w.heap.size,0,none⟩ (.slice a2 m2 c2)) ⟨w.heap.size,1,none⟩ (.string (st (Cz ((Ah ps).map fun r=>r.s)))) ((World.cell?_setCell_other (h:=by simp) ..).trans x1)
   have y0:((w3.setCell ⟨w.heap.size,0,none⟩ (.slice a2 m2 c2)).setCell ⟨w.heap.size,1,none⟩ (.string (st (Cz ((Ah ps).map fun r=>r.s))))).cell? ⟨w.heap.size,0,none⟩=some (.slice a2 m2 c2):=
    (World.cell?_setCell_other (h:=by simp) ..).trans (World.cell?_setCell_same _ _ _ x0)
   exact bodyPost_ret (v:=.agg #[.slice a2 m2 c2,.string (st (Cz ((Ah ps).map fun r=>r.s)))]) (by simp[results,Tryz.results247,go_sem,y0,y1]) rfl
    ⟨_,rfl,(((Aa af).other (g:=w.heap.size) 0 _ (by omega)).other (g:=w.heap.size) 1 _ (by omega)).mono (by omega),((Aa f).setCell (Nat.le_refl _) _).setCell (Nat.le_refl _) _⟩
theorem rm{b n:Nat}(h:b<n):placeN (b:Int) n=b:=by
 have c:(b:Int).tmod n=b:=by
  rw[<-Int.ofNat_tmod,Nat.mod_eq_of_lt h]
 have d:((b:Int)+n).tmod n=b:=by
  have e:((b:Int)+n)=((b+n:Nat):Int):=by omega
  rw[e,<-Int.ofNat_tmod,Nat.add_mod_right,Nat.mod_eq_of_lt h]
 unfold placeN;rw[c,d];omega
theorem nS(ps:List PKV):AZ (Ah ps)=vecsD (ps.map PKV.pd):=by
 unfold AZ Ah vecsD;rw[List.map_map,List.map_map];rfl
theorem Yb{b:Nat}{t:Int}(c:b<ps.length):Ig (ps.map PKV.pd) (ID (Ah ps) (b:Int) t)=emitD (ps.map PKV.pd) b t:=by
 unfold ID emitD;rw[Ev,if_neg (by omega),rm c,nS,List.length_map]
def Gs(t:Int):Int:=min (max t (-1099511627776)) 1099511627776
theorem pQ(t:Int): -1099511627776<=Gs t/\Gs t<=1099511627776:=by unfold Gs;omega
variable {L:List Nat}{g B n N:Nat}{a:Option Addr}{T:TypeId}{v0 v1:Value}{w w':World}
def AW(T:TypeId)(w:World)(g:Nat)(v0 v1:Value):Prop:=w.heap[g]? =some (.cells #[v0,v1] T (0,0))
theorem YB(T:TypeId)(w:World)(v0 v1:Value):AW T (w.alloc (.cells #[v0,v1] T)) w.heap.size v0 v1:=by
 show(w.heap.push _)[w.heap.size]? =_;simp
theorem AW.lt(h:AW T w g v0 v1):g<w.heap.size:=(Array.getElem?_eq_some_iff.1 h).1
theorem AW.belowB(h:AW T w g v0 v1)(b:Below B w w')(c:g<B):AW T w' g v0 v1:=(b.block g c).trans h
theorem AW.below(h:AW T w g v0 v1)(b:Below w.heap.size w w'):AW T w' g v0 v1:=h.belowB b h.lt
theorem AW.kept{row:Option Nat}(h:AW T w g v0 v1)(c:w.grownBy w' row)(b:some g≠row):AW T w' g v0 v1:=(c.block g h.lt b).trans h
theorem AW.at0(h:AW T w g v0 v1):w.cell? ⟨g,0,none⟩=some v0:=by
 unfold AW at h;rw[cell_of_row w g _ _ _ _ h];rfl
theorem AW.at1(h:AW T w g v0 v1):w.cell? ⟨g,1,none⟩=some v1:=by
 unfold AW at h;rw[cell_of_row w g _ _ _ _ h];rfl
theorem AW.frz(h:AW T w g v0 v1)(i:Nat):w.frozen? ⟨g,i,none⟩=false:=by
 unfold AW at h;simp[World.frozen?,h]
theorem AW.set0(h:AW T w g v0 v1)(u:Value):AW T (w.setCell ⟨g,0,none⟩ u) g u v1:=heap_setCell_same w g 0 _ _ u h
theorem AW.set1(h:AW T w g v0 v1)(u:Value):AW T (w.setCell ⟨g,1,none⟩ u) g v0 u:=heap_setCell_same w g 1 _ _ u h
theorem AW.drew(h:AW T w g v0 v1):AW T w.drew g v0 v1:=h
theorem AW.apart{c:Nat}{i:Int}(h:AW T w g (.slice a n c) (.int .i64 i)){f:Option Addr}{m:Nat}{xs:List Nat}(r:RowAt w f m xs):
  m=0\/∀e,f=some e->some e.block≠some g:=by
 by_cases q:m=0
 ·exact .inl q
 ·refine .inr fun e o j=>?_
  obtain⟨l,off,d,p⟩:=r.at (i:=0) (by omega);rw[o]at d;obtain rfl:=Option.some.inj d;have b:=p 0 (by omega);simp only[Option.some.injEq]at j;subst j;unfold AW at h;rw[Nat.add_zero,cell_of_row w l _ _ _ _ h]at b
  match off,b with
  |0,b=>simp at b
  |1,b=>simp at b
  |k+2,b=>simp at b
theorem RowAt.belowB{xs:List Nat}(h:RowAt w a n xs)(f:Below B w w')(d:n=0\/∀e,a=some e->e.block<B):RowAt w' a n xs:=by
 refine⟨h.1,h.2.1,?_⟩;rcases h.2.2 with c|⟨b,off,rfl,j⟩
 ·exact .inl c
 ·rcases d with c|d
  ·exact .inl c
  ·exact .inr ⟨b,off,rfl,fun i k=>(f.cell (p:=⟨b,off+i,none⟩) (d ⟨b,off,none⟩ rfl)).trans (j i k)⟩
theorem RowAt.drew{xs:List Nat}(h:RowAt w a n xs):RowAt w.drew a n xs:=h.below (Below.refl _ _).drew
def Az(w:World)(g B:Nat)(L:List Nat)(N:Nat):Prop:=
 g<B/\Ac L/\∃a n c,AW 246 w g (.slice a n c) (.int .i64 (N:Int))/\n<=c/\c<=1048576/\RowAt w a n (L.drop N)/\(n=0\/∀b,a=some b->b.block<B/\∃d,w.heap[b.block]? =some (.cells d 265 (0,0)))
theorem Az.below(h:Az w g B L N)(d:Below B w w'):Az w' g B L N:=by
 obtain⟨f,l,a,n,c,m,o,p,q,i⟩:=h;exact⟨f,l,a,n,c,m.belowB d f,o,p,q.belowB d (i.imp id fun k b e=>(k b e).1),i.imp id fun k b e=>⟨(k b e).1,(k b e).2.imp fun j r=>(d.block _ (k b e).1).trans r⟩⟩
theorem Az.mono{B':Nat}(h:Az w g B L N)(p:B<=B'):Az w g B' L N:=by
 obtain⟨o,d,a,n,c,f,i,j,l,m⟩:=h;exact⟨by omega,d,a,n,c,f,i,j,l,m.imp id fun k b e=>⟨by have:=(k b e).1;omega,(k b e).2⟩⟩
theorem Az.kept{k:Nat}{r:Option Addr}{C s:Nat}{i:Int}(h:Az w g B L N)(o:w.grownBy w' (some k))(A:g≠k)(b:AW T w k (.slice r C s) (.int .i64 i)):Az w' g B L N:=by
 obtain⟨u,v,a,n,c,x,y,z,m,f⟩:=h;refine⟨u,v,a,n,c,x.kept o (fun e=>A (Option.some.inj e)),y,z,m.kept o (b.apart m),?_⟩;rcases f with l|f
 ·exact .inl l
 ·rcases b.apart m with l|p
  ·exact .inl l
  ·refine .inr fun d e=>⟨(f d e).1,?_⟩
   obtain⟨j,q⟩:=(f d e).2;exact⟨j,(o.block d.block (Array.getElem?_eq_some_iff.1 q).1 (p d e)).trans q⟩
theorem Az.lt(h:Az w g B L N):g<w.heap.size:=by
 obtain⟨d,e,a,n,c,b,f,i,j,k⟩:=h;exact b.lt
theorem M8:Tryz.prog.underlying 40=some (.slice (Tryz.prog.elem 40)):=by kernel_rfl
theorem WN:Tryz.prog.elem 40=265:=by kernel_rfl
theorem Q0(w:World):(sizeOf 265).run Tryz.prog w=.ok 1 w:=by kernel_rfl
theorem Nw:(Tryz.prog.info? 265).map (·.size)=some 1:=by kernel_rfl
theorem nV(b off n c:Nat)(e:n+1<=c):∃d,(n=0\/d=some ⟨b,off+1,none⟩)/\∀w:World,
  (Instr.sliceAt 40 (.slice (some ⟨b,off,none⟩) (n+1) c) (some (.int .i64 1)) none none).run Tryz.prog w=.ok (.slice d n (c-1)) w:=by
 refine⟨if c=1 then some ⟨b,off,none⟩else some ⟨b,off+1,none⟩,?_,fun w=>?_⟩
 ·by_cases h:c=1
  ·exact .inl (by omega)
  ·exact .inr (by rw[if_neg h])
 ·rw[run_sliceAt_slice _ _ _ _ _ _ M8,run_slice_l _ _ _ _ _ M8 _ _ (by omega) (by omega),WN,Q0]
  simp[Result.andThen,sliced,Addr.add]
theorem nU(b off n c:Nat)(w:World):
  (Instr.sliceAt 40 (.slice (some ⟨b,off,none⟩) n c) none (some (.int .i64 0)) none).run Tryz.prog w=.ok (.slice (some ⟨b,off,none⟩) 0 c) w:=by
 rw[run_sliceAt_slice _ _ _ _ _ _ M8,run_slice_h _ _ _ _ _ M8 _ _ (by omega) (by omega),WN,Q0];simp[Result.andThen,sliced,Addr.add]
theorem oA(g b off n c:Nat)(u:Value)(x:Nat)(w:World)(h:AW 246 w g (.slice (some ⟨b,off,none⟩) (n+1) c) u)(k:n+1<=c)(q:w.cell? ⟨b,off,none⟩=some (.int .u64 (x:Int))):
  Calls Tryz.prog 233 #[.pointer (some ⟨g,0,none⟩),.int .i64 0] w fun e w'=>e=.returned (.int .u64 (x:Int))/\∃d,(n=0\/d=some ⟨b,off+1,none⟩)/\AW 246 w' g (.slice d n (c-1)) u/\w.grownBy w' (some g):=by
 obtain⟨d,i,l⟩:=nV b off n c k;have m:=nU b off (n+1) c
 have f:∀(j:TypeId) (wx:World),(Builtin.copy_ #[40,40] j #[.slice d n (c-1),.slice (some ⟨b,off,none⟩) 0 c]).run Tryz.prog wx=.ok (goInt 0) wx:=
  fun j wx=>run_copy_none wx 40 40 j 265 _ _ _ _ _ _ Tryz.underlying40 Nw (Nat.min_eq_left (Nat.zero_le _))
 have o:=h.at0;have p:=h.frz 0;have H:=Ab h;have f:=f 3;clear h;go_enter Tryz.func233,Tryz.ntmps233;go_wp2_with fail;go_region_held (fun w'=>w'.cell? ⟨g,0,none⟩=some (.slice (some ⟨b,off,none⟩) (n+1) c)) (go_keep) (fail);go_wp2;go_ret;exact⟨rfl,d,i,((Aa H).set0 _).drew,JS (BF _ _ _ _)⟩
theorem Az.open(h:Az w g B L N)(s:N<L.length):
  ∃b off n c,AW 246 w g (.slice (some ⟨b,off,none⟩) (n+1) c) (.int .i64 (N:Int))/\n+1<=c/\c<=1048576/\n=L.length-(N+1)/\(b<B/\∃e,w.heap[b]? =some (.cells e 265 (0,0)))/\∀i,i<n+1->w.cell? ⟨b,off+i,none⟩=some (.int .u64 ((L.getD (N+i) 0:Nat):Int)):=by
 obtain⟨q,r,a,n,c,j,k,l,f,d⟩:=h;have u:n=L.length-N:=by rw[<-f.1,List.length_drop]
 obtain⟨b,off,rfl,o⟩:=f.at (i:=0) (by omega);obtain⟨m,rfl⟩:∃m,n=m+1:=⟨n-1,by omega⟩;refine⟨b,off,m,c,j,k,l,by omega,?_,fun i p=>?_⟩
 ·rcases d with d|d
  ·omega
  ·exact d _ rfl
 ·rw[o i p]
  simp[List.getD_eq_getElem?_getD,List.getElem?_drop]
theorem Az.close{f:Option Addr}{b off c:Nat}(r:g<B)(m:Ac L)(o:AW 246 w g (.slice f n c) (.int .i64 ((N+1:Nat):Int)))(q:n<=c)(k:c<=1048576)(y:n=L.length-(N+1))
  (l:n=0\/f=some ⟨b,off+1,none⟩) (p:b<B/\∃h,w.heap[b]? =some (.cells h 265 (0,0))) (d:∀i,i<n+1->w.cell? ⟨b,off+i,none⟩=some (.int .u64 ((L.getD (N+i) 0:Nat):Int))):Az w g B L (N+1):=by
 refine⟨r,m,f,n,c,o,q,k,⟨by rw[List.length_drop];omega,fun x s=>m x (List.mem_of_mem_drop s),?_⟩,?_⟩
 ·rcases l with j|rfl
  ·exact .inl j
  ·refine .inr ⟨b,off+1,rfl,fun i v=>?_⟩
   rw[show off+1+i=off+(i+1) by omega,d (i+1) (by omega)];simp[List.getD_eq_getElem?_getD,List.getElem?_drop,show N+(i+1)=N+1+i by omega]
 ·rcases l with j|rfl
  ·exact .inl j
  ·exact .inr fun u e=>by rw[<-Option.some.inj e];exact p
theorem Ul(g B:Nat)(L:List Nat)(N:Nat)(w:World)(h:Az w g B L N)(hN:N<=1099511627776):
  Calls Tryz.prog 195 #[.pointer (some ⟨g,0,none⟩)] w fun e w'=>e=.returned (.int .u64 ((BN L (N+1):Nat):Int))/\Az w' g B L (N+1)/\w.grownBy w' (some g):=by
 by_cases z:N<L.length
 ·have q:=h.1
  have m:=h.2.1;obtain⟨b,off,n,c,d,r,v,W,u,f⟩:=h.open z;have s:=f 0 (by omega);rw[Nat.add_zero,Nat.add_zero,<-oh z]at s;have j:b≠g:=by
   intro e;subst e;have l:=s;unfold AW at d;rw[cell_of_row w b _ _ _ _ d]at l
   match off,l with
   |0,l=>simp at l
   |1,l=>simp at l
   |k+2,l=>simp at l
  have I:=oA g b off n c (.int .i64 ((N+1:Nat):Int)) (BN L (N+1)) (w.setCell ⟨g,1,none⟩ (.int .i64 ((N+1:Nat):Int))) (d.set1 _) r (by rw[World.cell?_setCell_other _ _ _ _ (fun e=>j (congrArg Addr.block e).symm)];exact s);have l:=d.at0;have R:=d.at1;have V:=d.frz 1;have S:(w.setCell ⟨g,1,none⟩ (.int .i64 ((N+1:Nat):Int))).cell? ⟨g,0,none⟩=some (.slice (some ⟨b,off,none⟩) (n+1) c):=(d.set1 _).at0;have J:=Ab (fun i E=>(World.cell?_setCell_other w ⟨g,1,none⟩ ⟨b,off+i,none⟩ (.int .i64 ((N+1:Nat):Int)) (fun e=>j (congrArg Addr.block e).symm)).trans (f i E));have P:=Ab I;have X:=Ab d;clear I f s d h;go_enter Tryz.func195,Tryz.ntmps195;go_wp2_with (go_at_call 233;refine(Aa P).mono ?_;rintro e w1 ⟨rfl,Y,C,A,p⟩);go_ret;refine⟨rfl,Az.close q m A (by omega) (by omega) W C ⟨u.1,u.2.imp fun Q r=>(p.block b (by simpa using(Array.getElem?_eq_some_iff.1 r).1) (fun e=>j (Option.some.inj e))).trans ((Below.heap_setCell _ _ _ _ (fun e=>j e)).trans r)⟩ (fun i E=>p.cell (Aa J i E) (fun e=>j (Option.some.inj e))),BD (BF _ _ _ _) p (.inl rfl)⟩
 ·obtain⟨q,m,a,n,c,d,r,v,o,D⟩:=h
  have H:n=0:=by rw[<-o.1,List.length_drop];omega
  subst H
  have y:Az (w.setCell ⟨g,1,none⟩ (.int .i64 ((N+1:Nat):Int))) g B L (N+1):=
   ⟨q,m,a,0,c,d.set1 _,r,v,⟨by rw[List.length_drop];omega,fun x s=>m x (List.mem_of_mem_drop s),.inl rfl⟩,.inl rfl⟩
  have O:=Ab (kW (L:=L) (n:=N+1) (by omega));have l:=d.at0;have R:=d.at1;have V:=d.frz 1;have S:(w.setCell ⟨g,1,none⟩ (.int .i64 ((N+1:Nat):Int))).cell? ⟨g,0,none⟩=some (.slice a 0 c):=(d.set1 _).at0;have Z:(w.setCell ⟨g,1,none⟩ (.int .i64 ((N+1:Nat):Int))).cell? ⟨g,1,none⟩=some (.int .i64 ((N+1:Nat):Int)):=(d.set1 _).at1;have K:=Ab y;clear y o D d;go_enter Tryz.func195,Tryz.ntmps195;go_wp2;go_ret;refine⟨CC ?_,Aa K,BF _ _ _ _⟩;rw[Aa O,IntKind.wrap_u64];omega
theorem qv(x n:Nat)(b:1<=n)(c:n<=9223372036854775807):(x:Int).tmod (n:Int)=((x%n:Nat):Int)/\x%n<=9223372036854775807:=by
 have:=Nat.mod_lt x b;exact⟨by rw[Int.tmod_eq_emod_of_nonneg (by omega)];simp,by omega⟩
theorem Tt(g B:Nat)(L:List Nat)(N n:Nat)(w:World)(h:Az w g B L N)(j:N<=1099511627776)(c:1<=n)(d:n<=9223372036854775807):
  Calls Tryz.prog 201 #[.pointer (some ⟨g,0,none⟩),.int .i64 (n:Int)] w fun e w'=>e=.returned (.int .i64 ((BN L (N+1)%n:Nat):Int))/\Az w' g B L (N+1)/\w.grownBy w' (some g):=by
 have b:=Ab (Ul g B L N w h j);have m:=VI h.2.1 (N+1);clear h;generalize BN L (N+1)=x at*;obtain⟨l,k⟩:=qv x n c d;generalize x%n=y at*;go_enter Tryz.func201,Tryz.ntmps201;go_wp2_with (go_at_call 195;refine(Aa b).mono ?_;rintro e w1 ⟨rfl,f,i⟩);go_ret;exact⟨rfl,f,i⟩
theorem ZX:(Tryz.prog.info? 265).map (fun i=>(i.zero,i.size,i.bytes))=some (some (.int .u64 0),1,8):=by kernel_rfl
theorem QM(n:Nat)(h:n<=1048576)(wx:World):(Instr.makeSlice 40 (.int .i64 (n:Int)) (.int .i64 (n:Int))).run Tryz.prog wx=.ok (.slice (some ⟨wx.heap.size,0,none⟩) n n) (wx.alloc (.cells (madeCells #[.int .u64 0] n) 265)):=by
 obtain⟨f,b,c,e,d⟩:=info_parts ZX;have:=run_make (P:=Tryz.prog) wx 40 265 f (.int .u64 0) Tryz.underlying40 b c .i64 .i64 (n:Int) (n:Int) (by omega) (Int.le_refl _) (by rw[d];omega) (by omega);rw[e]at this;simpa [Value.cells]using this
theorem aN(a:Option Addr)(n c:Nat)(xs:List Nat)(w:World)(h:RowAt w a n xs)(q:TypeId):∃w2,(Builtin.copy_ #[40,40] q #[.slice (some ⟨w.heap.size,0,none⟩) n n,.slice a n c]).run Tryz.prog (w.alloc (.cells (madeCells #[.int .u64 0] n) 265))=.ok (goInt n) w2/\
  RowAt w2 (some ⟨w.heap.size,0,none⟩) n xs/\Below w.heap.size w w2/\(n=0\/∃o,w2.heap[w.heap.size]? =some (.cells o 265 (0,0))):=by
 have e:Below w.heap.size w (w.alloc (.cells (madeCells #[.int .u64 0] n) 265)):=(Below.refl _ _).alloc (Nat.le_refl _) _;by_cases s:n=0
 ·subst s
  refine⟨_,run_copy_none _ 40 40 q 265 _ _ _ _ _ _ Tryz.underlying40 Nw (Nat.min_eq_left (Nat.zero_le _)),⟨h.1,h.2.1,.inl rfl⟩,e,.inl rfl⟩
 ·obtain⟨b,off,rfl,x⟩:=h.at (i:=0) (by omega)
  have l:(cellsU xs).length=n:=by rw[NL];exact h.1
  have d:∀j,j<n->(w.alloc (.cells (madeCells #[.int .u64 0] n) 265)).cell? ⟨w.heap.size,0+j,none⟩=some (.int .u64 0):=by
   intro j f;rw[World.cell?_alloc_at _ _ _ _ rfl,<-Array.getElem?_toList,toList_madeCells_one,List.getElem?_replicate,if_pos (by omega)]
  refine⟨(w.alloc (.cells (madeCells #[.int .u64 0] n) 265)).setCells w.heap.size 0 (cellsU xs),?_,?_,?_,.inr ?_⟩
  ·have:=run_copy_cells (P:=Tryz.prog) (w.alloc (.cells (madeCells #[.int .u64 0] n) 265)) 40 40 q 265 w.heap.size 0 n n ⟨b,off,none⟩ n c (cellsU xs) Tryz.underlying40 Nw (by rw[l];exact(Nat.min_self n).symm) (h.below e).news
    (fun j f=>by rw[l]at f;rw[d j f];rfl) (fun j f=>by unfold World.frozen?;rw[heap_alloc_new];simp) (SD xs)
   rw[l]at this;exact this
  ·refine⟨h.1,h.2.1,.inr ⟨_,0,rfl,fun i p=>?_⟩⟩
   have:=World.cell?_setCells_in w.heap.size (cellsU xs) 0 (w.alloc (.cells (madeCells #[.int .u64 0] n) 265)) (fun j f=>by rw[l]at f;rw[d j f];rfl) i (by rw[l];exact p);rw[this];have r:=L3 xs i (by rw[h.1];exact p);rw[List.getElem?_eq_getElem (by rw[l];exact p)]at r;exact r
  ·exact e.trans (CK (GK w.heap.size (cellsU xs) 0 _) e.size (fun k v=>by rw[<-Option.some.inj v];exact Nat.le_refl _))
  ·obtain⟨m,u,_⟩:=GL w.heap.size 265 (cellsU xs) 0 _ _ (heap_alloc_new w (.cells (madeCells #[.int .u64 0] n) 265))
   exact⟨m,u⟩
theorem Zs(a:Option Addr)(n c:Nat)(xs:List Nat)(w:World)(h:RowAt w a n xs)(m:n<=1048576):
  Calls Tryz.prog 110 #[.slice a n c] w fun e w'=> ∃g,e=.returned (.pointer (some ⟨g,0,none⟩))/\w.heap.size<=g/\Az w' g w'.heap.size xs 0/\Below w.heap.size w w':=by
 obtain⟨w2,q,o,k,b⟩:=aN a n c xs w h 3;have f:=Ab b;have r:=QM n m w;have j:=Ab o;have p:=Ab k;clear h o k b;go_enter Tryz.func110,Tryz.ntmps110;go_wp2;go_ret;have d:=Aa p;refine⟨w2.heap.size,rfl,d.size,⟨by rw[Bc];omega,(Aa j).2.1,some ⟨w.heap.size,0,none⟩,n,n,YB _ _ _ _,Nat.le_refl _,m,?_,(Aa f).imp id fun b s e=>⟨?_,?_⟩⟩,d.alloc d.size _⟩
 ·exact GQ (Aa j) _
 ·rw[<-Option.some.inj e,Bc]
  have:=d.size;show w.heap.size<_;omega
 ·obtain⟨i,l⟩:=b
  rw[<-Option.some.inj e];refine⟨i,?_⟩;show(w2.heap.push _)[w.heap.size]? =_;rw[Array.getElem?_push_lt (Array.getElem?_eq_some_iff.1 l).1];exact(Array.getElem?_eq_getElem _).symm.trans l
end Go.Proofs.YtfpmnekaockodaaGreatDoor
