/-
  Laws that the proof stands on.
-/
import Derived.Test.YtmmikiikddokgaaGreatDoorU23
namespace Go.Proofs.YtmmikiikddokgaaGreatDoor
open Go.RowKit Go.Sort
set_option linter.unusedVariables false
set_option linter.unusedSimpArgs false
set_option maxRecDepth 4000
set_option maxHeartbeats 8000000
variable {ps:List PKV}
theorem mz{X:World}{tmps:Array Value}{g:Nat}{o l k z h:Int}{a:Option Addr}{n c:Nat}{s:ByteArray}(ht:tmps.getD 2 undef=.pointer (some ⟨g,0,none⟩))(d:AW X g (.int .i64 o) (.int .i64 l) (.int .i64 k) (.int .i64 z) (.int .i64 h) (.slice a n c) (.string s)):
  (results Tryz.f248 tmps).run Tryz.prog X=.ok (.agg #[.int .i64 o,.int .i64 l,.int .i64 k,.int .i64 z,.int .i64 h,.slice a n c,.string s]) X:=by
 obtain⟨e,r1,r2,f,i,j,m⟩:=d.at;have b:tmps[2]?.getD undef=.pointer (some ⟨g,0,none⟩):=by simpa using ht
 simp[results,Tryz.results248,go_sem,b,e,r1,r2,f,i,j,m]
theorem OV(o l k z hp:Int)(a:Option Addr)(n c:Nat)(s:ByteArray)(w:World):
  Calls Tryz.prog 248 #[.agg #[.int .i64 o,.int .i64 l,.int .i64 k,.int .i64 z,.int .i64 hp,.slice a n c,.string s]] w fun e w'=>e=.returned (.agg #[.int .i64 o,.int .i64 l,.int .i64 k,.int .i64 z,.int .i64 0,.slice none 0 0,.string ⟨#[]⟩])/\Below w.heap.size w w':=by
 have f:=(CL w (.int .i64 o) (.int .i64 l) (.int .i64 k) (.int .i64 z) (.int .i64 hp) (.slice a n c) (.string s)).below ((Below.refl _ _).alloc (Nat.le_refl _) (.cells #[.int .i64 0,.int .i64 0,.int .i64 0,.int .i64 0,.int .i64 0,.slice none 0 0,.string ⟨#[]⟩] 75));have b:=CL (w.alloc (.cells #[.int .i64 o,.int .i64 l,.int .i64 k,.int .i64 z,.int .i64 hp,.slice a n c,.string s] 75)) (.int .i64 0) (.int .i64 0) (.int .i64 0) (.int .i64 0) (.int .i64 0) (.slice none 0 0) (.string ⟨#[]⟩);rw[Bc]at b;have d:Below w.heap.size w ((w.alloc (.cells #[.int .i64 o,.int .i64 l,.int .i64 k,.int .i64 z,.int .i64 hp,.slice a n c,.string s] 75)).alloc (.cells #[.int .i64 0,.int .i64 0,.int .i64 0,.int .i64 0,.int .i64 0,.slice none 0 0,.string ⟨#[]⟩] 75)):=GI (Below.refl _ w) (Below.refl _ _);generalize hW:(w.alloc (.cells #[.int .i64 o,.int .i64 l,.int .i64 k,.int .i64 z,.int .i64 hp,.slice a n c,.string s] 75)).alloc (.cells #[.int .i64 0,.int .i64 0,.int .i64 0,.int .i64 0,.int .i64 0,.slice none 0 0,.string ⟨#[]⟩] 75)=W at*;obtain⟨m,p,q,r,u,v,x⟩:=f.at;obtain⟨y,A,C,D,E,G,H⟩:=b.at;have j:=b.frz;have i:=Ab b;have h:=Ab d;clear f b d;go_enter Tryz.func248,Tryz.ntmps248;go_wp2;exact bodyPost_ret (mz (g:=w.heap.size+1) (X:=set7 W (w.heap.size+1) (.int .i64 o) (.int .i64 l) (.int .i64 k) (.int .i64 z) (.int .i64 0) (.slice none 0 0) (.string ⟨#[]⟩)) rfl ((Aa i).sets _ _ _ _ _ _ _)) rfl ⟨rfl,CC (Aa h) (Nat.le_succ _) _ _ _ _ _ _ _⟩
def Jd(ps:List PKV):Bool:=ps.all fun p=>Bv (ps.getD 0 .dflt).pd p.pd
theorem ix(q p:PKV):TB (Bv q.pd p.pd) (MW p.o p.l p.k p.z 0 [] ⟨#[]⟩ q.o q.l q.k q.z 0 [] ⟨#[]⟩):=by
 unfold TB Bv MW;rw[decide_eq_true_iff];show(q.o=p.o/\q.l=p.l/\q.k=p.k/\q.z=p.z)↔_;constructor
 ·rintro⟨b,c,d,e⟩
  exact⟨⟨⟨b.symm,c.symm,d.symm,e.symm,rfl⟩,rfl⟩,rfl⟩
 ·intro h
  exact⟨h.1.1.1.symm,h.1.1.2.1.symm,h.1.1.2.2.1.symm,h.1.1.2.2.2.1.symm⟩
theorem SS(ps:List PKV)(k:Nat)(b:k<ps.length):ps.take (k+1)=ps.take k++[ps.getD k .dflt]:=by
 rw[List.take_succ_eq_append_getElem b];simp[List.getD_eq_getElem?_getD,List.getElem?_eq_getElem b]
theorem Lz(a:Option Addr)(n c:Nat)(ps:List PKV)(w:World)(ht:Tab w)(h:PksAt w a n ps)(h0:0<n)(hn:n<=1048576):
  Calls Tryz.prog 245 #[.slice a n c] w fun e w'=>e=.returned (.bool (Jd ps))/\Below w.heap.size w w':=by
 obtain rfl:=h.1;obtain⟨b,off,rfl,j⟩:=h.at h0;obtain⟨c0,c1,c2,c3,c4,c5,c6⟩:=j 0 h0;simp only[Nat.zero_mul,Nat.add_zero]at c0 c1 c2 c3 c4 c5 c6;have ah:(0:Int)<(ps.length:Int):=by omega
 have Hh:=Ab h;have HT:=Ab ht;unfold Jd;generalize ps.getD 0 .dflt=q at*;have d:=Ab (OV q.o q.l q.k q.z q.h q.r.a q.r.n q.r.c q.r.s w);clear h j ht;go_enter Tryz.func245,Tryz.ntmps245;go_wp2_with (go_at_call 248;refine(Aa d).mono ?_;rintro e w1 ⟨rfl,V⟩;have P:=Ab V;clear V);have Z:=CL w1 (.int .i64 q.o) (.int .i64 q.l) (.int .i64 q.k) (.int .i64 q.z) (.int .i64 0) (.slice none 0 0) (.string ⟨#[]⟩);have X:Below w1.heap.size w1 (w1.alloc (.cells #[.int .i64 q.o,.int .i64 q.l,.int .i64 q.k,.int .i64 q.z,.int .i64 0,.slice none 0 0,.string ⟨#[]⟩] 75)):=(Below.refl _ _).alloc (Nat.le_refl _) _;generalize hW:w1.alloc (.cells #[.int .i64 q.o,.int .i64 q.l,.int .i64 q.k,.int .i64 q.z,.int .i64 0,.slice none 0 0,.string ⟨#[]⟩] 75)=W at*;have ad:=Ab Z;have f:=Ab (Ad (Aa P) X);clear Z X hW P d c0 c1 c2 c3 c4 c5 c6;go_loopw [12] (fun i wr=> ∃m:Nat,m<=ps.length/\i=.int .i64 m/\Hid (∀p∈ps.take m,Bv q.pd p.pd=true)/\Hid (Below W.heap.size W wr)) (fun i _=>ps.length-(intOf i).toNat)
 case atStart=>exact⟨0,Nat.zero_le _,rfl,Ab (fun p hp=>by rw[List.take_zero]at hp;cases hp),Ab (Below.refl _ _)⟩
 case round=>
  obtain⟨m,hm,rfl,O,HB⟩:=hrel;by_cases u:m<ps.length
  ·have G:=(Aa f).trans ((Aa HB).mono (Aa f).size)
   obtain⟨b',ag,e,j⟩:=((Aa Hh).below G).at u;simp only[Option.some.injEq,Addr.mk.injEq,and_true]at e;obtain⟨rfl,rfl⟩:=e;obtain⟨c0,c1,c2,c3,c4,c5,c6⟩:=j m u;have af:(m:Int)<(ps.length:Int):=by omega
   have E:=Ab (SS ps m u);have D:=Ab (show ps.getD m .dflt∈ps from by rw[List.getD_eq_getElem?_getD,List.getElem?_eq_getElem u];exact List.getElem_mem u);clear j;generalize ps.getD m .dflt=p at*;have aa:=CL wr (.int .i64 p.o) (.int .i64 p.l) (.int .i64 p.k) (.int .i64 p.z) (.int .i64 p.h) (.slice p.r.a p.r.n p.r.c) (.string p.r.s);have C:Below wr.heap.size wr (wr.alloc (.cells #[.int .i64 p.o,.int .i64 p.l,.int .i64 p.k,.int .i64 p.z,.int .i64 p.h,.slice p.r.a p.r.n p.r.c,.string p.r.s] 75)):=(Below.refl _ _).alloc (Nat.le_refl _) _;have ab:=((Aa ad).below (Aa HB)).below C;generalize ai:wr.alloc (.cells #[.int .i64 p.o,.int .i64 p.l,.int .i64 p.k,.int .i64 p.z,.int .i64 p.h,.slice p.r.a p.r.n p.r.c,.string p.r.s] 75)=w2 at*;have ac:=(Aa HT).below (Ad G C);have cB:=Cq (W:=w2) (fun w' Y=>OV p.o p.l p.k p.z p.h p.r.a p.r.n p.r.c p.r.s w');have I:=Cq (W:=w2) (fun w' Y=>TK p.o p.l p.k p.z 0 none 0 0 [] ⟨#[]⟩ q.o q.l q.k q.z 0 none 0 0 [] ⟨#[]⟩ w' (ac.below Y) (Dv _) (Dv _) (by omega) (by omega) (Bv q.pd p.pd) (ix q p));obtain⟨x0,x1,x2,x3,x4,x5,x6⟩:=aa.at;obtain⟨y0,y1,y2,y3,y4,y5,y6⟩:=ab.at;have k0:=cell_regrown x0;have k1:=cell_regrown x1;have k2:=cell_regrown x2;have k3:=cell_regrown x3;have k4:=cell_regrown x4;have k5:=cell_regrown x5;have k6:=cell_regrown x6;have l0:=cell_regrown y0;have l1:=cell_regrown y1;have l2:=cell_regrown y2;have l3:=cell_regrown y3;have l4:=cell_regrown y4;have l5:=cell_regrown y5;have l6:=cell_regrown y6;have Q:=Ab (Ad (Aa HB) C);clear aa ab C ac G x0 x1 x2 x3 x4 x5 x6 y0 y1 y2 y3 y4 y5 y6;cases J:Bv q.pd p.pd
   ·rw[J]at I
    have R:Hid ((ps.all fun p=>Bv q.pd p.pd)=false):=Ab (by rw[List.all_eq_false];exact⟨p,Aa D,by rw[J];decide⟩);clear E D O J;go_wp2_with fail;refine wp_region_quiet_below (by kernel_rfl) (by kernel_rfl) ?_
    repeat (with_reducible refine wpQuiet_step (fun K A=>?_);go_simp;first|(with_reducible refine A _ ?_;clear A K)|(apply Exists.intro;apply And.intro;(intro _;first|(go_at_call 248;exact cB _ _)|(go_at_call 203;exact I _ _));with_reducible refine A _ ?_;clear A K))
    refine wpQuiet_nil ?_;intro _ H;obtain⟨⟨S,y⟩,v⟩:=H;subst v;have d:=Ab (Ad (Aa Q) (below_regrown w2 S y));clear cB I k0 k1 k2 k3 k4 k5 k6 l0 l1 l2 l3 l4 l5 l6;generalize grow (redrawn w2 S) y=w3 at*;go_wp2;go_ret;exact⟨by rw[Aa R];rfl,(Aa f).trans ((Aa d).mono (Aa f).size)⟩
   ·rw[J]at I
    have R:Hid (∀p∈ps.take (m+1),Bv q.pd p.pd=true):=Ab (fun x hx=>by
     rw[Aa E,List.mem_append,List.mem_singleton]at hx;rcases hx with hx|rfl
     ·exact Aa O x hx
     ·exact J)
    clear E D O J;go_wp2_with fail;refine wp_region_quiet_below (by kernel_rfl) (by kernel_rfl) ?_
    repeat (with_reducible refine wpQuiet_step (fun K A=>?_);go_simp;first|(with_reducible refine A _ ?_;clear A K)|(apply Exists.intro;apply And.intro;(intro _;first|(go_at_call 248;exact cB _ _)|(go_at_call 203;exact I _ _));with_reducible refine A _ ?_;clear A K))
    refine wpQuiet_nil ?_;intro _ H;obtain⟨⟨S,y⟩,v⟩:=H;subst v;have d:=Ab (Ad (Aa Q) (below_regrown w2 S y));clear cB I k0 k1 k2 k3 k4 k5 k6 l0 l1 l2 l3 l4 l5 l6;generalize grow (redrawn w2 S) y=w3 at*;go_wp2;go_roundw
    case rel=>exact⟨m+1,by omega,by go_num,R,d⟩
    case measure=>simp[intOf];omega
  ·have ae:ps.take m=ps:=List.take_of_length_le (by omega)
   rw[ae]at O;have R:Hid ((ps.all fun p=>Bv q.pd p.pd)=true):=Ab (List.all_eq_true.2 (Aa O));go_wp2;go_ret;exact⟨by rw[Aa R];rfl,(Aa f).trans ((Aa HB).mono (Aa f).size)⟩
def IH(ps:List PKV)(m:Nat):Int:=(ps.take m).foldl (fun a p=>max a p.h) (ps.getD 0 .dflt).h
theorem je{m:Nat}(h:m<ps.length):IH ps (m+1)=max (IH ps m) (ps.getD m .dflt).h:=by
 unfold IH;rw[SS ps m h,List.foldl_append];rfl
theorem nb(h:0<ps.length):IH ps ps.length=C7 (ps.map PKV.pd):=by
 cases ps with
 |nil=>simp at h
 |cons p Q=>
  unfold IH;rw[List.take_length];show(p::Q).foldl _ p.h=(Q.map PKV.pd).foldl _ p.h;rw[List.foldl_cons,List.foldl_map,Int.max_self];rfl
theorem dF(a:Option Addr)(n c:Nat)(ps:List PKV)(w:World)(h:PksAt w a n ps)(y:0<n)(P:n<=1048576):
  Calls Tryz.prog 246 #[.slice a n c] w fun e w'=>e=.returned (.int .i64 (C7 (ps.map PKV.pd)))/\Below w.heap.size w w':=by
 obtain rfl:=h.1;obtain⟨b,off,rfl,d⟩:=h.at y;obtain⟨c0,c1,c2,c3,c4,c5,x⟩:=d 0 y;simp only[Nat.zero_mul,Nat.add_zero]at c0 c1 c2 c3 c4 c5 x;have I:(0:Int)<(ps.length:Int):=by omega
 have H:=Ab h;have E:=Ab (nb y);have j:=Ab (show(ps.getD 0 .dflt).h=IH ps 0 from rfl);have C:=Jz;generalize ps.getD 0 .dflt=q at*;clear h d;go_enter Tryz.func246,Tryz.ntmps246;go_wp2;go_loopw [3,12] (fun J i wr=> ∃m:Nat,m<=ps.length/\i=.int .i64 m/\J=.int .i64 (IH ps m)/\Hid (Below w.heap.size w wr)) (fun _ i _=>ps.length-(intOf i).toNat)
 case atStart=>exact⟨0,Nat.zero_le _,rfl,by rw[Aa j],Ab (Below.refl _ _)⟩
 case round=>
  obtain⟨m,O,rfl,rfl,u⟩:=hrel;clear c0 c1 c2 c3 c4 c5 x j;by_cases f:m<ps.length
  ·obtain⟨K,D,e,d⟩:=((Aa H).below (Aa u)).at f
   simp only[Option.some.injEq,Addr.mk.injEq,and_true]at e;obtain⟨rfl,rfl⟩:=e;obtain⟨c0,c1,c2,c3,c4,c5,x⟩:=d m f;have A:(m:Int)<(ps.length:Int):=by omega
   have G:=Ab (je f);clear d;generalize ps.getD m .dflt=p at*;have v:=Ab (show Below w.heap.size w (wr.alloc (.cells #[.int .i64 p.o,.int .i64 p.l,.int .i64 p.k,.int .i64 p.z,.int .i64 p.h,.slice p.r.a p.r.n p.r.c,.string p.r.s] 75)) from Ad (Aa u) ((Below.refl _ _).alloc (Nat.le_refl _) _));go_wp2;go_roundw
   case rel=>exact⟨m+1,by omega,by go_num,by rw[Aa G],v⟩
   case measure=>simp[intOf];omega
  ·obtain rfl:m=ps.length:=by omega
   rw[Aa E];go_wp2;go_ret;exact⟨rfl,Aa u⟩
def Ah(ps:List PKV):List RV:=ps.map PKV.r
theorem Eo(ps:List PKV):(Ah ps).length=ps.length:=by simp[Ah]
theorem Tq{i:Nat}(b:i<ps.length):(Ah ps).getD i .dflt=(ps.getD i .dflt).r:=by
 unfold Ah;rw[List.getD_eq_getElem?_getD,List.getElem?_map,List.getElem?_eq_getElem b,List.getD_eq_getElem?_getD,List.getElem?_eq_getElem b];rfl
theorem KsIn.rows{w:World}(h:KsIn w ps):Ae w (Ah ps):=fun r b=>by
 obtain⟨p,hp,rfl⟩:=List.mem_map.1 b;exact h p hp
theorem SM(h:Qd ps){p:PKV}(hp:p∈ps):p.r.n<=10/\p.r.s.size<=1000:=by
 obtain⟨i,b,rfl⟩:=List.mem_iff_getElem.1 hp;have:=h i;rwa[List.getD_eq_getElem?_getD,List.getElem?_eq_getElem b]at this
theorem NV(h:∀p∈ps,p.r.n<=10/\p.r.s.size<=1000):Af (Ah ps):=rM fun r b=>by
 obtain⟨p,hp,rfl⟩:=List.mem_map.1 b;exact h p hp
theorem nQ(ps:List PKV):E1 (ps.map PKV.pd)=AN (Ah ps):=by
 unfold E1 AN Ah;rw[List.foldl_map,List.foldl_map];rfl
theorem nK(ps:List PKV):Ho (ps.map PKV.pd)=Cy ((Ah ps).map fun r=>r.s):=by
 unfold Ho Cy Ah;rw[List.foldl_map,List.map_map,List.foldl_map];rfl
theorem qI{us:List PKV}(h:0<us.length):EW (us.map PKV.pd)=if Jd us=true/\0<cnt (AN (Ah us))/\C7 (us.map PKV.pd)<15 then some ⟨(us.getD 0 .dflt).o,(us.getD 0 .dflt).l,(us.getD 0 .dflt).k,(us.getD 0 .dflt).z,IntKind.i64.wrap (C7 (us.map PKV.pd)+1),AN (Ah us),st (Cy ((Ah us).map fun r=>r.s))⟩else none:=by
 cases us with
 |nil=>simp at h
 |cons p Q=>
  rw[<-nQ,<-nK];rw[List.map_cons,Kq];have e:(∀r∈Q.map PKV.pd,Bv p.pd r=true)↔Jd (p::Q)=true:=by
   unfold Jd;rw[List.all_eq_true];constructor
   ·intro c x b
    rcases List.mem_cons.1 b with rfl|b
    ·exact OT _
    ·exact c _ (List.mem_map_of_mem b)
   ·intro c x b
    obtain⟨y,d,rfl⟩:=List.mem_map.1 b;exact c y (List.mem_cons_of_mem _ d)
  simp only[e];rfl
theorem kb(a:Option Addr)(n c:Nat)(ps:List PKV)(w:World)(h:PksAt w a n ps)(hk:KsIn w ps)(hs:∀p∈ps,p.r.n<=10/\p.r.s.size<=1000)(hn:n<=300):
  Calls Tryz.prog 247 #[.slice a n c] w fun e w'=> ∃v,e=.returned (.agg #[v,.string (st (Cy ((Ah ps).map fun r=>r.s)))])/\Own w' w.heap.size v (AN (Ah ps))/\Below w.heap.size w w':=by
 obtain rfl:=h.1;have u:=(Below.refl w.heap.size w).alloc (Nat.le_refl _) (.cells #[.slice none 0 0,.string ⟨#[]⟩] 73);have hX:=JB w (.slice none 0 0) (.string ⟨#[]⟩);have y:(w.alloc (.cells #[.slice none 0 0,.string ⟨#[]⟩] 73)).heap.size=w.heap.size+1:=by simp
 have hP:=h.below u;have hK:=hk.below u;generalize ai:w.alloc (.cells #[.slice none 0 0,.string ⟨#[]⟩] 73)=W at*;have HP:=Ab hP;have HK:=Ab hK;have HX:=Ab hX;have I:=Ab u;have j:=Ab y;have HS:=Ab (NV hs);have X:=MO ps.length (by omega) W;rw[y]at X;have E:=MN W ps.length (by omega) (BL (Ah ps) 0) (by rw[OE,Eo]);have K:Below W.heap.size W (W.alloc (.cells (madeCells #[.slice none 0 0,.string ⟨#[]⟩] (ps.length*2)) 73)):=(Below.refl _ _).alloc (Nat.le_refl _) _;rw[y]at E;have HM:=Ab E;have J:=Ab K;generalize ah:W.alloc (.cells (madeCells #[.slice none 0 0,.string ⟨#[]⟩] (ps.length*2)) 73)=W2 at*;clear h hk hs u hX hP hK E K y;go_enter Tryz.func247,Tryz.ntmps247;go_wp2;clear ai ah X;go_loopw [11] (fun i wr=> ∃k:Nat,k<=ps.length/\i=.int .i64 k/\Hid (Ak wr (w.heap.size+1) (.slice (some ⟨w.heap.size+1,0,none⟩) ps.length ps.length) (BL (Ah ps) k))/\Hid (Below W.heap.size W wr)) (fun i _=>ps.length-(intOf i).toNat)
 case atStart=>exact⟨0,Nat.zero_le _,rfl,HM,J⟩
 case round=>
  obtain⟨k,hk,rfl,HI,A⟩:=hrel;clear HM J;by_cases x:k<ps.length
  ·obtain⟨b,off,rfl,P⟩:=((Aa HP).below (Aa A)).at x
   obtain⟨c0,c1,c2,c3,c4,c5,c6⟩:=P k x;have am:(k:Int)<(ps.length:Int):=by omega
   have hS:=OD (Ah ps) k (by rw[Eo];exact x);rw[Tq x]at hS;clear P;generalize ps.getD k .dflt=p at*;have d:Below wr.heap.size wr (wr.alloc (.cells #[.int .i64 p.o,.int .i64 p.l,.int .i64 p.k,.int .i64 p.z,.int .i64 p.h,.slice p.r.a p.r.n p.r.c,.string p.r.s] 75)):=(Below.refl _ _).alloc (Nat.le_refl _) _;have Y:=CL wr (.int .i64 p.o) (.int .i64 p.l) (.int .i64 p.k) (.int .i64 p.z) (.int .i64 p.h) (.slice p.r.a p.r.n p.r.c) (.string p.r.s);obtain⟨x0,x1,x2,x3,x4,x5,x6⟩:=Y.at;have q:=(Aa HI).below d;have f:=Ab (Ad (Aa A) d);generalize an:wr.alloc (.cells #[.int .i64 p.o,.int .i64 p.l,.int .i64 p.k,.int .i64 p.z,.int .i64 p.h,.slice p.r.a p.r.n p.r.c,.string p.r.s] 75)=w3 at*;have R:(BL (Ah ps) k).length=ps.length:=by rw[NH _ _ (by rw[Eo];exact hk),Eo]
   have D:=Ib (BL (Ah ps) k) k (by omega);have aa:=q.cellAt D.1;have ab:=q.cellAt D.2;have C:w3.ownsRow (w.heap.size+1) 73 2 (.slice (some ⟨w.heap.size+1,0,none⟩) ps.length ps.length) ps.length (cellsR (BL (Ah ps) k)):=by
    have:w3.ownsRow (w.heap.size+1) 73 2 (.slice (some ⟨w.heap.size+1,0,none⟩) ps.length ps.length) (BL (Ah ps) k).length (cellsR (BL (Ah ps) k)):=q;rwa[R]at this
   have ak:=C.frozenAt (k*2);have al:=C.frozenAt (k*2+1);have H:=q.stored k p.r;rw[hS]at H;have af:=Ab H;have S:W.heap.size<=w.heap.size+1:=by have:=Aa j;omega
   have ad:=Ab (((Aa f).setCell (p:=⟨w.heap.size+1,k*2,none⟩) S (.slice p.r.a p.r.n p.r.c)).setCell (p:=⟨w.heap.size+1,k*2+1,none⟩) S (.string p.r.s));clear q C H hS D R HI A Y d f;generalize (BL (Ah ps) k).getD k .dflt=z at*;go_wp2;go_roundw
   case rel=>exact⟨k+1,by omega,by go_num,af,ad⟩
   case measure=>simp[intOf];omega
  ·obtain rfl:k=ps.length:=by omega
   have q:=Aa HI;rw[show BL (Ah ps) ps.length=Ah ps from by rw[<-Eo ps,O4]]at q;have V:=(Aa HK).rows.below (Aa A);obtain⟨Z,aj,O,Q⟩:=q.at' V;have HC:=Ab (Y8 (some ⟨w.heap.size+1,0,none⟩) ps.length ps.length (Ah ps) wr Z (Aa HS) (by omega) O Q);have ag:=Ab ((Aa HX).below (Aa A));have ac:=Ab ((Aa I).trans ((Aa A).mono (by have:=Aa j;omega)));have ao:w.heap.size+1<=wr.heap.size:=by have h1:=Aa j;have h2:=(Aa A).size;omega
   clear V Z aj O Q A HX I j HS HP HK q HI;go_wp2_with (go_at_call 275;refine(Aa HC).mono ?_;rintro e w3 ⟨v,rfl,G,d⟩;obtain⟨a2,m2,c2,rfl⟩:∃a m c,v=Value.slice a m c:=(by obtain⟨a,c,e,_⟩:=G.row;exact⟨a,_,c,e⟩);obtain⟨⟨x0,x1⟩,f0,f1⟩:=(Aa ag).below d;have f:=Ab (Ad (Aa ac) d);have ae:=Ab G;clear G d HC);have y1:=World.cell?_setCell_same (w3.setCell ⟨w.heap.size,0,none⟩ (.slice a2 m2 c2)) ⟨w.heap.size,1,none⟩ (.string (st (Cy ((Ah ps).map fun r=>r.s)))) ((World.cell?_setCell_other (h:=by simp) ..).trans x1)
   have y0:((w3.setCell ⟨w.heap.size,0,none⟩ (.slice a2 m2 c2)).setCell ⟨w.heap.size,1,none⟩ (.string (st (Cy ((Ah ps).map fun r=>r.s))))).cell? ⟨w.heap.size,0,none⟩=some (.slice a2 m2 c2):=
    (World.cell?_setCell_other (h:=by simp) ..).trans (World.cell?_setCell_same _ _ _ x0)
   exact bodyPost_ret (v:=.agg #[.slice a2 m2 c2,.string (st (Cy ((Ah ps).map fun r=>r.s)))]) (by simp[results,Tryz.results247,go_sem,y0,y1]) rfl
    ⟨_,rfl,(((Aa ae).other (g:=w.heap.size) 0 _ (by omega)).other (g:=w.heap.size) 1 _ (by omega)).mono (by omega),((Aa f).setCell (Nat.le_refl _) _).setCell (Nat.le_refl _) _⟩
theorem pC{b n:Nat}(h:b<n):placeN (b:Int) n=b:=by
 have c:(b:Int).tmod n=b:=by
  rw[<-Int.ofNat_tmod,Nat.mod_eq_of_lt h]
 have d:((b:Int)+n).tmod n=b:=by
  have e:((b:Int)+n)=((b+n:Nat):Int):=by omega
  rw[e,<-Int.ofNat_tmod,Nat.add_mod_right,Nat.mod_eq_of_lt h]
 unfold placeN;rw[c,d];omega
theorem nS(ps:List PKV):AY (Ah ps)=vecsD (ps.map PKV.pd):=by
 unfold AY Ah vecsD;rw[List.map_map,List.map_map];rfl
theorem Yk{b:Nat}{t:Int}(c:b<ps.length):H7 (ps.map PKV.pd) (Ir (Ah ps) (b:Int) t)=emitD (ps.map PKV.pd) b t:=by
 unfold Ir emitD;rw[Eo,if_neg (by omega),pC c,nS,List.length_map]
def Gh(t:Int):Int:=min (max t (-1099511627776)) 1099511627776
theorem oV(t:Int): -1099511627776<=Gh t/\Gh t<=1099511627776:=by unfold Gh;omega
variable {L:List Nat}{g B n N:Nat}{a:Option Addr}{T:TypeId}{v0 v1:Value}{w w':World}
def AV(T:TypeId)(w:World)(g:Nat)(v0 v1:Value):Prop:=w.heap[g]? =some (.cells #[v0,v1] T (0,0))
theorem XB(T:TypeId)(w:World)(v0 v1:Value):AV T (w.alloc (.cells #[v0,v1] T)) w.heap.size v0 v1:=by
 show(w.heap.push _)[w.heap.size]? =_;simp
theorem AV.lt(h:AV T w g v0 v1):g<w.heap.size:=(Array.getElem?_eq_some_iff.1 h).1
theorem AV.belowB(h:AV T w g v0 v1)(b:Below B w w')(c:g<B):AV T w' g v0 v1:=(b.block g c).trans h
theorem AV.below(h:AV T w g v0 v1)(b:Below w.heap.size w w'):AV T w' g v0 v1:=h.belowB b h.lt
theorem AV.kept{row:Option Nat}(h:AV T w g v0 v1)(c:w.grownBy w' row)(b:some g≠row):AV T w' g v0 v1:=(c.block g h.lt b).trans h
theorem AV.at0(h:AV T w g v0 v1):w.cell? ⟨g,0,none⟩=some v0:=by
 unfold AV at h;rw[cell_of_row w g _ _ _ _ h];rfl
theorem AV.at1(h:AV T w g v0 v1):w.cell? ⟨g,1,none⟩=some v1:=by
 unfold AV at h;rw[cell_of_row w g _ _ _ _ h];rfl
theorem AV.frz(h:AV T w g v0 v1)(i:Nat):w.frozen? ⟨g,i,none⟩=false:=by
 unfold AV at h;simp[World.frozen?,h]
theorem AV.set0(h:AV T w g v0 v1)(u:Value):AV T (w.setCell ⟨g,0,none⟩ u) g u v1:=heap_setCell_same w g 0 _ _ u h
theorem AV.set1(h:AV T w g v0 v1)(u:Value):AV T (w.setCell ⟨g,1,none⟩ u) g v0 u:=heap_setCell_same w g 1 _ _ u h
theorem AV.drew(h:AV T w g v0 v1):AV T w.drew g v0 v1:=h
theorem AV.apart{c:Nat}{i:Int}(h:AV T w g (.slice a n c) (.int .i64 i)){f:Option Addr}{m:Nat}{xs:List Nat}(r:RowAt w f m xs):
  m=0\/∀e,f=some e->some e.block≠some g:=by
 by_cases q:m=0
 ·exact .inl q
 ·refine .inr fun e o j=>?_
  obtain⟨l,off,d,p⟩:=r.at (i:=0) (by omega);rw[o]at d;obtain rfl:=Option.some.inj d;have b:=p 0 (by omega);simp only[Option.some.injEq]at j;subst j;unfold AV at h;rw[Nat.add_zero,cell_of_row w l _ _ _ _ h]at b
  match off,b with
  |0,b=>simp at b
  |1,b=>simp at b
  |k+2,b=>simp at b
theorem RowAt.belowB{xs:List Nat}(h:RowAt w a n xs)(f:Below B w w')(d:n=0\/∀e,a=some e->e.block<B):RowAt w' a n xs:=by
 refine⟨h.1,h.2.1,?_⟩;rcases h.2.2 with c|⟨b,off,rfl,j⟩
 ·exact .inl c
 ·rcases d with c|d
  ·exact .inl c
  ·exact .inr ⟨b,off,rfl,fun i k=>(f.cell (p:=⟨b,off+i,none⟩) (d ⟨b,off,none⟩ rfl)).trans (j i k)⟩
theorem RowAt.drew{xs:List Nat}(h:RowAt w a n xs):RowAt w.drew a n xs:=h.below (Below.refl _ _).drew
def Az(w:World)(g B:Nat)(L:List Nat)(N:Nat):Prop:=
 g<B/\Ac L/\∃a n c,AV 246 w g (.slice a n c) (.int .i64 (N:Int))/\n<=c/\c<=1048576/\RowAt w a n (L.drop N)/\(n=0\/∀b,a=some b->b.block<B/\∃d,w.heap[b.block]? =some (.cells d 265 (0,0)))
theorem Az.below(h:Az w g B L N)(d:Below B w w'):Az w' g B L N:=by
 obtain⟨f,l,a,n,c,m,o,p,q,i⟩:=h;exact⟨f,l,a,n,c,m.belowB d f,o,p,q.belowB d (i.imp id fun k b e=>(k b e).1),i.imp id fun k b e=>⟨(k b e).1,(k b e).2.imp fun j r=>(d.block _ (k b e).1).trans r⟩⟩
theorem Az.mono{B':Nat}(h:Az w g B L N)(p:B<=B'):Az w g B' L N:=by
 obtain⟨o,d,a,n,c,f,i,j,l,m⟩:=h;exact⟨by omega,d,a,n,c,f,i,j,l,m.imp id fun k b e=>⟨by have:=(k b e).1;omega,(k b e).2⟩⟩
theorem Az.kept{k:Nat}{r:Option Addr}{C s:Nat}{i:Int}(h:Az w g B L N)(o:w.grownBy w' (some k))(A:g≠k)(b:AV T w k (.slice r C s) (.int .i64 i)):Az w' g B L N:=by
 obtain⟨u,v,a,n,c,x,y,z,m,f⟩:=h;refine⟨u,v,a,n,c,x.kept o (fun e=>A (Option.some.inj e)),y,z,m.kept o (b.apart m),?_⟩;rcases f with l|f
 ·exact .inl l
 ·rcases b.apart m with l|p
  ·exact .inl l
  ·refine .inr fun d e=>⟨(f d e).1,?_⟩
   obtain⟨j,q⟩:=(f d e).2;exact⟨j,(o.block d.block (Array.getElem?_eq_some_iff.1 q).1 (p d e)).trans q⟩
theorem Az.lt(h:Az w g B L N):g<w.heap.size:=by
 obtain⟨d,e,a,n,c,b,f,i,j,k⟩:=h;exact b.lt
theorem MP:Tryz.prog.underlying 40=some (.slice (Tryz.prog.elem 40)):=by kernel_rfl
theorem WC:Tryz.prog.elem 40=265:=by kernel_rfl
theorem Qo(w:World):(sizeOf 265).run Tryz.prog w=.ok 1 w:=by kernel_rfl
theorem M7:(Tryz.prog.info? 265).map (·.size)=some 1:=by kernel_rfl
theorem md(b off n c:Nat)(e:n+1<=c):∃d,(n=0\/d=some ⟨b,off+1,none⟩)/\∀w:World,
  (Instr.sliceAt 40 (.slice (some ⟨b,off,none⟩) (n+1) c) (some (.int .i64 1)) none none).run Tryz.prog w=.ok (.slice d n (c-1)) w:=by
 refine⟨if c=1 then some ⟨b,off,none⟩else some ⟨b,off+1,none⟩,?_,fun w=>?_⟩
 ·by_cases h:c=1
  ·exact .inl (by omega)
  ·exact .inr (by rw[if_neg h])
 ·rw[run_sliceAt_slice _ _ _ _ _ _ MP,run_slice_l _ _ _ _ _ MP _ _ (by omega) (by omega),WC,Qo]
  simp[Result.andThen,sliced,Addr.add]
theorem mc(b off n c:Nat)(w:World):
  (Instr.sliceAt 40 (.slice (some ⟨b,off,none⟩) n c) none (some (.int .i64 0)) none).run Tryz.prog w=.ok (.slice (some ⟨b,off,none⟩) 0 c) w:=by
 rw[run_sliceAt_slice _ _ _ _ _ _ MP,run_slice_h _ _ _ _ _ MP _ _ (by omega) (by omega),WC,Qo];simp[Result.andThen,sliced,Addr.add]
theorem nC(g b off n c:Nat)(u:Value)(x:Nat)(w:World)(h:AV 246 w g (.slice (some ⟨b,off,none⟩) (n+1) c) u)(k:n+1<=c)(q:w.cell? ⟨b,off,none⟩=some (.int .u64 (x:Int))):
  Calls Tryz.prog 233 #[.pointer (some ⟨g,0,none⟩),.int .i64 0] w fun e w'=>e=.returned (.int .u64 (x:Int))/\∃d,(n=0\/d=some ⟨b,off+1,none⟩)/\AV 246 w' g (.slice d n (c-1)) u/\w.grownBy w' (some g):=by
 obtain⟨d,i,l⟩:=md b off n c k;have m:=mc b off (n+1) c
 have f:∀(j:TypeId) (wx:World),(Builtin.copy_ #[40,40] j #[.slice d n (c-1),.slice (some ⟨b,off,none⟩) 0 c]).run Tryz.prog wx=.ok (goInt 0) wx:=
  fun j wx=>run_copy_none wx 40 40 j 265 _ _ _ _ _ _ Tryz.underlying40 M7 (Nat.min_eq_left (Nat.zero_le _))
 have o:=h.at0;have p:=h.frz 0;have H:=Ab h;have f:=f 3;clear h;go_enter Tryz.func233,Tryz.ntmps233;go_wp2_with fail;go_region_held (fun w'=>w'.cell? ⟨g,0,none⟩=some (.slice (some ⟨b,off,none⟩) (n+1) c)) (go_keep) (fail);go_wp2;go_ret;exact⟨rfl,d,i,((Aa H).set0 _).drew,JI (BA _ _ _ _)⟩
theorem Az.open(h:Az w g B L N)(s:N<L.length):
  ∃b off n c,AV 246 w g (.slice (some ⟨b,off,none⟩) (n+1) c) (.int .i64 (N:Int))/\n+1<=c/\c<=1048576/\n=L.length-(N+1)/\(b<B/\∃e,w.heap[b]? =some (.cells e 265 (0,0)))/\∀i,i<n+1->w.cell? ⟨b,off+i,none⟩=some (.int .u64 ((L.getD (N+i) 0:Nat):Int)):=by
 obtain⟨q,r,a,n,c,j,k,l,f,d⟩:=h;have u:n=L.length-N:=by rw[<-f.1,List.length_drop]
 obtain⟨b,off,rfl,o⟩:=f.at (i:=0) (by omega);obtain⟨m,rfl⟩:∃m,n=m+1:=⟨n-1,by omega⟩;refine⟨b,off,m,c,j,k,l,by omega,?_,fun i p=>?_⟩
 ·rcases d with d|d
  ·omega
  ·exact d _ rfl
 ·rw[o i p]
  simp[List.getD_eq_getElem?_getD,List.getElem?_drop]
theorem Az.close{f:Option Addr}{b off c:Nat}(r:g<B)(m:Ac L)(o:AV 246 w g (.slice f n c) (.int .i64 ((N+1:Nat):Int)))(q:n<=c)(k:c<=1048576)(y:n=L.length-(N+1))
  (l:n=0\/f=some ⟨b,off+1,none⟩) (p:b<B/\∃h,w.heap[b]? =some (.cells h 265 (0,0))) (d:∀i,i<n+1->w.cell? ⟨b,off+i,none⟩=some (.int .u64 ((L.getD (N+i) 0:Nat):Int))):Az w g B L (N+1):=by
 refine⟨r,m,f,n,c,o,q,k,⟨by rw[List.length_drop];omega,fun x s=>m x (List.mem_of_mem_drop s),?_⟩,?_⟩
 ·rcases l with j|rfl
  ·exact .inl j
  ·refine .inr ⟨b,off+1,rfl,fun i v=>?_⟩
   rw[show off+1+i=off+(i+1) by omega,d (i+1) (by omega)];simp[List.getD_eq_getElem?_getD,List.getElem?_drop,show N+(i+1)=N+1+i by omega]
 ·rcases l with j|rfl
  ·exact .inl j
  ·exact .inr fun u e=>by rw[<-Option.some.inj e];exact p
theorem Ta(g B:Nat)(L:List Nat)(N:Nat)(w:World)(h:Az w g B L N)(Z:N<=1099511627776):
  Calls Tryz.prog 195 #[.pointer (some ⟨g,0,none⟩)] w fun e w'=>e=.returned (.int .u64 ((BH L (N+1):Nat):Int))/\Az w' g B L (N+1)/\w.grownBy w' (some g):=by
 by_cases z:N<L.length
 ·have q:=h.1
  have m:=h.2.1;obtain⟨b,off,n,c,d,r,v,V,u,f⟩:=h.open z;have s:=f 0 (by omega);rw[Nat.add_zero,Nat.add_zero,<-nh z]at s;have j:b≠g:=by
   intro e;subst e;have l:=s;unfold AV at d;rw[cell_of_row w b _ _ _ _ d]at l
   match off,l with
   |0,l=>simp at l
   |1,l=>simp at l
   |k+2,l=>simp at l
  have H:=nC g b off n c (.int .i64 ((N+1:Nat):Int)) (BH L (N+1)) (w.setCell ⟨g,1,none⟩ (.int .i64 ((N+1:Nat):Int))) (d.set1 _) r (by rw[World.cell?_setCell_other _ _ _ _ (fun e=>j (congrArg Addr.block e).symm)];exact s);have l:=d.at0;have Q:=d.at1;have S:=d.frz 1;have R:(w.setCell ⟨g,1,none⟩ (.int .i64 ((N+1:Nat):Int))).cell? ⟨g,0,none⟩=some (.slice (some ⟨b,off,none⟩) (n+1) c):=(d.set1 _).at0;have I:=Ab (fun i E=>(World.cell?_setCell_other w ⟨g,1,none⟩ ⟨b,off+i,none⟩ (.int .i64 ((N+1:Nat):Int)) (fun e=>j (congrArg Addr.block e).symm)).trans (f i E));have O:=Ab H;have W:=Ab d;clear H f s d h;go_enter Tryz.func195,Tryz.ntmps195;go_wp2_with (go_at_call 233;refine(Aa O).mono ?_;rintro e w1 ⟨rfl,X,C,A,p⟩);go_ret;refine⟨rfl,Az.close q m A (by omega) (by omega) V C ⟨u.1,u.2.imp fun P r=>(p.block b (by simpa using(Array.getElem?_eq_some_iff.1 r).1) (fun e=>j (Option.some.inj e))).trans ((Below.heap_setCell _ _ _ _ (fun e=>j e)).trans r)⟩ (fun i E=>p.cell (Aa I i E) (fun e=>j (Option.some.inj e))),By (BA _ _ _ _) p (.inl rfl)⟩
 ·obtain⟨q,m,a,n,c,d,r,v,o,D⟩:=h
  have G:n=0:=by rw[<-o.1,List.length_drop];omega
  subst G
  have y:Az (w.setCell ⟨g,1,none⟩ (.int .i64 ((N+1:Nat):Int))) g B L (N+1):=
   ⟨q,m,a,0,c,d.set1 _,r,v,⟨by rw[List.length_drop];omega,fun x s=>m x (List.mem_of_mem_drop s),.inl rfl⟩,.inl rfl⟩
  have K:=Ab (kN (L:=L) (n:=N+1) (by omega));have l:=d.at0;have Q:=d.at1;have S:=d.frz 1;have R:(w.setCell ⟨g,1,none⟩ (.int .i64 ((N+1:Nat):Int))).cell? ⟨g,0,none⟩=some (.slice a 0 c):=(d.set1 _).at0;have Y:(w.setCell ⟨g,1,none⟩ (.int .i64 ((N+1:Nat):Int))).cell? ⟨g,1,none⟩=some (.int .i64 ((N+1:Nat):Int)):=(d.set1 _).at1;have J:=Ab y;clear y o D d;go_enter Tryz.func195,Tryz.ntmps195;go_wp2;go_ret;refine⟨CB ?_,Aa J,BA _ _ _ _⟩;rw[Aa K,IntKind.wrap_u64];omega
theorem qw(x n:Nat)(b:1<=n)(c:n<=9223372036854775807):(x:Int).tmod (n:Int)=((x%n:Nat):Int)/\x%n<=9223372036854775807:=by
 have:=Nat.mod_lt x b;exact⟨by rw[Int.tmod_eq_emod_of_nonneg (by omega)];simp,by omega⟩
theorem Tk(g B:Nat)(L:List Nat)(N n:Nat)(w:World)(h:Az w g B L N)(j:N<=1099511627776)(c:1<=n)(d:n<=9223372036854775807):
  Calls Tryz.prog 201 #[.pointer (some ⟨g,0,none⟩),.int .i64 (n:Int)] w fun e w'=>e=.returned (.int .i64 ((BH L (N+1)%n:Nat):Int))/\Az w' g B L (N+1)/\w.grownBy w' (some g):=by
 have b:=Ab (Ta g B L N w h j);have m:=Vn h.2.1 (N+1);clear h;generalize BH L (N+1)=x at*;obtain⟨l,k⟩:=qw x n c d;generalize x%n=y at*;go_enter Tryz.func201,Tryz.ntmps201;go_wp2_with (go_at_call 195;refine(Aa b).mono ?_;rintro e w1 ⟨rfl,f,i⟩);go_ret;exact⟨rfl,f,i⟩
theorem ZU:(Tryz.prog.info? 265).map (fun i=>(i.zero,i.size,i.bytes))=some (some (.int .u64 0),1,8):=by kernel_rfl
theorem QG(n:Nat)(h:n<=1048576)(wx:World):(Instr.makeSlice 40 (.int .i64 (n:Int)) (.int .i64 (n:Int))).run Tryz.prog wx=.ok (.slice (some ⟨wx.heap.size,0,none⟩) n n) (wx.alloc (.cells (madeCells #[.int .u64 0] n) 265)):=by
 obtain⟨f,b,c,e,d⟩:=info_parts ZU;have:=run_make (P:=Tryz.prog) wx 40 265 f (.int .u64 0) Tryz.underlying40 b c .i64 .i64 (n:Int) (n:Int) (by omega) (Int.le_refl _) (by rw[d];omega) (by omega);rw[e]at this;simpa [Value.cells]using this
theorem YI(a:Option Addr)(n c:Nat)(xs:List Nat)(w:World)(h:RowAt w a n xs)(q:TypeId):∃w2,(Builtin.copy_ #[40,40] q #[.slice (some ⟨w.heap.size,0,none⟩) n n,.slice a n c]).run Tryz.prog (w.alloc (.cells (madeCells #[.int .u64 0] n) 265))=.ok (goInt n) w2/\
  RowAt w2 (some ⟨w.heap.size,0,none⟩) n xs/\Below w.heap.size w w2/\(n=0\/∃o,w2.heap[w.heap.size]? =some (.cells o 265 (0,0))):=by
 have e:Below w.heap.size w (w.alloc (.cells (madeCells #[.int .u64 0] n) 265)):=(Below.refl _ _).alloc (Nat.le_refl _) _;by_cases s:n=0
 ·subst s
  refine⟨_,run_copy_none _ 40 40 q 265 _ _ _ _ _ _ Tryz.underlying40 M7 (Nat.min_eq_left (Nat.zero_le _)),⟨h.1,h.2.1,.inl rfl⟩,e,.inl rfl⟩
 ·obtain⟨b,off,rfl,x⟩:=h.at (i:=0) (by omega)
  have l:(cellsU xs).length=n:=by rw[Nu];exact h.1
  have d:∀j,j<n->(w.alloc (.cells (madeCells #[.int .u64 0] n) 265)).cell? ⟨w.heap.size,0+j,none⟩=some (.int .u64 0):=by
   intro j f;rw[World.cell?_alloc_at _ _ _ _ rfl,<-Array.getElem?_toList,toList_madeCells_one,List.getElem?_replicate,if_pos (by omega)]
  refine⟨(w.alloc (.cells (madeCells #[.int .u64 0] n) 265)).setCells w.heap.size 0 (cellsU xs),?_,?_,?_,.inr ?_⟩
  ·have:=run_copy_cells (P:=Tryz.prog) (w.alloc (.cells (madeCells #[.int .u64 0] n) 265)) 40 40 q 265 w.heap.size 0 n n ⟨b,off,none⟩ n c (cellsU xs) Tryz.underlying40 M7 (by rw[l];exact(Nat.min_self n).symm) (h.below e).news
    (fun j f=>by rw[l]at f;rw[d j f];rfl) (fun j f=>by unfold World.frozen?;rw[heap_alloc_new];simp) (Sl xs)
   rw[l]at this;exact this
  ·refine⟨h.1,h.2.1,.inr ⟨_,0,rfl,fun i p=>?_⟩⟩
   have:=World.cell?_setCells_in w.heap.size (cellsU xs) 0 (w.alloc (.cells (madeCells #[.int .u64 0] n) 265)) (fun j f=>by rw[l]at f;rw[d j f];rfl) i (by rw[l];exact p);rw[this];have r:=LO xs i (by rw[h.1];exact p);rw[List.getElem?_eq_getElem (by rw[l];exact p)]at r;exact r
  ·exact e.trans (CJ (Gy w.heap.size (cellsU xs) 0 _) e.size (fun k v=>by rw[<-Option.some.inj v];exact Nat.le_refl _))
  ·obtain⟨m,u,_⟩:=Gz w.heap.size 265 (cellsU xs) 0 _ _ (heap_alloc_new w (.cells (madeCells #[.int .u64 0] n) 265))
   exact⟨m,u⟩
theorem Yc(a:Option Addr)(n c:Nat)(xs:List Nat)(w:World)(h:RowAt w a n xs)(m:n<=1048576):
  Calls Tryz.prog 110 #[.slice a n c] w fun e w'=> ∃g,e=.returned (.pointer (some ⟨g,0,none⟩))/\w.heap.size<=g/\Az w' g w'.heap.size xs 0/\Below w.heap.size w w':=by
 obtain⟨w2,q,o,k,b⟩:=YI a n c xs w h 3;have f:=Ab b;have r:=QG n m w;have j:=Ab o;have p:=Ab k;clear h o k b;go_enter Tryz.func110,Tryz.ntmps110;go_wp2;go_ret;have d:=Aa p;refine⟨w2.heap.size,rfl,d.size,⟨by rw[Bc];omega,(Aa j).2.1,some ⟨w.heap.size,0,none⟩,n,n,XB _ _ _ _,Nat.le_refl _,m,?_,(Aa f).imp id fun b s e=>⟨?_,?_⟩⟩,d.alloc d.size _⟩
 ·exact GD (Aa j) _
 ·rw[<-Option.some.inj e,Bc]
  have:=d.size;show w.heap.size<_;omega
 ·obtain⟨i,l⟩:=b
  rw[<-Option.some.inj e];refine⟨i,?_⟩;show(w2.heap.push _)[w.heap.size]? =_;rw[Array.getElem?_push_lt (Array.getElem?_eq_some_iff.1 l).1];exact(Array.getElem?_eq_getElem _).symm.trans l
end Go.Proofs.YtmmikiikddokgaaGreatDoor
