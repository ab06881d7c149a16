/- Laws for the proof. -/
import Derived.Test.YtfpmnekaockodaaGreatDoorU18
import Derived.ChangeKeysEq
import Derived.Deep.CutRange
import Derived.Maps.OwnOps
namespace Go.Proofs.YtfpmnekaockodaaGreatDoor
open Go.RowKit Go.Sort Go.Conc Go.Maps
set_option linter.all false
set_option maxRecDepth 4000
set_option maxHeartbeats 8000000
theorem aS(o l k z h:Int)(xs:List Nat)(s:ByteArray):
  st (BH o 4)++st (BH l 4)++st (BH k 1)++st (BH z 1)++st (BH h 1)++st (CQ xs)++s=st (BQ o l k z h xs (tx s)):=by
 apply Jj;rw[DE (Kz _ _ _ _ _ _ _ (Ck s))];simp only[UM,DE (GR _ _),DE (Ts _),BQ]
theorem OR(n:Int):(st (BH n 4)).size=4:=by rw[Dw,FT,C4]
theorem KK(n:Int):(st (BH n 1)).size=1:=by rw[Dw,Ed,C4]
theorem ZO{a b:ByteArray}{x:Int}(h:a=b):Ending.returned (.tuple #[.string a,.int .i64 x])=.returned (.tuple #[.string b,.int .i64 x]):=by rw[h]
theorem WP(o l k z h:Int)(a:Option Addr)(n c:Nat)(xs:List Nat)(s:ByteArray)(w:World)(O:RowAt w a n xs)(I:Ci o l k z h xs s.size):
  Calls Tryz.prog 156 #[.agg #[.int .i64 o,.int .i64 l,.int .i64 k,.int .i64 z,.int .i64 h,.slice a n c,.string s]] w fun e w'=>e=.returned (.tuple #[.string (st (BQ o l k z h xs (tx s))),.int .i64 0])/\Below w.heap.size w w':=by
 have hn:n<=2:=by have:=JH I.2.1;have:=O.1;omega
 have hs:s.size<=64:=by have:=I.2.2.2;have:=I.1.1.2.2;omega
 have hv:(st (CQ xs)).size<=16:=by rw[Dw,Jy,O.1];omega
 have R:=Ab (Bv w (.cells #[.int .i64 o,.int .i64 l,.int .i64 k,.int .i64 z,.int .i64 h,.slice a n c,.string s] 75));have S:=Ab (EV o l k z h a n c xs s _ (GQ O (.cells #[.int .i64 o,.int .i64 l,.int .i64 k,.int .i64 z,.int .i64 h,.slice a n c,.string s] 75)) 0 (.inl ⟨I,rfl⟩));have X:=Ab (Fv w (.int .i64 o) (.int .i64 l) (.int .i64 k) (.int .i64 z) (.int .i64 h) (.slice a n c) (.string s));have V:=Ab (GQ O (.cells #[.int .i64 o,.int .i64 l,.int .i64 k,.int .i64 z,.int .i64 h,.slice a n c,.string s] 75));have HT:=Ab (aS o l k z h xs s);have p1:=OR o;have p2:=OR l;have p3:=KK k;have p4:=KK z;have p5:=KK h;have P1:=Ab (fun w'=>Iz o 4 w');have P2:=Ab (fun w'=>Iz l 4 w');have P3:=Ab (fun w'=>Iz k 1 w');have P4:=Ab (fun w'=>Iz z 1 w');have P5:=Ab (fun w'=>Iz h 1 w');have P6:=Ab (fun w' Q=>ia a n c xs w' Q (by omega));generalize st (BQ o l k z h xs (tx s))=T at*;generalize st (BH o 4)=A at*;generalize st (BH l 4)=B at*;generalize st (BH k 1)=t3 at*;generalize st (BH z 1)=t4 at*;generalize st (BH h 1)=t5 at*;generalize st (CQ xs)=t6 at*;have q2:(9223372036854775807<A.size+B.size)=False:=eq_false (by omega);have q3:(9223372036854775807<A.size+B.size+t3.size)=False:=eq_false (by omega);have q4:(9223372036854775807<A.size+B.size+t3.size+t4.size)=False:=eq_false (by omega);have q5:(9223372036854775807<A.size+B.size+t3.size+t4.size+t5.size)=False:=eq_false (by omega);have q6:(9223372036854775807<A.size+B.size+t3.size+t4.size+t5.size+t6.size)=False:=eq_false (by omega);have q7:(9223372036854775807<A.size+B.size+t3.size+t4.size+t5.size+t6.size+s.size)=False:=eq_false (by omega);clear O I p1 p2 p3 p4 p5 hn hs hv;go_enter Tryz.func156,Tryz.ntmps156;go_wp2_with fail;refine(Aa S).mono ?_;rintro e w1 ⟨rfl,p⟩;have d:=Ab ((Aa X).below p);have C:=Ab ((Aa V).below p);have B1:=Ab (Ad (Aa R) p);clear p S R X V;have k0:=cell_regrown (Aa d).1;have k1:=cell_regrown (Aa d).2.1;have k2:=cell_regrown (Aa d).2.2.1;have k3:=cell_regrown (Aa d).2.2.2.1;have k4:=cell_regrown (Aa d).2.2.2.2.1
 have c1:=Cr (W:=w1) (fun w' y=>Aa P1 w');have c2:=Cr (W:=w1) (fun w' y=>Aa P2 w');have c3:=Cr (W:=w1) (fun w' y=>Aa P3 w');have c4:=Cr (W:=w1) (fun w' y=>Aa P4 w');have c5:=Cr (W:=w1) (fun w' y=>Aa P5 w');go_wp2_with fail;refine wp_region_quiet_below (by kernel_rfl) (by kernel_rfl) ?_
 repeat (with_reducible refine wpQuiet_step (fun K j=>?_);go_simp;first|(with_reducible refine j _ ?_;clear j K)|(apply Exists.intro;apply And.intro;(intro _;go_at_call 147;first|with_reducible exact c1 _ _|with_reducible exact c2 _ _|with_reducible exact c3 _ _|with_reducible exact c4 _ _|with_reducible exact c5 _ _);with_reducible refine j _ ?_;clear j K))
 refine wpQuiet_nil ?_;intro w2 r;obtain⟨⟨H,f⟩,r⟩:=r;have q:Below w1.heap.size w1 w2:=by rw[r];exact below_regrown _ H f
 clear r k0 k1 k2 k3 k4 c1 c2 c3 c4 c5 H f;have E:=Ab ((Aa d).below q);have P:=Ab ((Aa C).below q);have B2:=Ab (Ad (Aa B1) q);clear q d C B1;have k5:=cell_regrown (Aa E).2.2.2.2.2.1;have k6:=cell_regrown (Aa E).2.2.2.2.2.2;have Y:=Cr (W:=w2) (fun w' y=>Aa P6 w' ((Aa P).below y));go_wp2_with fail;refine wp_region_quiet_below (by kernel_rfl) (by kernel_rfl) ?_
 repeat (with_reducible refine wpQuiet_step (fun K j=>?_);go_simp;first|(with_reducible refine j _ ?_;clear j K)|(apply Exists.intro;apply And.intro;(intro _;go_at_call 181;exact Y _ _);with_reducible refine j _ ?_;clear j K))
 refine wpQuiet_nil ?_;intro w3 u;obtain⟨⟨H,f⟩,u⟩:=u;have J:Below w2.heap.size w2 w3:=by rw[u];exact below_regrown _ H f
 clear u k5 k6 Y H f;have B3:=Ab (Ad (Aa B2) J);clear J;go_wp2;go_ret2;exact⟨ZO (Aa HT),Aa B3⟩
theorem Yj(kd fr ic:Int)(B:ByteArray):st (BH kd 1)++st (BH fr 1)++st (BH ic 4)++B=st (DQ kd fr ic (tx B)):=by
 apply Jj;rw[DE (R9 _ _ _ _ (Ck B))];simp only[UM,DE (GR _ _),DQ]
theorem WR{kd o l k z h:Int}{xs:List Nat}{s:ByteArray}(a:IP kd o l k z h xs s):(Fy kd o l k z h xs s).size<=91:=by
 rcases a with⟨rfl,_⟩|⟨rfl,a⟩
 ·rw[Pf]
  decide
 ·rw[Mu,enc_size]
  have c:=JH a.2.1;have d:=a.2.2.2;have e:=a.1.1.2.2;omega
theorem eo(kd o l k z h:Int)(a:Option Addr)(n c:Nat)(xs:List Nat)(s:ByteArray)(w:World)(j:RowAt w a n xs)(f:IP kd o l k z h xs s):
  Calls Tryz.prog 149 #[Gw kd (.int .i64 o) (.int .i64 l) (.int .i64 k) (.int .i64 z) (.int .i64 h) (.slice a n c) (.string s)] w fun e w'=>e=.returned (.string (Fy kd o l k z h xs s))/\Below w.heap.size w w':=by
 rcases f with⟨rfl,_⟩|⟨rfl,f⟩
 ·rw[M4,Pf]
  have r:=bD;go_enter Tryz.func149,Tryz.ntmps149;go_wp2;go_ret;exact⟨rfl,Below.refl _ _⟩
 ·rw[M5,Mu]
  have q:=Ab (WP o l k z h a n c xs s _ (GQ j (.cells #[.int .i64 o,.int .i64 l,.int .i64 k,.int .i64 z,.int .i64 h,.slice a n c,.string s] 251)) f);have p:=Ab (Bv w (.cells #[.int .i64 o,.int .i64 l,.int .i64 k,.int .i64 z,.int .i64 h,.slice a n c,.string s] 251));generalize st (BQ o l k z h xs (tx s))=T at*;have r:=Nq;clear j f;go_enter Tryz.func149,Tryz.ntmps149;go_wp2_with fail;refine(Aa q).mono ?_;rintro e w1 ⟨rfl,d⟩;have B1:=Ab (Ad (Aa p) d);clear d;go_wp2;go_ret;exact⟨rfl,Aa B1⟩
theorem oL(kd fr ic o l k z h:Int)(a:Option Addr)(n c:Nat)(xs:List Nat)(s:ByteArray)(w:World)(ht:Tab w)(Q:RowAt w a n xs)(hn:n<=1048576)(I:Nd kd fr ic o l k z h xs s):
  Calls Tryz.prog 111 #[.agg #[.int .i64 kd,.int .i64 fr,.int .i64 ic,.int .i64 o,.int .i64 l,.int .i64 k,.int .i64 z,.int .i64 h,.slice a n c,.string s]] w fun e w'=>e=.returned (.tuple #[.string (Fz kd fr ic o l k z h xs s),.int .i64 0])/\Below w.heap.size w w':=by
 have r:=Ab (Bv w (.cells #[.int .i64 kd,.int .i64 fr,.int .i64 ic,.int .i64 o,.int .i64 l,.int .i64 k,.int .i64 z,.int .i64 h,.slice a n c,.string s] 157));have S:=Ab (fz kd fr ic o l k z h a n c xs s _ (ht.below (Aa r)) (Q.below (Aa r)) hn 0 (.inl ⟨I,rfl⟩));have Y:=Ab (ZU w (.int .i64 kd) (.int .i64 fr) (.int .i64 ic) (.int .i64 o) (.int .i64 l) (.int .i64 k) (.int .i64 z) (.int .i64 h) (.slice a n c) (.string s));have X:=Ab (Q.below (Aa r));have hT:=Yj kd fr ic (Fy kd o l k z h xs s);have p1:=KK kd;have p2:=KK fr;have p3:=OR ic;have p4:=WR I.2.2;have P1:=Ab (fun w'=>Iz kd 1 w');have P2:=Ab (fun w'=>Iz fr 1 w');have P3:=Ab (fun w'=>Iz ic 4 w');have P4:=Ab (fun w' R=>eo kd o l k z h a n c xs s w' R I.2.2);have P5:=Ab (fun wx=>Pe kd (.int .i64 fr) (.int .i64 ic) (.int .i64 o) (.int .i64 l) (.int .i64 k) (.int .i64 z) (.int .i64 h) (.slice a n c) (.string s) wx);generalize Gw kd (.int .i64 o) (.int .i64 l) (.int .i64 k) (.int .i64 z) (.int .i64 h) (.slice a n c) (.string s)=V at*;unfold Fz;rw[<-hT];clear hT;generalize Fy kd o l k z h xs s=t4 at*;generalize st (BH kd 1)=C at*;generalize st (BH fr 1)=E at*;generalize st (BH ic 4)=t3 at*;have P6:=Ab (fun wx=>lA (C++E++t3++t4) wx (by simp only[ByteArray.size_append];omega));generalize Ee (C++E++t3++t4)=T at*;have q2:(9223372036854775807<C.size+E.size)=False:=eq_false (by omega);have q3:(9223372036854775807<C.size+E.size+t3.size)=False:=eq_false (by omega);have q4:(9223372036854775807<C.size+E.size+t3.size+t4.size)=False:=eq_false (by omega);clear Q I p1 p2 p3 p4 hn ht;go_enter Tryz.func111,Tryz.ntmps111;go_wp2_with fail;refine(Aa S).mono ?_;rintro e w1 ⟨rfl,f⟩;have d:=Ab ((Aa Y).below f);have u:=Ab ((Aa X).below f);have B1:=Ab (Ad (Aa r) f);clear f S r Y X;have k0:=cell_regrown (Aa d).1.1;have k1:=cell_regrown (Aa d).1.2.1;have k2:=cell_regrown (Aa d).1.2.2;have c1:=Cr (W:=w1) (fun w' hb=>Aa P1 w');have c2:=Cr (W:=w1) (fun w' hb=>Aa P2 w');have c3:=Cr (W:=w1) (fun w' hb=>Aa P3 w');go_wp2_with fail
 refine wp_region_quiet_below (by kernel_rfl) (by kernel_rfl) ?_
 repeat (with_reducible refine wpQuiet_step (fun K H=>?_);go_simp;first|(with_reducible refine H _ ?_;clear H K)|(apply Exists.intro;apply And.intro;(intro _;go_at_call 147;first|with_reducible exact c1 _ _|with_reducible exact c2 _ _|with_reducible exact c3 _ _);with_reducible refine H _ ?_;clear H K))
 refine wpQuiet_nil ?_;intro w2 p;obtain⟨⟨dq,B⟩,p⟩:=p;have j:Below w1.heap.size w1 w2:=by rw[p];exact below_regrown _ dq B
 clear p k0 k1 k2 c1 c2 c3 dq B;have P:=Ab ((Aa d).below j);have J:=Ab ((Aa u).below j);have B2:=Ab (Ad (Aa B1) j);clear j d u B1;obtain⟨⟨g0,g1,g2⟩,g3,g4,g5,g6,g7,g8,g9⟩:=Aa P;go_wp2_with fail;refine(Aa P5 _).mono ?_;rintro e w3 ⟨rfl,q⟩;have O:=Ab ((Aa J).below q);have B3:=Ab (Ad (Aa B2) q);clear q g0 g1 g2 g3 g4 g5 g6 g7 g8 g9;go_wp2_with fail;refine(Aa P4 _ (Aa O)).mono ?_;rintro e w4 ⟨rfl,y⟩;have B4:=Ab (Ad (Aa B3) y);clear y;go_wp2_with fail;refine(Aa P6 _).mono ?_;rintro e w5 ⟨rfl,A⟩;have B5:=Ab (Ad (Aa B4) A);clear A;go_wp2;go_ret2;exact⟨rfl,Aa B5⟩
section
variable {Lv:Int}{L:List ByteArray}{t:Nat}{v:Value}{w:World}
def Bp.ok(f:Bp):Prop:=Nd f.kd f.fr f.ic f.p.o f.p.l f.p.k f.p.z f.p.h f.p.r.xs f.p.r.s
def Bp.enc(f:Bp):ByteArray:=Fz f.kd f.fr f.ic f.p.o f.p.l f.p.k f.p.z f.p.h f.p.r.xs f.p.r.s
theorem Bp.enc_size{f:Bp}(h:f.ok):f.enc.size<=1048576:=by
 have a:=WR h.2.2;unfold Bp.enc Fz;rw[KF,Dw,Uq,AU];omega
theorem VJ(f:Bp)(w:World)(ht:Tab w)(q:RowAt w f.p.r.a f.p.r.n f.p.r.xs)(j:f.p.r.n<=1048576)(d:f.ok):
  Calls Tryz.prog 111 #[f.val] w fun e w'=>e=.returned (.tuple #[.string f.enc,.int .i64 0])/\Below w.heap.size w w':=
 oL f.kd f.fr f.ic f.p.o f.p.l f.p.k f.p.z f.p.h f.p.r.a f.p.r.n f.p.r.c f.p.r.xs f.p.r.s w ht q j d
theorem lQ(g gb gq c lo:Nat)(M q Lv:Int)(L:List ByteArray)(f:Bp)(w:World)(h:Au w g gb gq c M q Lv L lo)(ht:Tab w)(C:RowAt w f.p.r.a f.p.r.n f.p.r.xs)(B:f.p.r.n<=1048576)(o:f.ok)(P:L.length<capN q):
  Calls Tryz.prog 79 #[.pointer (some ⟨g,0,none⟩),f.val] w fun e w'=>e=.returned (.int .i64 0)/\Au w' g gb gq c M q Lv (L++[f.enc]) lo/\Tu (lkF g gb gq c) w w':=by
 have A:=Ab (fun wx (y:Tab wx) (u:RowAt wx f.p.r.a f.p.r.n f.p.r.xs)=>VJ f wx y u B o);have J:=Ab (Bp.enc_size o);have K:=Ab ht;have I:=Ab C;have H:=Ab h;generalize f.enc=s at*;clear ht C B o h;simp only[Bp.val]at A⊢;go_enter Tryz.func79,Tryz.ntmps79
 go_wp2_with (first
  |(go_at_call 111;refine(Aa A _ ((Aa K).below (Bv _ _)) ((Aa I).below (Bv _ _))).mono ?_;rintro e w1 ⟨rfl,j⟩;have z:=Ab (Ad (Bv _ _) j);clear j;have l:=Ab ((Aa H).below (Aa z));have c3:=(Aa l).blk.at 3 rfl)
  |(go_at_call 112;refine(mL _ _ _ _ _ _ _ (Aa l).qu (Aa J) P).mono ?_;rintro e w2 ⟨rfl,k,d⟩;have E:=Ab ((Aa l).que k d);have O:=Ab (Tu.after (Aa z) (Nh (g:=g) (gb:=gb) d));clear k d)
  |fail)
 go_ret;exact⟨rfl,Aa E,Aa O⟩
theorem fK(g gb gq c lo:Nat)(M q Lv:Int)(L:List ByteArray)(f:Bp)(w:World)(h:Au w g gb gq c M q Lv L lo)(ht:Tab w)(E:RowAt w f.p.r.a f.p.r.n f.p.r.xs)(C:f.p.r.n<=1048576)(o:f.ok)(Q:capN q<=L.length)(u:lo<=1099511627776):
  Calls Tryz.prog 79 #[.pointer (some ⟨g,0,none⟩),f.val] w fun e w'=>e=.returned (.int .i64 5)/\Au w' g gb gq c M q Lv L (lo+1)/\Tu (lkF g gb gq c) w w':=by
 have B:=Ab (fun wx (z:Tab wx) (y:RowAt wx f.p.r.a f.p.r.n f.p.r.xs)=>VJ f wx z y C o);have K:=Ab (Bp.enc_size o);have O:=Ab ht;have J:=Ab E;have H:=Ab h;generalize f.enc=s at*;clear ht E C o h;simp only[Bp.val]at B⊢;go_enter Tryz.func79,Tryz.ntmps79
 go_wp2_with (first
  |(go_at_call 111;refine(Aa B _ ((Aa O).below (Bv _ _)) ((Aa J).below (Bv _ _))).mono ?_;rintro e w1 ⟨rfl,j⟩;have A:=Ab (Ad (Bv _ _) j);clear j;have l:=Ab ((Aa H).below (Aa A));have c3:=(Aa l).blk.at 3 rfl)
  |(go_at_call 112;refine(ru _ _ _ _ _ _ _ (Aa l).qu (Aa K) Q u).mono ?_;rintro e w2 ⟨rfl,k,d⟩;have I:=Ab ((Aa l).que k d);have P:=Ab (Tu.after (Aa A) (Nh (g:=g) (gb:=gb) d));clear k d)
  |fail)
 go_ret;exact⟨rfl,Aa I,Aa P⟩
theorem ix(g gb gq c lo:Nat)(M q Lv n:Int)(L:List ByteArray)(w:World)(h:Au w g gb gq c M q Lv L lo):
  Calls Tryz.prog 76 #[.pointer (some ⟨g,0,none⟩),.int .i64 n] w fun e w'=>e=.returned (.tuple #[])/\Au w' g gb gq c M q (Gx M (1000*By q 1 256) Lv n) L lo/\Tu (lkF g gb gq c) w w':=by
 have c2:=h.blk.at 2 rfl;have H:=Ab h;have j:=Ab (iS gb M (1000*By q 1 256) Lv n w h.bt);generalize Gx M (1000*By q 1 256) Lv n=Z at*;clear h;go_enter Tryz.func76,Tryz.ntmps76
 go_wp2_with (first
  |(go_at_call 105;refine(Aa j).mono ?_;rintro e w2 ⟨rfl,d,a⟩;have f:=Ab ((Aa H).lev d a);have k:=Ab (Rb (g:=g) (gq:=gq) (c:=c) a);clear d a)
  |fail)
 go_end0;exact⟨rfl,Aa f,Aa k⟩
theorem eA(g gb gq c lo k:Nat)(M q Lv:Int)(L:List ByteArray)(w:World)(h:Au w g gb gq c M q Lv L lo)(d:L.length=k):
  Calls Tryz.prog 89 #[.pointer (some ⟨g,0,none⟩)] w fun e w'=>e=.returned (.int .i64 (k:Int))/\w'=w:=by
 subst d;have c3:=h.blk.at 3 rfl;have H:=Ab h;clear h;go_enter Tryz.func89,Tryz.ntmps89
 go_wp2_with (first
  |(go_at_call 129;refine(Mk _ _ _ _ _ _ (Aa H).qu).mono ?_;rintro e w1 ⟨rfl,a⟩;obtain rfl:=a.symm;clear a)
  |fail)
 go_ret;exact⟨rfl,rfl⟩
theorem dz(g gb gq c lo:Nat)(M q Lv:Int)(w:World)(h:Au w g gb gq c M q Lv [] lo):
  Calls Tryz.prog 107 #[.pointer (some ⟨g,0,none⟩)] w fun e w'=>e=.returned (.bool false)/\w'=w:=by
 have c3:=h.blk.at 3 rfl;have H:=Ab h;clear h;go_enter Tryz.func107,Tryz.ntmps107
 go_wp2_with (first
  |(go_at_call 129;refine(Mk _ _ _ _ _ _ (Aa H).qu).mono ?_;rintro e w1 ⟨rfl,a⟩;obtain rfl:=a.symm;clear a)
  |fail)
 go_ret;exact⟨rfl,rfl⟩
theorem iv(g gb gq c lo:Nat)(M q Lv:Int)(L:List ByteArray)(w:World)(h:Au w g gb gq c M q Lv L lo)(j:0<L.length)(f:Lv<1000):
  Calls Tryz.prog 107 #[.pointer (some ⟨g,0,none⟩)] w fun e w'=>e=.returned (.bool false)/\w'=w:=by
 have c2:=h.blk.at 2 rfl;have c3:=h.blk.at 3 rfl;have H:=Ab h;have k:(L.length:Int)>0:=by omega
 have d:=Ab (Mk _ _ _ _ _ _ h.qu);generalize L.length=n at*;clear h;go_enter Tryz.func107,Tryz.ntmps107
 go_wp2_with (first
  |(go_at_call 129;refine(Aa d).mono ?_;rintro e w1 ⟨rfl,a⟩;obtain rfl:=a.symm;clear a)
  |(go_at_call 142;refine(ms _ _ _ _ _ (Aa H).bt f).mono ?_;rintro e w1 ⟨rfl,a⟩;obtain rfl:=a.symm;clear a)
  |fail)
 go_ret;exact⟨rfl,rfl⟩
theorem fJ(g gb gq c lo:Nat)(M q Lv:Int)(L:List ByteArray)(w:World)(h:Au w g gb gq c M q Lv L lo)(s:0<L.length)(r:1000<=Lv):
  Calls Tryz.prog 107 #[.pointer (some ⟨g,0,none⟩)] w fun e w'=>e=.returned (.bool true)/\Au w' g gb gq c M q (Lv-1000) L lo/\Tu (lkF g gb gq c) w w':=by
 have c2:=h.blk.at 2 rfl;have c3:=h.blk.at 3 rfl;have H:=Ab h;have u:(L.length:Int)>0:=by omega
 have k:=Ab (Mk _ _ _ _ _ _ h.qu);have o:=Ab (fun wx p ht=>h.lev (w':=wx) (Lv':=Lv-1000) p ht);generalize L.length=n at*;clear h;go_enter Tryz.func107,Tryz.ntmps107
 go_wp2_with (first
  |(go_at_call 129;refine(Aa k).mono ?_;rintro e w1 ⟨rfl,f⟩;obtain rfl:=f.symm;clear f)
  |(go_at_call 142;refine(iR _ _ _ _ _ (Aa H).bt r).mono ?_;rintro e w2 ⟨rfl,d,a⟩;have j:=Ab (Aa o _ d a);have l:=Ab (Rb (g:=g) (gq:=gq) (c:=c) a);clear d a)
  |fail)
 go_ret;exact⟨rfl,Aa j,Aa l⟩
def DV(L:List ByteArray)(Lv:Int):Nat:=min L.length (Lv/1000).toNat
theorem Wm(L:List ByteArray)(Lv:Int):DV L Lv<=L.length:=Nat.min_le_left _ _
theorem Wl(a:t<=L.length)(c:1000*(t:Int)<=Lv)(d:t=L.length\/Lv-1000*(t:Int)<1000):DV L Lv=t:=by unfold DV;omega
def Ry:Value->Nat
 | .slice _ n _=>n
 |_=>0
structure GI(w wr:World)(g gb gq c:Nat)(M q Lv:Int)(L:List ByteArray)(lo t:Nat)(v:Value):Prop where
 lk:Au wr g gb gq c M q (Lv-1000*(t:Int)) (L.drop t) lo
 own:Ar wr w.heap.size v (L.take t)
 tu:Tu (lkF g gb gq c) w wr
 lt:(g<w.heap.size/\gb<w.heap.size)/\gq<w.heap.size/\c<w.heap.size
theorem Ar.tuL{F:Nat->Prop}{w':World}{B:Nat}{ss:List ByteArray}(h:Ar w B v ss)(ht:Tu F w w')(k:∀j,B<=j->¬F j):Ar w' B v ss:=by
 refine⟨h.1,?_⟩;rcases h.2 with e|⟨g,cap,c,f,d,a,r⟩
 ·exact .inl e
 ·exact .inr ⟨g,cap,c,f,d,(ht.block g (Array.getElem?_eq_some_iff.1 a).1 (k g d)).trans a,r⟩
theorem GI.no{wr:World}{g gb gq c lo:Nat}{M q:Int}(h:GI w wr g gb gq c M q Lv L lo t v){j:Nat}(a:w.heap.size<=j):¬lkF g gb gq c j:=fun e=>by
 have:=h.lt;rcases e with e|e|e|e<;>omega
theorem Tp(h:t<L.length):L.take t++[L.getD t ByteArray.empty]=L.take (t+1):=by
 rw[List.getD_eq_getElem?_getD,List.getElem?_eq_getElem h,Option.getD_some,List.take_append_getElem]
theorem oj(h:t<L.length):L.drop t=L.getD t ByteArray.empty::L.drop (t+1):=by
 rw[List.drop_eq_getElem_cons h,List.getD_eq_getElem?_getD,List.getElem?_eq_getElem h];rfl
theorem GI.next{wr w1 w2 w3:World}{g gb gq c lo:Nat}{M q:Int}{v':Value}(h:GI w wr g gb gq c M q Lv L lo t v)(ht:t<L.length)
  (o:Au w1 g gb gq c M q (Lv-1000*(t:Int)-1000) (L.getD t ByteArray.empty::L.drop (t+1)) lo) (s:Tu (lkF g gb gq c) wr w1)
  (p:AK w2 gq c (capN q) (L.drop (t+1)) lo) (l:Tu (quF gq c) w1 w2) (f:Ar w3 w.heap.size v' (L.take t++[L.getD t ByteArray.empty])) (d:Below w.heap.size w2 w3):GI w w3 g gb gq c M q Lv L lo (t+1) v':=by
 have r:=o.que p l;have a:=h.lt;rw[Tp ht]at f;have e:Lv-1000*((t+1:Nat):Int)=Lv-1000*(t:Int)-1000:=by omega
 refine⟨?_,f,?_,h.lt⟩
 ·rw[e]
  exact r.belowB d a.1.1 a.1.2 a.2.1 a.2.2
 ·refine(Pq h.tu (Pq s (Nh l))).trans (F:=lkF g gb gq c) (G:=fun j=>w.heap.size<=j) ⟨d.os,d.tape,d.output,d.size,fun k z A=>d.block k (by omega)⟩ fun j y u=>by omega
theorem fL(g gb gq c lo:Nat)(M q Lv:Int)(L:List ByteArray)(w:World)(h:Au w g gb gq c M q Lv L lo):
  Calls Tryz.prog 106 #[.func (.func 107) #[.pointer (some ⟨g,0,none⟩)] #[],.func (.func 108) #[.pointer (some ⟨gq,0,none⟩)] #[]] w fun e w'=>
   ∃b f,e=.returned (.slice b (DV L Lv) f)/\GI w w' g gb gq c M q Lv L lo (DV L Lv) (.slice b (DV L Lv) f):=by
 have V:L.length<=256:=Nat.le_trans h.qu.len h.qu.most;have o:=Ab (show GI w w g gb gq c M q Lv L lo 0 (.slice none 0 0) from⟨by simpa using h,Ar.nil _ _,Tu.refl _ _,⟨⟨h.lt.1,h.lt.2.1⟩,h.lt.2.2.1,h.lt.2.2.2⟩⟩);have aa:=h.bt.lev.1;clear h;go_enter Tryz.func106,Tryz.ntmps106;go_wp2_with fail;go_loopw [5] (fun v wr=> ∃(t:Nat) (b:Option Addr) (f:Nat),v=.slice b t f/\t<=L.length/\1000*(t:Int)<=Lv/\Hid (GI w wr g gb gq c M q Lv L lo t (.slice b t f))) (fun v _=>L.length-Ry v)
 case atStart=>exact⟨0,none,0,rfl,Nat.zero_le _,by omega,o⟩
 case round=>
  obtain⟨t,b,f,rfl,ht,B,d⟩:=hrel;clear o;by_cases u:t<L.length
  case neg=>
   obtain rfl:t=L.length:=by omega
   have I:=Ab (Wl (L:=L) (Nat.le_refl _) B (.inl rfl));have p:=Ab (Aa d).lk;rw[List.drop_length]at p;generalize L.length=n at*
   go_wp2_with (first
    |(go_at_call 107;refine(dz _ _ _ _ _ _ _ _ _ (Aa p)).mono ?_;rintro e w1 ⟨rfl,a⟩;obtain rfl:=a.symm;clear a)
    |fail)
   go_ret;rw[Aa I];exact⟨b,f,rfl,Aa d⟩
  by_cases s:Lv-1000*(t:Int)<1000
  case pos=>
   have I:=Ab (Wl ht B (.inr s))
   go_wp2_with (first
    |(go_at_call 107;refine(iv _ _ _ _ _ _ _ _ _ _ (Aa d).lk (by rw[List.length_drop];omega) s).mono ?_;rintro e w1 ⟨rfl,a⟩;obtain rfl:=a.symm;clear a)
    |fail)
   go_ret;rw[Aa I];exact⟨b,f,rfl,Aa d⟩
  have p:=Ab (Aa d).lk;rw[oj u]at p;have Y:=Ab (fun w1 w2 w3 v' h1 Q h2 R h3 b3=>(Aa d).next (w1:=w1) (w2:=w2) (w3:=w3) (v':=v') u h1 Q h2 R h3 b3);have X:=Ab (fun w1 (Q:Tu (lkF g gb gq c) wr w1) w2 (R:Tu (quF gq c) w1 w2)=>((Aa d).own.tuL (Pq Q (Nh R)) fun j hj=>(Aa d).no hj));have HZ:=Ab (Aa d).tu.size;have O:(L.take t).length<=1048576:=by rw[List.length_take];omega
  have P:(L.take t++[L.getD t ByteArray.empty]).length=t+1:=by rw[List.length_append,List.length_take,List.length_singleton];omega
  generalize L.getD t ByteArray.empty=x at*
  go_wp2_with (first
   |(go_at_call 107;refine(fJ _ _ _ _ _ _ _ _ _ _ (Aa p) (by rw[List.length_cons];omega) (by omega)).mono ?_;rintro e w1 ⟨rfl,y,A⟩;have S:=Ab y;have K:=Ab A;clear y A)
   |(go_at_call 108;refine(ie _ _ _ _ _ _ _ (Aa S).qu).mono ?_;rintro e w2 ⟨rfl,z,k⟩;have W:=Ab z;have T2:=Ab k;have H:=Ab (Aa X _ (Aa K) _ k);have J:=Ab (Nat.le_trans (Aa HZ) (Nat.le_trans (Aa K).size k.size));clear z k)
   |(at_builtin;refine RJ rfl _ _ rfl w.heap.size (.slice b t f) (L.take t) x rfl rfl (Aa H) (Aa J) O ?_;intro v6 w6 l r;have E:=Ab (Aa Y _ _ _ _ (Aa S) (Aa K) (Aa W) (Aa T2) l r);obtain⟨b6,c6,C, -⟩:=l.texts;rw[P]at C;subst C;clear l r)
   |fail)
  go_roundw
  case rel=>exact⟨t+1,b6,c6,rfl,by omega,by omega,E⟩
  case measure=>simp[Ry];omega
theorem iw(g gb gq c lo:Nat)(M q Lv:Int)(L:List ByteArray)(w:World)(h:Au w g gb gq c M q Lv L lo):
  Calls Tryz.prog 77 #[.pointer (some ⟨g,0,none⟩)] w fun e w'=>
   ∃b a,e=.returned (.slice b (DV L Lv) a)/\GI w w' g gb gq c M q Lv L lo (DV L Lv) (.slice b (DV L Lv) a):=by
 have l:∀(d:Fn) (first cap:Array Value) (w:World),(Instr.makeFunc d first cap).run Tryz.prog w=.ok (.func d first cap) w:=fun _ _ _ _=>rfl;have c3:=h.blk.at 3 rfl;have k:=Ab (fL g gb gq c lo M q Lv L w h);clear h;generalize DV L Lv=t at*;go_enter Tryz.func77,Tryz.ntmps77
 go_wp2_with (first
  |(go_at_call 106;refine(Aa k).mono ?_;rintro e w1 ⟨b,a,rfl,f⟩;have j:=Ab f;clear f)
  |fail)
 go_ret;exact⟨b,a,rfl,Aa j⟩
end
section
variable {x i t:Int}{Z:List Int}
def DC(x:Int):Bool:=decide (0<=x)&&decide (x<8)
def E4(x:Int):Bool:=decide (0<=x)&&decide (x<=1099511627776)
def CP(t:Int):Int:=min (max t 0) 1048576
def C7(Z:List Int)(x:Int):Int×Int:=if DC x=true then(Z.getD (x.toNat*2) 0,Z.getD (x.toNat*2+1) 0)else(0,0)
def G5(p:Int×Int):Bool:= !(decide (p.1=0)&&decide (p.2=0))
def DR(Z:List Int)(x i t:Int):Bool:=DC x&&E4 t&&decide ((C7 Z x).1<=i)
def EH(Z:List Int)(x i t:Int):List Int:=if DR Z x i t=true then(Z.set (x.toNat*2) i).set (x.toNat*2+1) (t+1)else Z
def Jg(T:Int)(p:Int×Int)(t:Int):Bool:=G5 p&&E4 t&&(decide (0<=t-(p.2-1))&&decide (t-(p.2-1)<=T))
def Qh(T:Int)(Z:List Int)(x t:Int):Bool:=Jg T (C7 Z x) t
def EF(P:Nat->Bool):Nat->List Int
 |0=>[]
 |k+1=>EF P k++(if P k=true then [(k:Int)]else [])
def Gy(T:Int)(Z:List Int)(t:Int):List Int:=EF (fun n=>Qh T Z (n:Int) t) 8
theorem Ml(P:Nat->Bool):∀k,(EF P k).length<=k
 |0=>Nat.le_refl _
 |k+1=>by
  have:=Ml P k;unfold EF;by_cases h:P k=true
  ·rw[if_pos h,List.length_append];simp;omega
  ·rw[if_neg h,List.append_nil];omega
theorem ja{P:Nat->Bool}{k:Nat}(h:P k=true):EF P (k+1)=EF P k++[(k:Int)]:=by rw[EF,if_pos h]
theorem ow{P:Nat->Bool}{k:Nat}(h:P k=false):EF P (k+1)=EF P k:=by rw[EF,if_neg (by rw[h];decide),List.append_nil]
theorem TZ:DC x=true↔0<=x/\x<8:=by simp[DC]
theorem OX:E4 x=true↔0<=x/\x<=1099511627776:=by simp[E4]
theorem K0(h:DC x=true):∃n:Nat,n<8/\x=(n:Int):=by
 have:=TZ.1 h;exact⟨x.toNat,by omega,by omega⟩
theorem Xg{n:Nat}(h:n<8):DC (n:Int)=true:=TZ.2 ⟨by omega,by omega⟩
theorem JV(Z:List Int){n:Nat}(h:n<8):C7 Z (n:Int)=(Z.getD (n*2) 0,Z.getD (n*2+1) 0):=by
 unfold C7;rw[if_pos (Xg h),Int.toNat_natCast]
theorem MF(Z:List Int){x:Int}(h:DC x=false):C7 Z x=(0,0):=by
 unfold C7;rw[if_neg (by rw[h];decide)]
def Ch(Z:List Int):Prop:=Z.length=16/\∀n,n<8->0<=Z.getD (n*2) 0/\0<=Z.getD (n*2+1) 0/\Z.getD (n*2+1) 0<=1099511627777/\(Z.getD (n*2+1) 0=0->Z.getD (n*2) 0=0)
def Rp(p:Int×Int):Prop:=0<=p.1/\0<=p.2/\p.2<=1099511627777/\(p.2=0->p.1=0)
theorem Ch.mem(h:Ch Z)(x:Int):Rp (C7 Z x):=by
 by_cases c:DC x=true
 ·obtain⟨n,a,rfl⟩:=K0 c
  rw[JV Z a];exact h.2 n a
 ·rw[MF Z (by simpa using c)]
  exact⟨by decide,by decide,by decide,fun _=>rfl⟩
theorem Rz{i j:Nat}(a:i<Z.length):(Z.set i x).getD j 0=if i=j then x else Z.getD j 0:=by
 rw[List.getD_eq_getElem?_getD,List.getElem?_set];by_cases e:i=j
 ·subst e;simp[a]
 ·simp[e,List.getD_eq_getElem?_getD]
theorem Ch.zero:Ch (List.replicate 16 0):=by
 refine⟨rfl,fun n a=>?_⟩
 have:∀j,(List.replicate 16 (0:Int)).getD j 0=0:=fun j=>by
  rw[List.getD_eq_getElem?_getD,List.getElem?_replicate];split<;>rfl
 rw[this,this];exact⟨by decide,by decide,by decide,fun _=>rfl⟩
theorem pr(h:Z.length=16){n m:Nat}(d:n<8)(c:m<8)(i t:Int):C7 ((Z.set (n*2) i).set (n*2+1) (t+1)) (m:Int)=if n=m then(i,t+1)else C7 Z (m:Int):=by
 have f:(Z.set (n*2) i).length=16:=by rw[List.length_set];exact h
 have a:∀j,((Z.set (n*2) i).set (n*2+1) (t+1)).getD j 0=if n*2+1=j then t+1 else if n*2=j then i else Z.getD j 0:=fun j=>by
  rw[Rz (by omega),Rz (by omega)]
 rw[JV _ c,JV _ c,a,a];by_cases e:n=m
 ·subst e
  rw[if_neg (by omega),if_pos rfl,if_pos rfl,if_pos rfl]
 ·rw[if_neg (by omega),if_neg (by omega),if_neg (by omega),if_neg (by omega),if_neg e]
theorem TS{n:Nat}(h:DR Z (n:Int) i t=true):EH Z (n:Int) i t=(Z.set (n*2) i).set (n*2+1) (t+1):=by
 unfold EH;rw[if_pos h,Int.toNat_natCast]
theorem MC(h:DR Z x i t=false):EH Z x i t=Z:=by
 unfold EH;rw[if_neg (by rw[h];decide)]
theorem Sr(h:DR Z x i t=true):DC x=true/\E4 t=true/\(C7 Z x).1<=i:=by
 unfold DR at h;simp only[Bool.and_eq_true,decide_eq_true_eq]at h;exact⟨h.1.1,h.1.2,h.2⟩
theorem lZ(h:Ch Z)(x i t y:Int):C7 (EH Z x i t) y=if DR Z x i t=true/\y=x then(i,t+1)else C7 Z y:=by
 by_cases a:DR Z x i t=true
 ·obtain⟨k,ht,l⟩:=Sr a
  obtain⟨n,f,rfl⟩:=K0 k;rw[TS a];by_cases d:DC y=true
  ·obtain⟨m,j,rfl⟩:=K0 d
   rw[pr h.1 f j];by_cases e:n=m
   ·subst e;rw[if_pos rfl,if_pos ⟨a,rfl⟩]
   ·rw[if_neg e,if_neg (fun q=>e (by omega))]
  ·have c:DC y=false:=by simpa using d
   rw[MF _ c,MF _ c,if_neg];rintro⟨_,rfl⟩;exact d (Xg f)
 ·rw[MC (by simpa using a),if_neg (fun q=>a q.1)]
theorem lw(Z:List Int)(x i t:Int):(EH Z x i t).length=Z.length:=by
 unfold EH;split
 ·rw[List.length_set,List.length_set]
 ·rfl
theorem Ch.of(c:Z.length=16)(h:∀n:Nat,n<8->Rp (C7 Z (n:Int))):Ch Z:=⟨c,fun n a=>by
 have:=h n a;rw[JV Z a]at this;exact this⟩
theorem Ch.hear(h:Ch Z)(x i t:Int):Ch (EH Z x i t):=by
 refine Ch.of (by rw[lw];exact h.1) fun n f=>?_;rw[lZ h];split
 ·rename_i q
  obtain⟨j,ht,d⟩:=Sr q.1;have a:=(h.mem x).1;have c:=OX.1 ht;exact⟨by show 0<=i;omega,by show 0<=t+1;omega,by show t+1<=1099511627777;omega,fun e=>by have:t+1=0:=e;omega⟩
 ·exact h.mem _
theorem Ze(t:Int):0<=CP t/\CP t<=1048576:=by unfold CP;omega
end
section
variable {T:Int}{Z:List Int}{g:Nat}{w:World}
def Jl(T:Int)(Z:List Int):List Value:=.int .i64 T::cellsZ Z
theorem QN(T:Int){Z:List Int}{i:Nat}(h:i<Z.length):(Jl T Z)[1+i]? =some (.int .i64 (Z.getD i 0)):=by
 unfold Jl;rw[Nat.add_comm,List.getElem?_cons_succ,Hl Z i h]
theorem W3(T:Int)(Z:List Int)(i:Nat)(x:Int):(Jl T Z).set (1+i) (.int .i64 x)=Jl T (Z.set i x):=by
 unfold Jl;rw[Nat.add_comm,List.set_cons_succ,Ol]
structure A6(w:World)(g:Nat)(T:Int)(Z:List Int):Prop where
 blk:BkA 190 w g (Jl T Z)
 inv:Ch Z
 tm:0<=T/\T<=1048576
theorem A6.below{w':World}(h:A6 w g T Z)(a:Below w.heap.size w w'):A6 w' g T Z:=⟨h.blk.below a,h.inv,h.tm⟩
theorem A6.tu{F:Nat->Prop}{w':World}(h:A6 w g T Z)(ht:Tu F w w')(a:¬F g):A6 w' g T Z:=⟨h.blk.tu ht a,h.inv,h.tm⟩
theorem A6.t(h:A6 w g T Z):w.cell? ⟨g,0,none⟩=some (.int .i64 T):=h.blk.at 0 rfl
theorem A6.at(h:A6 w g T Z){n:Nat}(a:n<8):w.cell? ⟨g,1+n*2,none⟩=some (.int .i64 (Z.getD (n*2) 0))/\w.cell? ⟨g,1+n*2+1,none⟩=some (.int .i64 (Z.getD (n*2+1) 0)):=
 ⟨h.blk.at _ (QN T (by have:=h.inv.1;omega)),by rw[Nat.add_assoc];exact h.blk.at _ (QN T (by have:=h.inv.1;omega))⟩
theorem Jz(x:Int)(w:World):Calls Tryz.prog 117 #[.int .i64 x] w fun e w'=>e=.returned (.bool (DC x))/\w'=w:=by
 unfold DC;by_cases a:0<=x
 ·have c:decide (0<=x)=true:=decide_eq_true a
  go_enter Tryz.func117,Tryz.ntmps117;go_wp2;go_ret;exact⟨Ce (by simp[a]),rfl⟩
 ·have c:decide (0<=x)=false:=decide_eq_false a
  go_enter Tryz.func117,Tryz.ntmps117;go_wp2;go_ret;exact⟨Ce (by simp),rfl⟩
theorem JA(x:Int)(w:World):Calls Tryz.prog 118 #[.int .i64 x] w fun e w'=>e=.returned (.bool (E4 x))/\w'=w:=by
 unfold E4;by_cases a:0<=x
 ·have c:decide (0<=x)=true:=decide_eq_true a
  go_enter Tryz.func118,Tryz.ntmps118;go_wp2;go_ret;exact⟨Ce (by simp[a]),rfl⟩
 ·have c:decide (0<=x)=false:=decide_eq_false a
  go_enter Tryz.func118,Tryz.ntmps118;go_wp2;go_ret;exact⟨Ce (by simp),rfl⟩
theorem Zr(a b:Int)(W:World):
  (binOp .neq 187 (.agg #[.int .i64 a,.int .i64 b]) (.agg #[.int .i64 0,.int .i64 0])).run Tryz.prog W=.ok (.bool (G5 (a,b))) W:=by
 obtain⟨i,f⟩:∃i,Tryz.prog.info? 3=some i:=by
  cases h:Tryz.prog.info? 3 with
  |none=>exact absurd h (by decide+kernel)
  |some i=>exact⟨i,rfl⟩
 have e:Tryz.prog.cellsOf 3=1:=by kernel_rfl
 rw[run_neq_struct,run_equalIn_array W 9999 _ _ Tryz.underlying187 f,e];by_cases c:a=0
 ·by_cases d:b=0
  ·simp[Op.eqItems,List.range_succ,BS,go_sem,Tryz.underlying3,c,d,G5]
  ·simp[Op.eqItems,List.range_succ,BS,go_sem,Tryz.underlying3,c,d,G5]
 ·simp[Op.eqItems,List.range_succ,BS,go_sem,Tryz.underlying3,c,G5]
theorem Ma(a b:Int)(w:World):Calls Tryz.prog 131 #[.agg #[.int .i64 a,.int .i64 b]] w fun e w'=>e=.returned (.bool (G5 (a,b)))/\Below w.heap.size w w':=by
 have d:=Zr a b;have c:Tryz.prog.eqGuardType Tryz.prog.depth 187=false:=by kernel_rfl
 go_enter Tryz.func131,Tryz.ntmps131;go_wp2;go_ret;exact⟨rfl,(Below.refl _ _).alloc (Nat.le_refl _) _⟩
theorem U1(a b:Int)(w:World):Calls Tryz.prog 119 #[.agg #[.int .i64 a,.int .i64 b]] w fun e w'=>e=.returned (.int .i64 a)/\Below w.heap.size w w':=by
 go_enter Tryz.func119,Tryz.ntmps119;go_wp2;go_ret;exact⟨rfl,(Below.refl _ _).alloc (Nat.le_refl _) _⟩
theorem lE(a b:Int)(c:0<=b/\b<=1099511627777)(w:World):Calls Tryz.prog 132 #[.agg #[.int .i64 a,.int .i64 b]] w fun e w'=>e=.returned (.int .i64 (b-1))/\Below w.heap.size w w':=by
 have d:IntKind.i64.wrap (b-1)=b-1:=by rw[IntKind.wrap_i64];omega
 go_enter Tryz.func132,Tryz.ntmps132;go_wp2;go_ret;exact⟨rfl,(Below.refl _ _).alloc (Nat.le_refl _) _⟩
theorem me(i t:Int)(ht:0<=t/\t<=1099511627776)(w:World):Calls Tryz.prog 120 #[.int .i64 i,.int .i64 t] w fun e w'=>e=.returned (.agg #[.int .i64 i,.int .i64 (t+1)])/\Below w.heap.size w w':=by
 have a:IntKind.i64.wrap (t+1)=t+1:=by rw[IntKind.wrap_i64];omega
 go_enter Tryz.func120,Tryz.ntmps120;go_wp2;exact bodyPost_ret (v:=.agg #[.int .i64 i,.int .i64 (t+1)]) (by simp[results,Tryz.results120,go_sem]) rfl ⟨rfl,(Below.refl _ _).alloc (Nat.le_refl _) _⟩
theorem jF(g:Nat)(T:Int)(Z:List Int)(x:Int)(w:World)(h:A6 w g T Z):
  Calls Tryz.prog 130 #[.pointer (some ⟨g,0,none⟩),.int .i64 x] w fun e w'=>e=.returned (.agg #[.int .i64 (C7 Z x).1,.int .i64 (C7 Z x).2])/\Below w.heap.size w w':=by
 by_cases j:DC x=true
 ·obtain⟨n,k,rfl⟩:=K0 j
  rw[JV Z k];have f:=Ax w (.cells #[.int .i64 0,.int .i64 0] 187);obtain⟨c0,c1⟩:=(h.below f).at k;have l:(n:Int)<8:=by omega
  have o:=Ab f;clear h f;generalize Z.getD (n*2) 0=a at*;generalize Z.getD (n*2+1) 0=b at*;go_enter Tryz.func130,Tryz.ntmps130;go_wp2_with (go_at_call 117;refine(Jz _ _).mono ?_;rintro e w1 ⟨rfl,c⟩;obtain rfl:=c.symm;clear c;rw[j]);exact bodyPost_ret (v:=.agg #[.int .i64 a,.int .i64 b]) (by simp[results,Tryz.results130,go_sem]) rfl ⟨rfl,Ax _ _⟩
 ·have d:DC x=false:=by simpa using j
  rw[MF Z d];clear h;go_enter Tryz.func130,Tryz.ntmps130;go_wp2_with (go_at_call 117;refine(Jz _ _).mono ?_;rintro e w1 ⟨rfl,c⟩;obtain rfl:=c.symm;clear c;rw[d]);exact bodyPost_ret (v:=.agg #[.int .i64 0,.int .i64 0]) (by simp[results,Tryz.results130,go_sem]) rfl ⟨rfl,Ax _ _⟩
theorem lY(t:Int)(w:World):
  Calls Tryz.prog 70 #[.int .i64 t] w fun e w'=>e=.returned (.pointer (some ⟨w.heap.size,0,none⟩))/\A6 w' w.heap.size (CP t) (List.replicate 16 0)/\Below w.heap.size w w':=by
 have d:=JM t 0;have a:=Iy (max t 0) 1048576;have c:=Ze t;rw[show min (max t 0) 1048576=CP t from rfl]at a;generalize CP t=T at*;generalize max t 0=f at*;go_enter Tryz.func70,Tryz.ntmps70;go_wp2;go_ret;exact⟨rfl,⟨AN 190 w (Jl T (List.replicate 16 0)),Ch.zero,c⟩,Ax _ _⟩
structure PD where
 o:Int
 l:Int
 k:Int
 z:Int
 h:Int
 xs:List Nat
 s:ByteArray
def PD.dflt:PD:=⟨0,0,0,0,0,[],⟨#[]⟩⟩
def PKV.pd(p:PKV):PD:=⟨p.o,p.l,p.k,p.z,p.h,p.r.xs,p.r.s⟩
def BT(p:PD):Bool:=decide (((1<=p.k/\p.k<=128)/\1<=p.z/\p.z<=64)/\(0<=p.o/\p.o<=4294967295)/\(0<=p.l/\p.l<=p.k*p.z)/\0<=p.h/\p.h<=15)&&(AV p.k p.xs&&decide (0<cnt p.xs)&&decide ((p.s.size:Int)=p.z))
theorem Gp{p:PD}:BT p=true↔Ci p.o p.l p.k p.z p.h p.xs p.s.size:=by
 unfold BT Ci;rw[Bool.and_eq_true,Bool.and_eq_true,Bool.and_eq_true,Hc,decide_eq_true_eq,decide_eq_true_eq,decide_eq_true_eq];unfold Lc Je JZ;rw[and_assoc (a:=Cq p.k p.xs)]
theorem QT(p:PD):ER (if BT p=true then 0 else 1) (Ci p.o p.l p.k p.z p.h p.xs p.s.size):=by
 by_cases h:BT p=true
 ·rw[if_pos h];exact .inl ⟨Gp.1 h,rfl⟩
 ·rw[if_neg h];exact .inr ⟨fun a=>h (Gp.2 a),rfl⟩
theorem I5{p:PD}(h:BT p=true):Cq p.k p.xs/\0<cnt p.xs/\(p.s.size:Int)=p.z/\1<=p.k/\p.k<=128/\p.z<=64:=by
 obtain⟨⟨⟨a,c⟩,_⟩,d,e,f⟩:=Gp.1 h;exact⟨d,e,f,a.1,a.2,c.2⟩
theorem JX{p:PD}(h:BT p=true):p.xs.length<=2:=by
 obtain⟨⟨a,c,_⟩,_⟩:=I5 h;have:=D6 p.k;omega
theorem ZA{p:PD}(h:BT p=true):(cnt p.xs:Int)<=p.k:=by
 obtain⟨⟨_,_,a⟩,_,_,e,_⟩:=I5 h;have c:=(Pl p.xs p.k.toNat).2 a;have d:=PZ p.xs p.k.toNat;omega
def vecsD(L:List PD):List (List Nat):=L.map fun p=>p.xs
def Bx(q p:PD):Bool:=decide (q.o=p.o/\q.l=p.l/\q.k=p.k/\q.z=p.z)
theorem UT{p q:PD}(h:Bx p q=true):Bx q p=true:=by
 unfold Bx at*;rw[decide_eq_true_eq]at*;exact⟨h.1.symm,h.2.1.symm,h.2.2.1.symm,h.2.2.2.symm⟩
theorem Tz{p q r:PD}(h:Bx p q=true)(k:Bx q r=true):Bx p r=true:=by
 unfold Bx at*;rw[decide_eq_true_eq]at*;exact⟨h.1.trans k.1,h.2.1.trans k.2.1,h.2.2.1.trans k.2.2.1,h.2.2.2.trans k.2.2.2⟩
theorem O9(p:PD):Bx p p=true:=by unfold Bx;rw[decide_eq_true_eq];exact⟨rfl,rfl,rfl,rfl⟩
theorem Qn{p:PKV}(h:BT p.pd=false):ER 1 (Ci p.o p.l p.k p.z p.h p.r.xs p.r.s.size):=by
 have:=QT p.pd;rw[h]at this;exact this
theorem MJ{p:PKV}(h:BT p.pd=true):ER 0 (Ci p.o p.l p.k p.z p.h p.r.xs p.r.s.size):=by
 have:=QT p.pd;rw[h]at this;exact this
theorem Lu{ps:List PKV}{i:Nat}(a:i<ps.length):(ps.map PKV.pd).getD i .dflt=(ps.getD i .dflt).pd:=by
 rw[List.getD_eq_getElem?_getD,List.getElem?_map,List.getElem?_eq_getElem a,List.getD_eq_getElem?_getD,List.getElem?_eq_getElem a];rfl
end
section
variable {D:DataW Unit}{L:List Nat}{x b n g m N:Nat}{w w':World}
def Dq(p:PD):Nat:=if BT p=true then Js (BQ p.o p.l p.k p.z 0 p.xs (tx p.s))else 0
theorem ZG{p:PD}(h:BT p=true):Dq p=Js (BQ p.o p.l p.k p.z 0 p.xs (tx p.s)):=if_pos h
theorem ZH{p:PD}(h:BT p=false):Dq p=0:=if_neg (by rw[h];decide)
theorem QW(p:PD):Dq p<4294967296:=by
 unfold Dq;split
 ·exact Xv (Kz _ _ _ _ _ _ _ (Ck _))
 ·decide
def DF(L:List Nat)(x:Nat):Bool:=L.contains x
theorem Ve:DF L x=true↔x∈L:=by simp[DF]
theorem MS:DF L x=false↔x∉L:=by rw[<-Ve];simp
def Dx(L:List Nat)(p:PD):Bool:=BT p&& !DF L (Dq p)
def G0(m:Nat)(L:List Nat)(x:Nat):List Nat:=if m=0 then L else if L.length=m then L.tail++[x]else L++[x]
def Ht(m:Nat)(L:List Nat)(p:PD):List Nat:=if Dx L p=true then G0 m L (Dq p)else L
theorem Lq{a:Nat}(h:(.int .u32 (a:Int):Lit)=.int .u32 (b:Int)):a=b:=by
 simp only[Lit.int.injEq,true_and]at h;omega
theorem P9(a:Nat):WideAt.IsKeyLit (.int .u32 (a:Int)):=trivial
theorem bU(a b:Nat):(Lit.int .u32 (a:Int)).sameKey (.int .u32 (b:Int))=decide (a=b):=by
 by_cases e:a=b
 ·subst e;rw[WideAt.sameKey_self (P9 a)];simp
 ·rw[sameKey_ne (fun h=>e (Lq h))];simp[e]
structure Et(D:DataW Unit)(nx:Nat)(es:List (Nat×Nat)):Prop where
 has:∀x:Nat,Maps.has D (.int .u32 (x:Int))=DF (es.map Prod.fst) x
 at':∀p∈es,∀z,D.atKey (.int .u32 (p.1:Int)) z=.lit (.int .i64 (p.2:Int))
 size:Maps.size D=es.length
 rise:es.Pairwise fun p q=>p.2<q.2
 two:es.Pairwise fun p q=>p.1≠q.1
 low:∀p∈es,p.2<nx
theorem Et.empty:Et (.map []) 0 []:=
 ⟨fun x=>rfl,fun p h=>(by cases h),rfl,List.Pairwise.nil,List.Pairwise.nil,fun p h=>(by cases h)⟩
theorem Et.put{nx:Nat}{c:List (Nat×Nat)}(h:Et D nx c)(d:Tidy D){x:Nat}(j:x∉c.map Prod.fst):
  Et (D.put (.int .u32 (x:Int)) (.lit (.int .i64 (nx:Int)))) (nx+1) (c++[(x,nx)]):=by
 have k:Maps.has D (.int .u32 (x:Int))=false:=by rw[h.has,MS];exact j
 refine⟨fun y=>?_,fun p hp z=>?_,?_,?_,?_,fun p hp=>?_⟩
 ·by_cases e:y=x
  ·subst e
   rw[has_put_same d.isMap (P9 y)];simp[DF]
  ·rw[has_put_other (fun f=>e (Lq f)),h.has]
   simp[DF,e]
 ·rw[List.mem_append,List.mem_singleton]at hp
  rcases hp with hp|rfl
  ·have:p.1≠x:=fun e=>j (List.mem_map.2 ⟨p,hp,e⟩)
   rw[atKey_put_other (fun f=>this (Lq f))];exact h.at' p hp z
  ·exact atKey_put_same d.isMap (P9 x) _ z
 ·rw[size_put d,k,h.size];simp
 ·rw[List.pairwise_append]
  exact⟨h.rise,List.pairwise_singleton _ _,fun p hp q a=>by rw[List.mem_singleton]at a;subst a;exact h.low p hp⟩
 ·rw[List.pairwise_append]
  exact⟨h.two,List.pairwise_singleton _ _,fun p hp q a=>by rw[List.mem_singleton]at a;subst a;exact fun e=>j (List.mem_map.2 ⟨p,hp,e⟩)⟩
 ·rw[List.mem_append,List.mem_singleton]at hp
  rcases hp with hp|rfl
  ·have:=h.low p hp;omega
  ·show nx<nx+1;omega
theorem Et.del{nx k s:Nat}{a:List (Nat×Nat)}(h:Et D nx ((k,s)::a))(f:Tidy D):Et (D.del (.int .u32 (k:Int))) nx a:=by
 have o:=List.pairwise_cons.1 h.rise;have ht:=List.pairwise_cons.1 h.two
 have d:k∉a.map Prod.fst:=fun l=>by
  obtain⟨p,hp,e⟩:=List.mem_map.1 l;exact ht.1 p hp e.symm
 have j:Maps.has D (.int .u32 (k:Int))=true:=by rw[h.has];simp[DF]
 refine⟨fun y=>?_,fun p hp z=>?_,?_,o.2,ht.2,fun p hp=>h.low p (List.mem_cons_of_mem _ hp)⟩
 ·by_cases e:y=k
  ·subst e
   rw[has_del_same];exact(MS.2 d).symm
  ·rw[has_del_other (fun c=>e (Lq c)),h.has]
   simp[DF,e]
 ·have:p.1≠k:=fun e=>d (List.mem_map.2 ⟨p,hp,e⟩)
  rw[atKey_del_other (fun c=>this (Lq c))];exact h.at' p (List.mem_cons_of_mem _ hp) z
 ·have:=size_del (k:=.int .u32 (k:Int)) f
  rw[j,h.size]at this;simp only[if_true,List.length_cons]at this;omega
theorem J8:Keyed Tryz.prog 112:=int_keyed Tryz.underlying112
theorem cN(w:World):(zeroValue 3).run Tryz.prog w=.ok (.int .i64 0) w:=by kernel_rfl
theorem Nn(h:x<4294967296):keyOf Tryz.prog 112 (.int .u32 (x:Int))=some (.int .u32 (x:Int)):=keyOf_int_mk Tryz.underlying112 (WalkArith.wf_u32 (by omega))
def A1(w:World)(b n:Nat)(D:DataW Unit):Prop:=w.ownsMap Tryz.prog 112 (plainElem Tryz.prog 3) b n D
theorem A1.lt(h:A1 w b n D):b<w.heap.size:=World.ownsMap.lt h
theorem A1.tu{F:Nat->Prop}(h:A1 w b n D)(ht:Tu F w w')(d:¬F b):A1 w' b n D:=by
 have f:=h.lt;obtain⟨c,a,e,r⟩:=h;exact⟨c,a,(ht.block b f d).trans e,r⟩
theorem A1.exact(h:A1 w b n D):A1 w b (Maps.size D) D:=by
 obtain⟨c,a,d,F,e,rfl⟩:=h;exact⟨c,a,d,F,by simp[Maps.size,length_sorted],rfl⟩
theorem A1.tidy(h:A1 w b n D):Tidy D:=World.ownsMap.tidy h J8
theorem Qu(h:w.mapTurned w' b):Tu (fun j=>j=b) w w':=Tu.of_gb h.grown fun j _ e=>(Option.some.inj e).symm
theorem A1.nocells(h:A1 w b n D)(c:Array Value)(t:TypeId)(m:Nat×Nat):w.heap[b]? ≠some (.cells c t m):=by
 obtain⟨f,a,d,_⟩:=h;rw[d];intro e;cases e
structure AP(w:World)(g b m N:Nat)(L:List Nat):Prop where
 it:∃nx es D,nx<=N/\BkA 193 w g [.int .i64 (m:Int),.map (some b),.int .i64 (nx:Int)]/\A1 w b L.length D/\Et D nx es/\L=es.map Prod.fst
 len:L.length<=m
 most:m<=256
def Fe(g b:Nat)(j:Nat):Prop:=j=g\/j=b
theorem AP.lt(h:AP w g b m N L):g<w.heap.size/\b<w.heap.size:=by
 obtain⟨nx,d,D,_,a,c,_⟩:=h.it;exact⟨a.lt,c.lt⟩
theorem AP.tu{F:Nat->Prop}(h:AP w g b m N L)(ht:Tu F w w')(d:¬F g)(c:¬F b):AP w' g b m N L:=by
 obtain⟨nx,a,D,f,e,j,r⟩:=h.it;exact⟨⟨nx,a,D,f,e.tu ht d,j.tu ht c,r⟩,h.len,h.most⟩
theorem AP.below(h:AP w g b m N L)(a:Below w.heap.size w w'):AP w' g b m N L:=h.tu (F:=fun _=>False) (Tu.of_below a) id id
theorem AP.mono{a:Nat}(h:AP w g b m N L)(d:N<=a):AP w g b m a L:=by
 obtain⟨nx,c,D,e,r⟩:=h.it;exact⟨⟨nx,c,D,Nat.le_trans e d,r⟩,h.len,h.most⟩
theorem AP.ne(h:AP w g b m N L):g≠b:=fun e=>by
 obtain⟨nx,d,D,_,a,c,_⟩:=h.it;exact c.nocells _ _ _ (e▸a)
theorem AP.out{j:Nat}{a:Array Value}{t:TypeId}{f:Nat×Nat}(h:AP w g b m N L)(c:w.heap[j]? =some (.cells a t f))(ht:t≠193):¬Fe g b j:=by
 obtain⟨nx,l,D,_,d,k,_⟩:=h.it;rintro(e|e)
 ·subst e
  exact d.ne c (fun e=>ht e.symm) rfl
 ·subst e
  exact k.nocells _ _ _ c
end
end Go.Proofs.YtfpmnekaockodaaGreatDoor
