/- Laws for the proof. -/
import Derived.Test.YtfpmnekaockodaaGreatDoorU45
namespace Go.Proofs.YtfpmnekaockodaaGreatDoor
open Go.RowKit Go.Sort
set_option linter.all false
set_option maxRecDepth 4000
set_option maxHeartbeats 8000000
variable {n:Ao}{T:AF}{g k:Nat}{w:World}
theorem Xe{j l:BB}{fs:List AH}(h:Dt T j l ⟨g,n⟩ 3 fs)(f:GB n.s=true)(i:GC n.s=⟨#[97]⟩):∃a b c d e:Int,GA T 2=[.int .i64 a,.int .i64 b,.int .i64 c,.int .i64 d,.int .i64 e,.bool true,.string ⟨#[97]⟩]:=by
 unfold GA;rw[if_pos (by decide),show(2:Int).toNat=2 from rfl,h.ns];show∃a b c d e:Int,Hz n T.now=_;unfold Hz;rw[f,i];exact⟨_,_,_,_,_,rfl⟩
theorem qw{i j:BB}{fs:List AH}(h:Dt T i ⟨g,n⟩ j 3 fs)(f:(Gy (CP n.p.timeout) n.s.Z 3).length=1):∃(a b c d:Int) (e:Bool) (s:ByteArray),GA T 1=[.int .i64 a,.int .i64 b,.int .i64 c,.int .i64 d,.int .i64 1,.bool e,.string s]:=by
 unfold GA;rw[if_pos (by decide),show(1:Int).toNat=1 from rfl,h.ns,h.now];show∃(a b c d:Int) (e:Bool) (s:ByteArray),Hz n 3=_;unfold Hz;rw[f];exact⟨_,_,_,_,_,_,rfl⟩
theorem Qd{w0:World}{q:Nat}{P:Nat->Bq}{l:List AH}(h:AS w0 w q P T k)(o:T.fs=l):Calls Tryz.prog 15 #[.pointer (some ⟨q,0,none⟩)] w fun e w'=> ∃a c,e=.returned (.slice a l.length c)/\Ap w' w.heap.size (.slice a l.length c) l/\Below w.heap.size w w':=
 (mh q w0.heap.size T w h.net fun f m=>(h.inv.fly f m).2.2).mono fun e w' ⟨v,j,b,i⟩=>by
  obtain⟨a,c,d⟩:=b.len;rw[o]at d b;exact⟨a,c,by rw[j,d],d▸b,i⟩
theorem ZL(a b c d e:Int)(f:Bool)(s:ByteArray)(w:World):(Instr.field 44 (.agg #[.int .i64 a,.int .i64 b,.int .i64 c,.int .i64 d,.int .i64 e,.bool f,.string s]) 4).run Tryz.prog w=.ok (.int .i64 e) w:=by kernel_rfl
theorem ZM(a b c d e:Int)(f:Bool)(s:ByteArray)(w:World):(Instr.field 44 (.agg #[.int .i64 a,.int .i64 b,.int .i64 c,.int .i64 d,.int .i64 e,.bool f,.string s]) 5).run Tryz.prog w=.ok (.bool f) w:=by kernel_rfl
theorem ZN(a b c d e:Int)(f:Bool)(s:ByteArray)(w:World):(Instr.field 44 (.agg #[.int .i64 a,.int .i64 b,.int .i64 c,.int .i64 d,.int .i64 e,.bool f,.string s]) 6).run Tryz.prog w=.ok (.string s) w:=by kernel_rfl
theorem fR(w:World)(ht:Bt w):Calls Tryz.prog 8 #[] w fun e w'=>e=.returned (.bool true)/\Below w.heap.size w w':=by
 have HT:=Ab ht;clear ht;have y4:=ZL;have y5:=ZM;have y6:=ZN;have FA:=Ab True.intro;have FB:=Ab True.intro;have FC:=Ab True.intro;have FD:=Ab True.intro;have FE:=Ab True.intro;have FF:=Ab True.intro;have FG:=Ab True.intro;have FH:=Ab True.intro;have FI:=Ab True.intro;have FJ:=Ab True.intro;have FK:=Ab True.intro;have FL:=Ab True.intro;have FN:=Ab True.intro;have FO:=Ab True.intro;have FP:=Ab True.intro;have FQ:=Ab True.intro;have FR:=Ab True.intro;go_enter Tryz.func8,Tryz.ntmps8
 go_wp2_with (first
  |(clear FA;go_at_call 21;refine(Vs _).mono ?_;rintro e w1 ⟨a1,x1,y1,rfl,D,m⟩;have v:=Ab (aD D);have Q:=Ab m;have c:=Ab ((Aa HT).below m);clear D m)
  |(clear FB;go_at_call 9;refine(Aa v).mono ?_;rintro e w2 ⟨q,T0,P,n0,n1,n2,rfl,b,a,s0,s1,s2⟩;have J1:=Ab b;have o:=Ab (And.intro a (And.intro s0 (And.intro s1 s2)));clear b a s0 s1 s2 v)
  |(clear FC;go_at_call 9;refine(aE _).mono ?_;rintro e w3 ⟨rfl,d⟩;have J2:=Ab ((Aa J1).below d);clear d J1)
  |(clear FD;go_at_call 13;refine(GO (Aa J2) (Aa c) (by decide) 1 0 3 0 0 0 (Dv _) (Nat.zero_le _)).mono ?_;rintro e w4 ⟨ok,T1,k1,rfl,a,b⟩;obtain⟨rfl,rfl,m0,m1,m2,d2,s0,s1,s2⟩:=lN (Aa o).1 (Aa o).2.1 (Aa o).2.2.1 (Aa o).2.2.2 a;have J3:=Ab b;have r:=Ab (And.intro d2 (And.intro s0 (And.intro s1 s2)));clear b a d2 s0 s1 s2 J2 o)
  |(clear FE;go_at_call 13;refine(GO (Aa J3) (Aa c) (by decide) 2 0 0 0 0 0 (Dv _) (Nat.zero_le _)).mono ?_;rintro e w5 ⟨ok,T2,k2,rfl,a,b⟩;obtain⟨rfl,rfl,o0,d3⟩:=pg (Aa r).1 (Aa r).2.1 a;have S:=Ab b;have u:=Ab (And.intro d3 (And.intro (Aa r).2.2.1 (Aa r).2.2.2));clear b a d3 J3 r)
  |(clear FF;go_at_call 15;refine(Qd (Aa S) (Aa u).1.fs).mono ?_;rintro e w6 ⟨a2,c2,rfl, -,d⟩;have J5:=Ab ((Aa S).below d);clear d S)
  |(clear FG;go_at_call 13;refine(GO (Aa J5) (Aa c) (by decide) 3 0 0 0 0 0 (Dv _) (Nat.zero_le _)).mono ?_;rintro e w7 ⟨ok,T3,k3,rfl,a,b⟩;obtain⟨rfl,rfl,u1,d4,I,J,q3,q4,q5,q6⟩:=qh (Aa u).1 (Aa u).2.1 a;have J6:=Ab b;have X:=Ab d4;have l:=Ab (And.intro I (And.intro J (And.intro q3 (And.intro q4 (And.intro q5 q6)))));have S4:=Ab (Aa u).2.2;clear b a d4 I J q3 q4 q5 q6 J5 u)
  |(clear FH;go_at_call 13;refine(GO (Aa J6) (Aa c) (by decide) 2 1 0 0 0 0 (Dv _) (Nat.zero_le _)).mono ?_;rintro e w8 ⟨ok,T4,k4,rfl,a,b⟩;obtain⟨rfl,rfl,v1,d5,p1,p2⟩:=qj (Aa X) (Aa l).1 (Aa l).2.1 (Aa l).2.2.1 (Aa l).2.2.2.1 (Aa l).2.2.2.2.1 a;have J7:=Ab b;have Y:=Ab d5;have Q5:=Ab (show(Gy (CP v1.p.timeout) v1.s.Z 3).length=1 from by rw[p1,p2];exact(Aa l).2.2.2.2.2);clear b a d5 p1 p2 J6 X l)
  |(clear FI;go_at_call 13;refine(GO (Aa J7) (Aa c) (by decide) 5 0 0 0 0 0 (Dv _) (Nat.zero_le _)).mono ?_;rintro e w9 ⟨ok,T5,k5,rfl,a,b⟩;obtain⟨rfl,rfl,d6⟩:=qg (Aa Y) a;have V:=Ab b;have O:=Ab d6;clear b a d6 J7 Y)
  |(clear FJ;go_at_call 15;refine(Qd (Aa V) (Aa O).fs).mono ?_;rintro e aa ⟨a3,c3,rfl, -,d⟩;have J9:=Ab ((Aa V).below d);clear d V)
  |(clear FK;go_at_call 13;refine(GO (Aa J9) (Aa c) (by decide) 3 0 1 0 0 0 (Dv _) (Nat.zero_le _)).mono ?_;rintro e ab ⟨ok,T6,k6,rfl,a,b⟩;obtain⟨rfl,rfl,z1,d7,I,J⟩:=pf (Aa O) (Aa S4) a;have y:=Ab b;have D7:=Ab d7;have L:=Ab (And.intro I J);clear b a d7 I J J9 O S4)
  |(clear FL;go_at_call 13;refine(GO (Aa y) (Aa c) (by decide) 4 0 0 0 0 0 (Dv _) (Nat.zero_le _)).mono ?_;rintro e ac ⟨ok,N,k7,rfl,a,b⟩;obtain⟨rfl,rfl,W⟩:=lM (Aa D7) a;have h:=Ab b;have K:=Ab W;have H:=W.now;clear b a W y D7)
  |(go_at_call 20;refine(mj q w1.heap.size N _ (Aa h).net).mono ?_;rintro e ad ⟨rfl,hw⟩;obtain rfl:=hw.symm;clear hw;rw[H])
  |(clear FN;go_at_call 14;obtain⟨r0,r1,r2,r3,r4,f⟩:=Xe (Aa K) (Aa L).1 (Aa L).2;refine(Mj q w1.heap.size N 2 _ (Aa h).net ((Aa h).tabs (Aa c) _ (Below.refl _ _)).tab).mono ?_;rw[f];rintro e ae ⟨rfl,d⟩;have i:=Ab ((Aa h).below d);clear d h f)
  |(clear FO;go_at_call 14;obtain⟨t0,t1,t2,t3,t4,f⟩:=Xe (Aa K) (Aa L).1 (Aa L).2;refine(Mj q w1.heap.size N 2 _ (Aa i).net ((Aa i).tabs (Aa c) _ (Below.refl _ _)).tab).mono ?_;rw[f];rintro e af ⟨rfl,d⟩;have j:=Ab ((Aa i).below d);clear d i f)
  |(clear FP;go_at_call 14;obtain⟨l0,l1,l2,l3,l4,l5,f⟩:=qw (Aa K) (Aa Q5);refine(Mj q w1.heap.size N 1 _ (Aa j).net ((Aa j).tabs (Aa c) _ (Below.refl _ _)).tab).mono ?_;rw[f];rintro e ag ⟨rfl,d⟩;have z:=Ab ((Aa j).below d);clear d j f)
  |(clear FQ;go_at_call 13;refine(GO (Aa z) (Aa c) (by decide) 4 0 0 0 0 0 (Dv _) (Nat.zero_le _)).mono ?_;rintro e ah ⟨ok,T8,k8,rfl,a,b⟩;obtain⟨rfl,rfl,rfl⟩:=Rm a (.inr (.inr ⟨by decide,(Aa K).fs⟩));have A:=Ab b;clear b a z)
  |(clear FR;go_at_call 13;refine(GO (Aa A) (Aa c) (by decide) 8 0 0 0 0 0 (Dv _) (Nat.zero_le _)).mono ?_;rintro e ai ⟨ok,T9,k9,rfl,a,b⟩;obtain⟨rfl,rfl,rfl⟩:=Rm a (.inl (.inr (by decide)));have B:=Ab b;clear b a A)
  |(go_at_call 21;refine(Vs _).mono ?_;rintro e aj ⟨a9,x9,y9,rfl,E,d⟩;have x:=Ab (aC E);have C:=Ab ((Aa B).below d);clear E d B)
  |(go_at_call 10;refine(Aa x).mono ?_;rintro e ak ⟨rfl,d⟩;have R:=Ab ((Aa C).below d);clear d C x)
  |fail)
 go_ret;exact⟨rfl,Ad (Aa Q) (Aa R).low⟩
theorem ig(f:A4)(w:World)(h:Bz w f):Calls Tryz.prog 11 #[f.val] w fun e w'=> ∃en:Int,e=.returned (.int .i64 en)/\Bl f en/\Below w.heap.size w w':=by
 have i:=Ab (Ax w (.cells #[.slice f.a f.n f.c,.string f.obj,.int .i64 f.size,.int .i64 f.spread,.int .i64 f.buffer,.int .i64 f.queue,.int .i64 f.cache,.float .f64 f.rate,.int .i64 f.timeout,.int .i64 f.target] 25));have l:=Ab (fun wx (b:Below w.heap.size w wx)=>rx f wx (h.below b));have o:=(AN 25 w [.slice f.a f.n f.c,.string f.obj,.int .i64 f.size,.int .i64 f.spread,.int .i64 f.buffer,.int .i64 f.queue,.int .i64 f.cache,.float .f64 f.rate,.int .i64 f.timeout,.int .i64 f.target]).load Tryz.underlying25 rfl JJ rfl;clear h;unfold A4.val at*;go_enter Tryz.func11,Tryz.ntmps11
 go_wp2_with (first
  |(go_at_call 26;refine(Aa l _ (by first|exact Aa i|exact Below.refl _ _)).mono ?_;rintro e w1 ⟨en,rfl,j,b⟩;have m:=Ab j;have d:=Ab (show Below w.heap.size w w1 from by first|exact Ad (Aa i) b|exact b);clear b j)
  |fail)
 go_ret;exact⟨en,rfl,Aa m,Aa d⟩
theorem aP{d:AF}{kd nd n a b:Int}{L:List Nat}{e:Nat}{ok:Bool}(h:ES T kd nd n a b L k ok d e)(l:T.ns.length<=8):d.ns.length=T.ns.length/\e<=k+16:=by
 rcases h with⟨_,_,wv,rfl,c⟩|⟨_,_,i,x,f,wv,_,_,_,rfl,c⟩|⟨_,_,i,x,s,_,_,_,rfl,c⟩|⟨_,_,_,f,wv,_,j⟩|⟨_,_,rfl,c⟩
 ·exact⟨Pk _ _ _ _,by omega⟩
 ·exact⟨KR _ _ _ _,by omega⟩
 ·exact⟨KR _ _ _ _,by omega⟩
 ·rcases j with⟨_,x,en,m,_,_,rfl,c⟩|⟨_,rfl,c⟩|⟨_,rfl,c⟩|⟨_,rfl,c⟩
  ·exact⟨KR _ _ _ _,by omega⟩
  ·exact⟨rfl,by omega⟩
  ·exact⟨rfl,by omega⟩
  ·exact⟨rfl,by omega⟩
 ·exact⟨rfl,by omega⟩
theorem WS{b:Int}(h:1<=b/\b<=256):((capN b:Nat):Int)=b:=by unfold capN;omega
theorem UE{ls:List AJ}{m:Nat}:∀{k:Nat},(∀i,i<k->(ls.getD i .dflt).L.length<=m)->ED ls k<=m*k
 |0,_=>Nat.zero_le _
 |k+1,h=>by
  have a:=UE (ls:=ls) (m:=m) (k:=k) fun i c=>h i (by omega);have b:=h k (by omega);show ED ls k+(ls.getD k .dflt).L.length<=m*(k+1);rw[Nat.mul_succ];omega
theorem YY{B:Nat}(h:Al w g B n)(o:1<=n.p.buffer/\n.p.buffer<=256)(u:1<=n.p.queue/\n.p.queue<=256)(t:Int):
  ((kR n.s+kD n.s:Nat):Int)<=n.p.buffer/\kR n.s+rD n.s<=kR n.s+kD n.s/\(ED n.s.ls n.s.ls.length:Int)<=n.p.queue*(n.p.tos.length:Nat)/\(Gy (CP n.p.timeout) n.s.Z t).length<=8:=by
 have y:kR n.s<=capN n.p.buffer:=by
  unfold kR;cases f:n.s.rl with
  |none=>exact Nat.zero_le _
  |some r=>have:=(h.st.rl r f).buf.inv.le;rwa[List.length_map]at this
 have x:kD n.s<=capN n.p.buffer/\rD n.s<=kD n.s:=by
  unfold kD rD;cases f:n.s.dc with
  |none=>exact⟨Nat.zero_le _,Nat.le_refl _⟩
  |some d=>
   refine⟨?_,Wq d.s.L⟩;have b:=h.st.dc d f;show d.s.L.length<=_;rw[b.len.1];cases l:d.s.bg
   ·have j:=b.co
    rw[(b.fresh l).1]at j;rw[List.map_eq_nil_iff.1 j];exact Nat.zero_le _
   ·exact(b.begun l).1.le
 have v:kR n.s=0\/kD n.s=0:=by
  unfold kR kD;rcases h.kd with⟨_,_,e,_⟩|⟨_,_,_,e⟩|⟨_,_,e,_⟩
  ·rw[e];exact .inl rfl
  ·rw[e];exact .inr rfl
  ·rw[e];exact .inl rfl
 have z:=WS o;have c:=WS u;have a:=UE (ls:=n.s.ls) (m:=capN n.p.queue) (k:=n.s.ls.length) fun i q=>(Au.qu (h.st.each i q).1).len;rw[h.num.2.1]at a;refine⟨by omega,by omega,?_,Ml _ 8⟩;rw[h.num.2.1,<-c,<-Int.natCast_mul];exact Int.ofNat_le.2 a
theorem rn{f:A4}(h:ET f T){i:Nat}(b:i<f.n):(Fw T i).buffer=f.buffer/\(Fw T i).queue=f.queue/\(Fw T i).tos=(f.ds.getD i .dflt).tos:=by
 obtain⟨x,a⟩:∃x,T.ns[i]? =some x:=⟨_,List.getElem?_eq_getElem (by rw[h.len];exact b)⟩;have N:=h.node i x a;unfold Fw;rw[a];exact⟨N.buffer,N.queue,N.tos⟩
theorem kF(f:A4)(a:Option Addr)(n c:Nat)(m:List Eg)(w:World)(K:f.obj.size<=9223372036854775807)(h:DH w a n m)(Q:n<=9223372036854775807)(B:∀i,(m.getD i .dflt).dn<=9223372036854775807):
  Calls Tryz.prog 12 #[f.val,.slice a n c] w fun e w'=>((e=.returned (.int .i64 1)/\n<=100/\∀i,i<n->(m.getD i .dflt).dn<=300)\/e=.returned (.int .i64 0))/\Below w.heap.size w w':=by
 have r:=Ab (Ax w (.cells #[.slice f.a f.n f.c,.string f.obj,.int .i64 f.size,.int .i64 f.spread,.int .i64 f.buffer,.int .i64 f.queue,.int .i64 f.cache,.float .f64 f.rate,.int .i64 f.timeout,.int .i64 f.target] 25));have p:=(AN 25 w [.slice f.a f.n f.c,.string f.obj,.int .i64 f.size,.int .i64 f.spread,.int .i64 f.buffer,.int .i64 f.queue,.int .i64 f.cache,.float .f64 f.rate,.int .i64 f.timeout,.int .i64 f.target]).load Tryz.underlying25 rfl JJ rfl;have x:=Ab (fun wx=>fH f wx K);have H:=Ab h;have E:=Ab B;clear h B;unfold A4.val at*;by_cases L:(100:Int)<(n:Int)
 ·go_enter Tryz.func12,Tryz.ntmps12
  go_wp2;go_ret;exact⟨.inr rfl,Aa r⟩
 go_enter Tryz.func12,Tryz.ntmps12;go_wp2_with fail;refine(Aa x _).mono ?_;rintro e w1 ⟨⟨rfl, -⟩|⟨rfl, -⟩,s⟩
 ·have l:=Ab (Ad (Aa r) s)
  clear s p;go_wp2;go_ret;exact⟨.inr rfl,Aa l⟩
 ·have l:=Ab (Ad (Aa r) s)
  have D:=Ab ((Aa H).below (Aa l));clear s p r H x;go_wp2_with fail;go_loop [5] (fun i=> ∃k:Nat,k<=n/\i=.int .i64 k/\Hid (∀j,j<k->(m.getD j .dflt).dn<=300)) (fun i=>n-(intOf i).toNat)
  case atStart=>exact⟨0,Nat.zero_le _,rfl,Ab (fun j I=>by omega)⟩
  case round=>
   obtain⟨k,P,rfl,y⟩:=hrel;by_cases o:k<n
   ·have C:(k:Int)<(n:Int):=by omega
    obtain⟨b,off,z,A⟩:=(Aa D).at o;have O:=A k o 5 _ rfl;have J:=Aa E k
    have u:=Ab (fun(e:(m.getD k .dflt).dn<=300)=>show∀j,j<k+1->(m.getD j .dflt).dn<=300 from fun j I=>by
     by_cases q:j=k
     ·rw[q];exact e
     ·exact Aa y j (by omega))
    rw[z];clear A z;generalize m.getD k .dflt=d at*;by_cases N:(300:Int)<(d.dn:Int)
    ·go_wp2
     go_ret;exact⟨.inr rfl,Aa l⟩
    ·have v:=Ab (Aa u (by omega))
     go_wp2;go_round
     case rel=>exact⟨k+1,o,by go_num,v⟩
     case measure=>simp[intOf];omega
   ·obtain rfl:k=n:=by omega
    go_wp2;go_ret;exact⟨.inl ⟨rfl,by omega,Aa y⟩,Aa l⟩
theorem ml{w0 E:World}{q:Nat}{f:A4}{e:AF}(h:AS w0 w q (Fw e) T k)(v:ET f e)(H:T.ns.length=f.n)(z:Bl f 0)(b:Bz E f){i:Nat}(j:i<f.n):
  ∃(a d u o kn:Int) (dn:Bool) (ob:ByteArray),GA T (i:Int)=[.int .i64 a,.int .i64 d,.int .i64 u,.int .i64 o,.int .i64 kn,.bool dn,.string ob]/\d<=f.buffer/\u<=d/\o<=f.queue*((f.ds.getD i .dflt).n:Nat)/\kn<=8:=by
 obtain⟨x,c⟩:∃x,T.ns[i]? =some x:=⟨_,List.getElem?_eq_getElem (by omega)⟩;have X:=h.inv.node i x c;obtain⟨l,m,C⟩:=rn v j;rcases z with⟨hp,_⟩|⟨_,A⟩
 ·obtain⟨⟨_,_,y,B,_⟩,_⟩:=hp
  obtain⟨r1,r2,r,D⟩:=YY (h.net.each i x c) (by rw[X.p,l];exact y) (by rw[X.p,m];exact B) T.now;rw[X.p,l]at r1;rw[X.p,m,C,(b.nds.2.1 i j).1]at r;refine⟨(x.n.inc:Int),((kR x.n.s+kD x.n.s:Nat):Int),((kR x.n.s+rD x.n.s:Nat):Int),((ED x.n.s.ls x.n.s.ls.length:Nat):Int),((Gy (CP x.n.p.timeout) x.n.s.Z T.now).length:Int),GB x.n.s,GC x.n.s,?_,r1,Int.ofNat_le.2 r2,r,Int.ofNat_le.2 D⟩;unfold GA;rw[if_pos (by omega),show((i:Nat):Int).toNat=i from by omega,c];rfl
 ·exact absurd A (by decide)
theorem du(f:A4)(a:Option Addr)(n c:Nat)(x:List Eg)(w:World)(ht:Bt w)(hf:Bz w f)(he:DH w a n x)(hn:n<=9223372036854775807)(hd:∀i,(x.getD i .dflt).dn<=9223372036854775807):
  Calls Tryz.prog 4 #[f.val,.slice a n c] w fun e w'=>e=.returned (.bool true)/\Below w.heap.size w w':=by
 have X:=Ab (AN 25 w [.slice f.a f.n f.c,.string f.obj,.int .i64 f.size,.int .i64 f.spread,.int .i64 f.buffer,.int .i64 f.queue,.int .i64 f.cache,.float .f64 f.rate,.int .i64 f.timeout,.int .i64 f.target]);have HB:=Ab (Ax w (.cells #[.slice f.a f.n f.c,.string f.obj,.int .i64 f.size,.int .i64 f.spread,.int .i64 f.buffer,.int .i64 f.queue,.int .i64 f.cache,.float .f64 f.rate,.int .i64 f.timeout,.int .i64 f.target] 25));have HA:=Ab (fun wx (N:Below w.heap.size w wx)=>fR wx (ht.below N));have S:=Ab (fun wx (N:Below w.heap.size w wx)=>hf.below N);have HE:=Ab (fun wx (N:Below w.heap.size w wx)=>he.below N);have Y:=Ab (fun wx (N:Below w.heap.size w wx)=>ht.below N);have ak:=(Aa X).load Tryz.underlying25 rfl JJ rfl;have HW:=Ab (kF f a n c x _ hf.obj (he.below (Aa HB)) hn hd);have HD:=Ab hd;clear ht hf he hd;unfold A4.val at*;go_enter Tryz.func4,Tryz.ntmps4;go_wp2_with fail;refine(Aa HW).mono ?_;rintro e w1 ⟨⟨rfl,a4,af⟩|rfl,B⟩
 case inr=>
  have y:=Ab (Ad (Aa HB) B);clear B ak HW
  go_wp2_with (first
   |(go_at_call 8;refine(Aa HA _ (Aa y)).mono ?_;rintro e w2 ⟨rfl,s⟩;have d:=Ab (Ad (Aa y) s);clear s)
   |fail)
  go_ret;exact⟨rfl,Aa d⟩
 have y:=Ab (Ad (Aa HB) B);have A:=Ab ((Aa X).below B);have y0:=(Aa A).at 0 rfl;have y1:=(Aa A).at 1 rfl;have y2:=(Aa A).at 2 rfl;have y3:=(Aa A).at 3 rfl;have y4:=(Aa A).at 4 rfl;have y5:=(Aa A).at 5 rfl;have y6:=(Aa A).at 6 rfl;have y7:=(Aa A).at 7 rfl;have y8:=(Aa A).at 8 rfl;have y9:=(Aa A).at 9 rfl;have HR:=Ab (ig f w1 ((Aa S) w1 (Aa y)));unfold A4.val at HR;have au:=Ab af;clear B ak HW af;go_wp2_with fail;refine(Aa HR).mono ?_;rintro e w2 ⟨en,rfl,hr,s⟩;have d:=Ab (Ad (Aa y) s);have v:=Ab ((Aa A).below s);have z0:=(Aa v).at 0 rfl;have z1:=(Aa v).at 1 rfl;have z2:=(Aa v).at 2 rfl;have z3:=(Aa v).at 3 rfl;have z4:=(Aa v).at 4 rfl;have z5:=(Aa v).at 5 rfl;have z6:=(Aa v).at 6 rfl;have z7:=(Aa v).at 7 rfl;have z8:=(Aa v).at 8 rfl;have z9:=(Aa v).at 9 rfl;have HC:=Ab hr;clear hr s HR y0 y1 y2 y3 y4 y5 y6 y7 y8 y9;by_cases h0:en=0
 case neg=>
  have hd:(en !=0)=true:=by simp[h0]
  clear h0
  go_wp2_with (first
   |(go_at_call 8;refine(Aa HA _ (Aa d)).mono ?_;rintro e w3 ⟨rfl,E⟩;have aq:=Ab (Ad (Aa d) E);clear E)
   |fail)
  go_ret;exact⟨rfl,Aa aq⟩
 subst h0;have HN:=Ab (OB f w2 ((Aa S) w2 (Aa d)));unfold A4.val at HN;go_wp2_with fail;refine(Aa HN).mono ?_;rintro e w3 ⟨E,en,ao,⟨a0, -⟩|⟨-,q,Z,rfl,ab,ah⟩⟩
 ·exact absurd (ao.uniq (Aa HC)) a0
 have V:=Ab ah;have W:=Ab ab;have al:=(Aa v).lt;clear E ao ah ab HN z0 z1 z2 z3 z4 z5 z6 z7 z8 z9;go_wp2_with fail;go_loopw [7] (fun i wr=> ∃(m:Nat) (T:AF) (k:Nat),m<=n/\i=.int .i64 m/\Hid (AS w2 wr q (Fw Z) T k/\T.ns.length=f.n/\k<=16*m)) (fun i _=>n-(intOf i).toNat)
 case atStart=>exact⟨0,Z,0,Nat.zero_le _,rfl,Ab ⟨Aa V,(Aa W).len,Nat.le_refl _⟩⟩
 case round=>
  obtain⟨m,T,k,hm,rfl,J⟩:=hrel;rename_i wr;clear V;by_cases l:m<n
  ·have a1:(m:Int)<(n:Int):=by omega
   have z:=Ab ((Aa d).trans ((Aa J).1.low.mono (Aa d).size));obtain⟨b,off,ha,O⟩:=((Aa HE) wr (Aa z)).at l;have I:=((Aa HE) wr (Aa z)).2.1 m l;have ax:=(Aa au) m l;have e0:wr.cell? ⟨b,off+m*6,none⟩=some (.int .i64 (x.getD m .dflt).kd):=O m l 0 _ rfl;have e1:wr.cell? ⟨b,off+m*6+1,none⟩=some (.int .i64 (x.getD m .dflt).nd):=O m l 1 _ rfl;have e2:wr.cell? ⟨b,off+m*6+2,none⟩=some (.int .i64 (x.getD m .dflt).n):=O m l 2 _ rfl;have e3:wr.cell? ⟨b,off+m*6+3,none⟩=some (.int .i64 (x.getD m .dflt).at_):=O m l 3 _ rfl;have e4:wr.cell? ⟨b,off+m*6+4,none⟩=some (.int .i64 (x.getD m .dflt).by_):=O m l 4 _ rfl;have e5:wr.cell? ⟨b,off+m*6+5,none⟩=some (.slice (x.getD m .dflt).a (x.getD m .dflt).dn (x.getD m .dflt).dc):=O m l 5 _ rfl;generalize x.getD m .dflt=P at*;have R:=Ab (GO (Aa J).1 ((Aa Y) w2 (Aa d)) (by have:=(Aa J).2.2;omega) P.kd P.nd P.n P.at_ P.by_ P.dc I (by omega));rw[ha];clear O ha I;go_wp2_with fail;refine(Aa R).mono ?_;rintro e w4 ⟨ok,H,Q,rfl,ag,ai⟩;obtain⟨aj,aw⟩:=aP ag (Aa J).1.net.few.1;have K:=Ab (show AS w2 w4 q (Fw Z) H Q/\H.ns.length=f.n/\Q<=16*(m+1) from⟨ai,aj.trans (Aa J).2.1,by have:=(Aa J).2.2;omega⟩);clear ag ai aj aw R e0 e1 e2 e3 e4 e5;go_wp2_with fail;go_loopw [8] (fun i wr=> ∃j:Nat,j<=f.n/\i=.int .i64 j/\Hid (AS w2 wr q (Fw Z) H Q)) (fun i _=>f.n-(intOf i).toNat)
   case atStart=>exact⟨0,Nat.zero_le _,rfl,Ab (Aa K).1⟩
   case round=>
    obtain⟨j,a3,rfl,o⟩:=hrel
    rename World=>wr2
    have X3:=Ab ((Aa v).belowB (Aa o).low al);have x0:=(Aa X3).at 0 rfl;by_cases h:j<f.n
    ·have av:(j:Int)<(f.n:Int):=by omega
     obtain⟨r0,kr,rk,qd,kn,dn,ob,ap,g1,g2,g3,g4⟩:=ml (Aa o) (Aa W) (Aa K).2.1 (Aa HC) ((Aa S) w2 (Aa d)) h;have L:=Ab (Mj q w2.heap.size H (j:Int) wr2 (Aa o).net ((Aa o).tabs ((Aa Y) w2 (Aa d)) _ (Below.refl _ _)).tab);rw[ap]at L;obtain⟨b2,a2,ac,ad⟩:=((Aa S) wr2 ((Aa d).trans ((Aa o).low.mono (Aa d).size))).nds.at h;obtain⟨-,C⟩:=ad j h;have ae:=Aa HC;obtain⟨an,ay,az⟩:(1<=f.queue/\f.queue<=256)/\f.n<=1000/\(f.ds.getD j .dflt).n<=8:=by
      rcases ae with⟨hp,_⟩|⟨_,he⟩
      ·refine⟨hp.1.2.2.2.1,by have h2:=hp.1.1.2;omega,?_⟩
       have:=((Aa S) w2 (Aa d)).nds.2.1 j h;have h1:=(hp.2.1 j h).2.1;have h2:=hp.1.1.2;have h3:=this.1;omega
      ·exact absurd he (by decide)
     have x4:=(Aa X3).at 4 rfl;have x5:=(Aa X3).at 5 rfl;generalize (f.ds.getD j .dflt).n=r at*;have am:0<=f.queue*(r:Int)/\f.queue*(r:Int)<=2048:=by
      have h1:f.queue*(r:Int)<=256*(r:Int):=Int.mul_le_mul_of_nonneg_right an.2 (by omega);exact⟨Int.mul_nonneg (by omega) (by omega),by omega⟩
     have a6:IntKind.i64.wrap (f.queue*(r:Int))=f.queue*(r:Int):=by rw[IntKind.wrap_i64];omega
     have d1:decide (f.buffer<kr)=false:=by rw[decide_eq_false_iff_not];omega
     have d2:decide (kr<rk)=false:=by rw[decide_eq_false_iff_not];omega
     have d3:decide (f.queue*(r:Int)<qd)=false:=by rw[decide_eq_false_iff_not];omega
     have d4:decide (8<kn)=false:=by rw[decide_eq_false_iff_not];omega
     clear ap ad ae an az am;rw[ac]at x0;clear ac;go_wp2_with fail;refine(Aa L).mono ?_;rintro e w5 ⟨rfl,p⟩;have u:=Ad p (Ax w5 (.cells #[.int .i64 r0,.int .i64 kr,.int .i64 rk,.int .i64 qd,.int .i64 kn,.bool dn,.string ob] 44));have D:=Ab ((Aa o).below u);have z0:=(u.cell (World.block_lt_of_cell? wr2 _ x0)).trans x0;have z4:=(u.cell (World.block_lt_of_cell? wr2 _ x4)).trans x4;have z5:=(u.cell (World.block_lt_of_cell? wr2 _ x5)).trans x5;have zc:=(u.cell (World.block_lt_of_cell? wr2 _ C)).trans C;clear p u x0 x4 x5 C L;rcases hd5:decide ((f.n:Int)<kn)with _|_
     all_goals go_wp2_with fail
     all_goals go_quiet (fail)
     all_goals go_wp2
     all_goals go_roundw
     case rel=>exact⟨j+1,h,by go_num,Ab ((Aa D).below (below_drewN (Below.refl _ _) _))⟩
     case measure=>simp[intOf];omega
     case rel=>exact⟨j+1,h,by go_num,Ab ((Aa D).below (below_drewN (Below.refl _ _) _))⟩
     case measure=>simp[intOf];omega
    ·obtain rfl:j=f.n:=by omega
     have aa:=(Aa o).net.few.2;have d1:decide (512<(H.fs.length:Int))=false:=by rw[decide_eq_false_iff_not];omega
     go_wp2_with fail;refine(Qd (Aa o) rfl).mono ?_;rintro e w5 ⟨a5,c5,rfl, -,p⟩;have D:=Ab (show AS w2 w5 q (Fw Z) H Q/\H.ns.length=f.n/\Q<=16*(m+1) from⟨(Aa o).below p,(Aa K).2⟩);clear p aa;go_wp2;go_roundw
     case rel=>exact⟨m+1,H,Q,l,by go_num,D⟩
     case measure=>simp[intOf];omega
  ·obtain rfl:m=n:=by omega
   have z:=Ab ((Aa d).trans ((Aa J).1.low.mono (Aa d).size))
   go_wp2_with (first
    |(go_at_call 8;refine(Aa HA _ (Aa z)).mono ?_;rintro e w5 ⟨rfl,p⟩;have ar:=Ab (Ad (Aa z) p);clear p)
    |fail)
   go_ret;exact⟨rfl,Aa ar⟩
end Go.Proofs.YtfpmnekaockodaaGreatDoor
