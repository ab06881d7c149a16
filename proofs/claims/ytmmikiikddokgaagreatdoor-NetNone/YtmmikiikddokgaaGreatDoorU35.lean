/-
  Laws that the proof stands on.
-/
import Derived.OneCell
import Derived.Test.YtmmikiikddokgaaGreatDoorU32
namespace Go.Proofs.YtmmikiikddokgaaGreatDoor
open Go.RowKit Go.Sort
set_option linter.unusedVariables false
set_option linter.unusedSimpArgs false
set_option maxRecDepth 4000
set_option maxHeartbeats 8000000
variable {t i:Int}{xs D:List Nat}{L:List PD}{ps us:List PKV}{B g n c N gb m gd Bd:Nat}{a:Option Addr}{o:Option PD}{v va:Value}{w w' wx:World}
def Rf:Value:=.agg #[.int .i64 0,.int .i64 0,.int .i64 0,.int .i64 0,.int .i64 0,.slice none 0 0,.string ⟨#[]⟩]
def Cn(w w':World)(o:Option PD)(e:Ending):Prop:=Below w.heap.size w w'/\match o with
 |none=>e=.returned (.tuple #[Rf,.bool false])
 |some d=> ∃q:PKV,q.pd=d/\e=.returned (.tuple #[q.val,.bool true])/\Own w' w.heap.size (.slice q.r.a q.r.n q.r.c) q.r.xs
theorem Cn.no(d:o=none)(b:Below w.heap.size w w'):Cn w w' o (.returned (.tuple #[Rf,.bool false])):=by
 subst d;exact⟨b,rfl⟩
theorem Cn.yes{d:PD}{q:PKV}(f:o=some d)(h:q.pd=d)(e:Below w.heap.size w w')(b:Own w' w.heap.size (.slice q.r.a q.r.n q.r.c) q.r.xs):Cn w w' o (.returned (.tuple #[q.val,.bool true])):=by
 subst f;exact⟨e,q,h,rfl,b⟩
theorem Own.off(h:Own w B v xs)(b:∀j,v.ownBlock=some j->j≠g)(i:Nat)(u:Value):Own (w.setCell ⟨g,i,none⟩ u) B v xs:=⟨h.1,ownsRow_setCell_other h.2 (fun e=>b g e rfl) u⟩
theorem KW{X:World}{tmps:Array Value}{o l k z h:Int}{s:ByteArray}{b:Bool}(ht:tmps.getD 4 undef=.pointer (some ⟨g,0,none⟩))(f:tmps.getD 5 undef=.bool b)(j:AW X g (.int .i64 o) (.int .i64 l) (.int .i64 k) (.int .i64 z) (.int .i64 h) (.slice a n c) (.string s)):
  (results Tryz.f202 tmps).run Tryz.prog X=.ok (.tuple #[.agg #[.int .i64 o,.int .i64 l,.int .i64 k,.int .i64 z,.int .i64 h,.slice a n c,.string s],.bool b]) X:=by
 obtain⟨p,r1,r2,q,r,u,x⟩:=j.at;have e:tmps[4]?.getD undef=.pointer (some ⟨g,0,none⟩):=by simpa using ht
 have d:tmps[5]?.getD undef=.bool b:=by simpa using f
 simp[results,Tryz.results202,go_sem,e,d,p,r1,r2,q,r,u,x]
theorem Own.all7(h:Own w B v xs)(b:g<B)(u0 u1 u2 u3 u4 u5 u6:Value):Own (set7 w g u0 u1 u2 u3 u4 u5 u6) B v xs:=
 ((((((h.other 0 u0 b).other 1 u1 b).other 2 u2 b).other 3 u3 b).other 4 u4 b).other 5 u5 b).other 6 u6 b
theorem kZ(a:Option Addr)(n c:Nat)(ps:List PKV)(a':Option Addr)(m c':Nat)(ws:List Int)(w:World)(ht:Tab w)(h:PksAt w a n ps)(hk:KsIn w ps)(hs:Qd ps)(hw:IntzAt w a' m ws)(hn:n<=300)(hm:m<=300):
  Calls Tryz.prog 202 #[.slice a n c,.slice a' m c'] w fun e w'=>Cn w w' (H7 (ps.map PKV.pd) ws) e:=by
 have ao:=(Below.refl w.heap.size w).alloc (Nat.le_refl _) (.cells #[.int .i64 0,.int .i64 0,.int .i64 0,.int .i64 0,.int .i64 0,.slice none 0 0,.string ⟨#[]⟩] 75);have hz:=CL w (.int .i64 0) (.int .i64 0) (.int .i64 0) (.int .i64 0) (.int .i64 0) (.slice none 0 0) (.string ⟨#[]⟩);have b5:(w.alloc (.cells #[.int .i64 0,.int .i64 0,.int .i64 0,.int .i64 0,.int .i64 0,.slice none 0 0,.string ⟨#[]⟩] 75)).heap.size=w.heap.size+1:=by simp
 have al:∀p∈atL .dflt ps ws,p∈ps:=fun p hp=>VV (Wq.1 hp);have b2:(atL .dflt ps ws).length<=300:=by have h1:=Xx (dd:=.dflt) ps ws;have h2:=hw.1;omega
 have bb:H7 (ps.map PKV.pd) ws=EW ((atL .dflt ps ws).map PKV.pd):=by rw[Xy];exact(Z5 _ _).symm
 have br:∀p∈atL .dflt ps ws,p.r.n<=10/\p.r.s.size<=1000:=fun p hp=>SM hs (al p hp);have bm:=qI (us:=atL .dflt ps ws);have b6:(AN (Ah (atL .dflt ps ws))).length<=10:=jO (KsIn.rows (hk.sub al)) (NV br);generalize cw:w.alloc (.cells #[.int .i64 0,.int .i64 0,.int .i64 0,.int .i64 0,.int .i64 0,.slice none 0 0,.string ⟨#[]⟩] 75)=W at*;have O:=Ab (Xz a n c ps a' m c' ws W (h.below ao) (hw.below ao) hn hm);have af:=Ab ((hk.sub al).below ao);have aw:=Ab (ht.below ao);have HZ:=Ab hz;have ar:=Ab ao;have ac:=Ab b5;have ch:=Ab br;rw[bb];clear h hk hs hw ao hz b5 al br bb ht;generalize atL .dflt ps ws=us at*;have cz:us.length<=1048576:=by omega
 by_cases bc:0<us.length
 ·have bn:¬((us.length:Int)=0):=by omega
  have cp:(0:Int)<(us.length:Int):=by omega
  have ab:=Ab (bm bc);have a5:=Ab (fun wx C f c1 (hp:PksAt wx C f us) (h1:0<f) (h2:f<=1048576)=>dF C f c1 us wx hp h1 h2);have bu:=Ab (fun wx C f c1 (hp:PksAt wx C f us) (hk:KsIn wx us)=>kb C f c1 us wx hp hk (Aa ch) (by rw[<-hp.1];exact b2));have bt:=Ab (fun wx C f c1 (hp:RowAt wx C f (AN (Ah us))) (hm:f<=1048576)=>GC C f c1 (AN (Ah us)) wx hp hm);clear bm;generalize C7 (us.map PKV.pd)=HO at*;generalize EW (us.map PKV.pd)=o at*;generalize AN (Ah us)=V at*;generalize st (Cy ((Ah us).map fun r=>r.s))=S at*;generalize cnt V=CV at*;cases an:Jd us
  ·have ag:Hid (o=none):=Ab (by rw[Aa ab,if_neg (fun e=>absurd (an.symm.trans e.1) (by decide))])
   clear ab;go_enter Tryz.func202,Tryz.ntmps202
   go_wp2_with (first
    |(go_at_call 244;refine(Aa O).mono ?_;rintro e w1 ⟨v1,rfl,x,d⟩;obtain⟨C,f,c1,rfl⟩:∃a m c,v1=Value.slice a m c:=⟨_,_,_,x.shape.choose_spec.choose_spec⟩;obtain⟨A,aa,a9,ba⟩:=x.at' ((Aa af).below d);have I:0<f:=(by omega);have J:f<=1048576:=(by omega);have ak:¬(f:Int)=0:=(by omega);have bo:(0:Int)<(f:Int):=(by omega);have bp:((f:Int)==0)=false:=beq_eq_false_iff_ne.2 ak;clear aa;have E:=Ab A;have Q:=Ab d;have ad:=Ab ((Aa aw).below d);have G:=Ab ((Aa HZ).below d);clear x d A O)
    |(go_at_call 245;refine(Lz C f c1 us w1 (Aa ad) (Aa E) I J).mono ?_;rintro e w2 ⟨rfl,u⟩;rw[an];have ae:=Ab (Ad (Aa Q) u);have T:=Ab ((Aa E).below u);have Y:=Ab ((Aa G).below u);clear u;obtain⟨y0,y1,y2,y3,y4,y5,y6⟩:=(Aa Y).at;have gz:=(Aa Y).frz))
   exact bodyPost_ret (KW (g:=w.heap.size) (X:=set7 w2 w.heap.size (.int .i64 0) (.int .i64 0) (.int .i64 0) (.int .i64 0) (.int .i64 0) (.slice none 0 0) (.string ⟨#[]⟩)) rfl rfl ((Aa Y).sets _ _ _ _ _ _ _)) rfl (Cn.no (Aa ag) (CC ((Aa ar).trans ((Aa ae).mono (by have:=Aa ac;omega))) (Nat.le_refl _) _ _ _ _ _ _ _))
  ·by_cases hh:15<=HO
   ·have ag:Hid (o=none):=Ab (by rw[Aa ab,if_neg (fun e=>absurd e.2.2 (by omega))])
    clear ab;go_enter Tryz.func202,Tryz.ntmps202
    go_wp2_with (first
     |(go_at_call 244;refine(Aa O).mono ?_;rintro e w1 ⟨v1,rfl,x,d⟩;obtain⟨C,f,c1,rfl⟩:∃a m c,v1=Value.slice a m c:=⟨_,_,_,x.shape.choose_spec.choose_spec⟩;obtain⟨A,aa,a9,ba⟩:=x.at' ((Aa af).below d);have I:0<f:=(by omega);have J:f<=1048576:=(by omega);have ak:¬(f:Int)=0:=(by omega);have bo:(0:Int)<(f:Int):=(by omega);have bp:((f:Int)==0)=false:=beq_eq_false_iff_ne.2 ak;clear aa;have E:=Ab A;have Q:=Ab d;have ad:=Ab ((Aa aw).below d);have G:=Ab ((Aa HZ).below d);clear x d A O)
     |(go_at_call 245;refine(Lz C f c1 us w1 (Aa ad) (Aa E) I J).mono ?_;rintro e w2 ⟨rfl,u⟩;rw[an];have ae:=Ab (Ad (Aa Q) u);have T:=Ab ((Aa E).below u);have Y:=Ab ((Aa G).below u);clear u)
     |(go_at_call 246;refine(Aa a5 w2 C f c1 (Aa T) I J).mono ?_;rintro e w3 ⟨rfl,y⟩;have R:=Ab (Ad (Aa ae) y);have am:=Ab ((Aa T).below y);have ah:=Ab ((Aa Y).below y);clear y;obtain⟨y0,y1,y2,y3,y4,y5,y6⟩:=(Aa ah).at;have gz:=(Aa ah).frz))
    exact bodyPost_ret (KW (g:=w.heap.size) (X:=set7 w3 w.heap.size (.int .i64 0) (.int .i64 0) (.int .i64 0) (.int .i64 0) (.int .i64 0) (.slice none 0 0) (.string ⟨#[]⟩)) rfl rfl ((Aa ah).sets _ _ _ _ _ _ _)) rfl (Cn.no (Aa ag) (CC ((Aa ar).trans ((Aa R).mono (by have:=Aa ac;omega))) (Nat.le_refl _) _ _ _ _ _ _ _))
   ·have cy:decide (15<=HO)=false:=decide_eq_false hh
    by_cases cx:CV=0
    ·have ag:Hid (o=none):=Ab (by rw[Aa ab,if_neg (fun e=>absurd e.2.1 (by omega))])
     have b1:(CV:Int)=0:=by omega
     clear ab;go_enter Tryz.func202,Tryz.ntmps202
     go_wp2_with (first
      |(go_at_call 244;refine(Aa O).mono ?_;rintro e w1 ⟨v1,rfl,x,d⟩;obtain⟨C,f,c1,rfl⟩:∃a m c,v1=Value.slice a m c:=⟨_,_,_,x.shape.choose_spec.choose_spec⟩;obtain⟨A,aa,a9,ba⟩:=x.at' ((Aa af).below d);have I:0<f:=(by omega);have J:f<=1048576:=(by omega);have ak:¬(f:Int)=0:=(by omega);have bo:(0:Int)<(f:Int):=(by omega);have bp:((f:Int)==0)=false:=beq_eq_false_iff_ne.2 ak;clear aa;have E:=Ab A;have Q:=Ab d;have ad:=Ab ((Aa aw).below d);have G:=Ab ((Aa HZ).below d);clear x d A O)
      |(go_at_call 245;refine(Lz C f c1 us w1 (Aa ad) (Aa E) I J).mono ?_;rintro e w2 ⟨rfl,u⟩;rw[an];have ae:=Ab (Ad (Aa Q) u);have T:=Ab ((Aa E).below u);have Y:=Ab ((Aa G).below u);clear u)
      |(go_at_call 246;refine(Aa a5 w2 C f c1 (Aa T) I J).mono ?_;rintro e w3 ⟨rfl,y⟩;have R:=Ab (Ad (Aa ae) y);have am:=Ab ((Aa T).below y);have ah:=Ab ((Aa Y).below y);clear y)
      |(go_at_call 247;refine(Aa bu w3 C f c1 (Aa am) ((Aa af).below (Aa R))).mono ?_;rintro e w4 ⟨v4,rfl,aj,Z⟩;obtain⟨a4,K,c4,rfl,co⟩:∃a m c,v4=Value.slice a m c/\m<=10:=(by obtain⟨a,c,e,_⟩:=aj.row;exact⟨a,_,c,e,b6⟩);have bd:=Ab (Ad (Aa R) Z);have bh:=Ab ((Aa am).below Z);have bl:=Ab ((Aa ah).below Z);have av:=Ab (aj.mono (B':=w.heap.size+1) (by have h1:=Aa ac;have h2:=(Aa R).size;omega));clear Z aj)
      |(go_at_call 180;have H:Below w4.heap.size w4 (w4.alloc (.cells #[.slice a4 K c4,.string S] 73)):=(Below.refl _ _).alloc (Nat.le_refl _) _;have a3:=JB w4 (.slice a4 K c4) (.string S);have a0:(w4.alloc (.cells #[.slice a4 K c4,.string S] 73)).heap.size=w4.heap.size+1:=(by simp);generalize bs:w4.alloc (.cells #[.slice a4 K c4,.string S] 73)=w5 at*;have az:RowAt w5 a4 K V:=(by have h5:=(Aa av).below H;obtain⟨_,_,e,bq⟩:=h5.row;simp only[Value.slice.injEq]at e;obtain⟨rfl,rfl,rfl⟩:=e;exact bq);have bf:=Ab (Ad (Aa bd) H);have bi:=Ab ((Aa bh).below H);have ax:=Ab ((Aa bl).below H);have bx:=Ab a3;have a6:=Ab a0;refine(Aa bt w5 a4 K c4 az (by omega)).mono ?_;rintro e wx ⟨rfl,a2⟩;obtain rfl:=a2.symm;clear a2 H a3 a0 az bs;obtain⟨y0,y1,y2,y3,y4,y5,y6⟩:=(Aa ax).at;have gz:=(Aa ax).frz))
     exact bodyPost_ret (KW (g:=w.heap.size) (X:=set7 w5 w.heap.size (.int .i64 0) (.int .i64 0) (.int .i64 0) (.int .i64 0) (.int .i64 0) (.slice none 0 0) (.string ⟨#[]⟩)) rfl rfl ((Aa ax).sets _ _ _ _ _ _ _)) rfl (Cn.no (Aa ag) (CC ((Aa ar).trans ((Aa bf).mono (by have:=Aa ac;omega))) (Nat.le_refl _) _ _ _ _ _ _ _))
    ·have b1:¬(CV:Int)=0:=by omega
     have ck:=Ab (show o=some ⟨(us.getD 0 .dflt).o,(us.getD 0 .dflt).l,(us.getD 0 .dflt).k,(us.getD 0 .dflt).z,IntKind.i64.wrap (HO+1),V,S⟩ from by rw[Aa ab,if_pos ⟨an,by omega,by omega⟩])
     have ca:=Ab (fun wx C f (hp:PksAt wx C f us)=>show∃b off,C=some ⟨b,off,none⟩/\AX wx b off (us.getD 0 .dflt) from by
      have b4:0<f:=by rw[<-hp.1];exact bc
      obtain⟨b,off,e,cn⟩:=hp.at b4;have:=cn 0 b4;rw[Nat.zero_mul,Nat.add_zero]at this;exact⟨b,off,e,this⟩)
     clear ab;generalize us.getD 0 .dflt=q at*;generalize cv:IntKind.i64.wrap (HO+1)=HW at*;go_enter Tryz.func202,Tryz.ntmps202
     go_wp2_with (first
      |(go_at_call 244;refine(Aa O).mono ?_;rintro e w1 ⟨v1,rfl,x,d⟩;obtain⟨C,f,c1,rfl⟩:∃a m c,v1=Value.slice a m c:=⟨_,_,_,x.shape.choose_spec.choose_spec⟩;obtain⟨A,aa,a9,ba⟩:=x.at' ((Aa af).below d);have I:0<f:=(by omega);have J:f<=1048576:=(by omega);have ak:¬(f:Int)=0:=(by omega);have bo:(0:Int)<(f:Int):=(by omega);have bp:((f:Int)==0)=false:=beq_eq_false_iff_ne.2 ak;clear aa;have E:=Ab A;have Q:=Ab d;have ad:=Ab ((Aa aw).below d);have G:=Ab ((Aa HZ).below d);clear x d A O)
      |(go_at_call 245;refine(Lz C f c1 us w1 (Aa ad) (Aa E) I J).mono ?_;rintro e w2 ⟨rfl,u⟩;rw[an];have ae:=Ab (Ad (Aa Q) u);have T:=Ab ((Aa E).below u);have Y:=Ab ((Aa G).below u);clear u)
      |(go_at_call 246;refine(Aa a5 w2 C f c1 (Aa T) I J).mono ?_;rintro e w3 ⟨rfl,y⟩;have R:=Ab (Ad (Aa ae) y);have am:=Ab ((Aa T).below y);have ah:=Ab ((Aa Y).below y);clear y)
      |(go_at_call 247;refine(Aa bu w3 C f c1 (Aa am) ((Aa af).below (Aa R))).mono ?_;rintro e w4 ⟨v4,rfl,aj,Z⟩;obtain⟨a4,K,c4,rfl,co⟩:∃a m c,v4=Value.slice a m c/\m<=10:=(by obtain⟨a,c,e,_⟩:=aj.row;exact⟨a,_,c,e,b6⟩);have bd:=Ab (Ad (Aa R) Z);have bh:=Ab ((Aa am).below Z);have bl:=Ab ((Aa ah).below Z);have av:=Ab (aj.mono (B':=w.heap.size+1) (by have h1:=Aa ac;have h2:=(Aa R).size;omega));clear Z aj;have bw:=Ab (show Below w4.heap.size w4 (w4.alloc (.cells #[.slice a4 K c4,.string S] 73)) from(Below.refl _ _).alloc (Nat.le_refl _) _);have cf:=Ab (fun j hj=>(World.ownsRow.lt (Aa av).2 j hj).2))
      |(go_at_call 180;have H:Below w4.heap.size w4 (w4.alloc (.cells #[.slice a4 K c4,.string S] 73)):=(Below.refl _ _).alloc (Nat.le_refl _) _;have a3:=JB w4 (.slice a4 K c4) (.string S);have a0:(w4.alloc (.cells #[.slice a4 K c4,.string S] 73)).heap.size=w4.heap.size+1:=(by simp);generalize bs:w4.alloc (.cells #[.slice a4 K c4,.string S] 73)=w5 at*;have az:RowAt w5 a4 K V:=(by have h5:=(Aa av).below H;obtain⟨_,_,e,bq⟩:=h5.row;simp only[Value.slice.injEq]at e;obtain⟨rfl,rfl,rfl⟩:=e;exact bq);have bf:=Ab (Ad (Aa bd) H);have bi:=Ab ((Aa bh).below H);have ax:=Ab ((Aa bl).below H);have bx:=Ab a3;have a6:=Ab a0;refine(Aa bt w5 a4 K c4 az (by omega)).mono ?_;rintro e wx ⟨rfl,a2⟩;obtain rfl:=a2.symm;clear a2 H a3 a0 az bs;obtain⟨b0,f0,rfl,p0,p1,p2,p3,p4,p5,p6⟩:=Aa ca w5 C f (Aa bi))
      |(go_at_call 248;refine(OV q.o q.l q.k q.z q.h q.r.a q.r.n q.r.c q.r.s w5).mono ?_;rintro e P ⟨rfl,ai⟩;have au:=Ab (Ad (Aa bf) ai);have cg:=Ab ((Aa bi).below ai);have cl:=Ab ((Aa ax).below ai);have ci:=Ab ((Aa bx).below ai);have bv:=Ab ai.size;have cc:=Ab ((Aa av).below ((Aa bw).trans (ai.mono (by have:=Aa a6;omega))));clear ai)
      |(go_at_call 246;have ap:Below P.heap.size P (P.alloc (.cells #[.int .i64 q.o,.int .i64 q.l,.int .i64 q.k,.int .i64 q.z,.int .i64 0,.slice none 0 0,.string ⟨#[]⟩] 75)):=(Below.refl _ _).alloc (Nat.le_refl _) _;have b7:=CL P (.int .i64 q.o) (.int .i64 q.l) (.int .i64 q.k) (.int .i64 q.z) (.int .i64 0) (.slice none 0 0) (.string ⟨#[]⟩);generalize cq:P.alloc (.cells #[.int .i64 q.o,.int .i64 q.l,.int .i64 q.k,.int .i64 q.z,.int .i64 0,.slice none 0 0,.string ⟨#[]⟩] 75)=w7 at*;refine(Aa a5 w7 (some ⟨b0,f0,none⟩) f c1 ((Aa cg).below ap) I J).mono ?_;rintro e w8 ⟨rfl,aq⟩;have b8:=Ab (Ad (Ad (Aa au) ap) aq);have cm:=Ab (((Aa cl).below ap).below aq);have cj:=Ab (((Aa ci).below ap).below aq);have bj:=Ab (b7.below aq);have cd:=Ab (((Aa cc).below ap).below aq);clear ap aq b7 cq;obtain⟨s0,s1,s2,s3,s4,s5,s6⟩:=(Aa bj).at;have gs:=(Aa bj).frz;have b3:P.heap.size≠w4.heap.size:=(by have h1:=Aa a6;have h2:=Aa bv;omega);have ay:w.heap.size≠P.heap.size:=(by have h1:=Aa ac;have h2:=(Aa au).size;omega);obtain⟨⟨t0,t1⟩,_,_⟩:=(Aa cj).other (g':=P.heap.size) 4 (.int .i64 HW) b3;have hA:=(Aa bj).set4 (.int .i64 HW);have cr:=hA.at.2.2.2.2.2.1;have cs:=hA.frz;have a7:=hA.set5 (.slice a4 K c4);have ct:=a7.at.2.2.2.2.2.2;have cu:=a7.frz;have bz:=a7.set6 (.string S);obtain⟨r0,r1,r2,r3,r4,r5,r6⟩:=bz.at;have a8:=(((Aa cm).other (a:=⟨P.heap.size,4,none⟩) ay (.int .i64 HW)).other (a:=⟨P.heap.size,5,none⟩) ay (.slice a4 K c4)).other (a:=⟨P.heap.size,6,none⟩) ay (.string S);obtain⟨y0,y1,y2,y3,y4,y5,y6⟩:=a8.at;have gz:=a8.frz;have cb:=Ab a8;clear hA a7 bz a8))
     have b9:=Ab ((((Aa b8).setCell (p:=⟨P.heap.size,4,none⟩) (Aa au).size (.int .i64 HW)).setCell (p:=⟨P.heap.size,5,none⟩) (Aa au).size (.slice a4 K c4)).setCell (p:=⟨P.heap.size,6,none⟩) (Aa au).size (.string S));have bg:=Ab (show∀j,(Value.slice a4 K c4).ownBlock=some j->j≠P.heap.size from fun j hj=>by have h1:=Aa cf j hj;have h2:=Aa a6;have h3:=Aa bv;omega);have ce:=Ab ((((Aa cd).off (g:=P.heap.size) (Aa bg) 4 (.int .i64 HW)).off (g:=P.heap.size) (Aa bg) 5 (.slice a4 K c4)).off (g:=P.heap.size) (Aa bg) 6 (.string S))
     exact bodyPost_ret (KW (g:=w.heap.size) (X:=set7 (((w8.setCell ⟨P.heap.size,4,none⟩ (.int .i64 HW)).setCell ⟨P.heap.size,5,none⟩ (.slice a4 K c4)).setCell ⟨P.heap.size,6,none⟩ (.string S)) w.heap.size (.int .i64 q.o) (.int .i64 q.l) (.int .i64 q.k) (.int .i64 q.z) (.int .i64 HW) (.slice a4 K c4) (.string S)) rfl rfl ((Aa cb).sets _ _ _ _ _ _ _)) rfl
      (Cn.yes (q:=⟨q.o,q.l,q.k,q.z,HW,⟨a4,K,c4,V,S⟩⟩) (Aa ck) rfl (CC ((Aa ar).trans ((Aa b9).mono (by have:=Aa ac;omega))) (Nat.le_refl _) _ _ _ _ _ _ _) (((Aa ce).all7 (g:=w.heap.size) (Nat.lt_succ_self _) _ _ _ _ _ _ _).mono (Nat.le_succ _)))
 ·have h0:us=[]:=List.eq_nil_of_length_eq_zero (by omega)
  have ag:Hid (EW (us.map PKV.pd)=none):=Ab (by rw[h0];rfl);have bn:(us.length:Int)=0:=by omega
  clear bm h0;generalize EW (us.map PKV.pd)=o at*;go_enter Tryz.func202,Tryz.ntmps202
  go_wp2_with (first
   |(go_at_call 244;refine(Aa O).mono ?_;rintro e w1 ⟨v1,rfl,x,d⟩;obtain⟨C,f,c1,rfl⟩:∃a m c,v1=Value.slice a m c:=⟨_,_,_,x.shape.choose_spec.choose_spec⟩;obtain⟨A,aa,a9,ba⟩:=x.at' ((Aa af).below d);obtain rfl:f=0:=(by omega);clear aa;have E:=Ab A;have Q:=Ab d;have ad:=Ab ((Aa aw).below d);have G:=Ab ((Aa HZ).below d);clear x d A O;obtain⟨y0,y1,y2,y3,y4,y5,y6⟩:=(Aa G).at;have gz:=(Aa G).frz))
  exact bodyPost_ret (KW (g:=w.heap.size) (X:=set7 w1 w.heap.size (.int .i64 0) (.int .i64 0) (.int .i64 0) (.int .i64 0) (.int .i64 0) (.slice none 0 0) (.string ⟨#[]⟩)) rfl rfl ((Aa G).sets _ _ _ _ _ _ _)) rfl (Cn.no (Aa ag) (CC ((Aa ar).trans ((Aa Q).mono (by have:=Aa ac;omega))) (Nat.le_refl _) _ _ _ _ _ _ _))
def EI:PKV:=⟨0,0,0,0,0,⟨none,0,0,[],⟨#[]⟩⟩⟩
theorem mF(ch:List Bool)(n:Nat):(Gc ch n).length<=n:=by
 have:=List.length_filter_le (fun i=>ch.getD i false) (List.range n);rwa[List.length_range]at this
def GJ(L:List PD)(D:List Nat)(N:Nat)(t:Int):Option PD:=if L.length=0 then none else emitD L (BH D (N+1)%L.length) t
def QY(L:List PD)(N:Nat):Nat:=if L.length=0 then N else N+1
theorem hG(a:Option Addr)(n c:Nat)(ps:List PKV)(w:World)(h:PksAt w a n ps)(T:n<=1048576):
  Calls Tryz.prog 200 #[.slice a n c] w fun e w'=> ∃v,e=.returned v/\Ak w' w.heap.size v (Ah ps)/\Below w.heap.size w w':=by
 obtain rfl:=h.1;have W:=Ab h;have af:=MO ps.length T;have P:=Ab (MN w ps.length T (BL (Ah ps) 0) (by rw[OE,Eo]));have x:Hid (Below w.heap.size w (w.alloc (.cells (madeCells #[.slice none 0 0,.string ⟨#[]⟩] (ps.length*2)) 73))):=Ab ((Below.refl _ _).alloc (Nat.le_refl _) _);clear h;go_enter Tryz.func200,Tryz.ntmps200;go_wp2;go_loopw [11] (fun i wr=> ∃k:Nat,k<=ps.length/\i=.int .i64 k/\Hid (Ak wr w.heap.size (.slice (some ⟨w.heap.size,0,none⟩) ps.length ps.length) (BL (Ah ps) k))/\Hid (Below w.heap.size w wr)) (fun i _=>ps.length-(intOf i).toNat)
 case atStart=>exact⟨0,Nat.zero_le _,rfl,P,x⟩
 case round=>
  obtain⟨k,hk,rfl,H,G⟩:=hrel;clear P x;by_cases d:k<ps.length
  ·obtain⟨b,off,rfl,C⟩:=((Aa W).below (Aa G)).at d
   obtain⟨Y,Z,aa,ab,ac,ad,ae⟩:=C k d;have S:(k:Int)<(ps.length:Int):=by omega
   have O:=OD (Ah ps) k (by rw[Eo];exact d);rw[Tq d]at O;generalize ps.getD k .dflt=p at*;have j:=I7 wr p;have A:=(Aa H).below j;obtain⟨ag,ah,ai,aj,ak,al,am⟩:=Fk wr (.int .i64 p.o) (.int .i64 p.l) (.int .i64 p.k) (.int .i64 p.z) (.int .i64 p.h) (.slice p.r.a p.r.n p.r.c) (.string p.r.s);have y:=Ad (Aa G) j;generalize X:wr.alloc (.cells #[.int .i64 p.o,.int .i64 p.l,.int .i64 p.k,.int .i64 p.z,.int .i64 p.h,.slice p.r.a p.r.n p.r.c,.string p.r.s] 75)=w1 at*;have E:(BL (Ah ps) k).length=ps.length:=by rw[NH _ _ (by rw[Eo];exact hk),Eo]
   have q:=Ib (BL (Ah ps) k) k (by omega);have I:=A.cellAt q.1;have J:=A.cellAt q.2;have f:w1.ownsRow w.heap.size 73 2 (.slice (some ⟨w.heap.size,0,none⟩) ps.length ps.length) ps.length (cellsR (BL (Ah ps) k)):=by
    have:w1.ownsRow w.heap.size 73 2 (.slice (some ⟨w.heap.size,0,none⟩) ps.length ps.length) (BL (Ah ps) k).length (cellsR (BL (Ah ps) k)):=A;rwa[E]at this
   have Q:=f.frozenAt (k*2);have R:=f.frozenAt (k*2+1);have u:=A.stored k p.r;rw[O]at u;have V:=Ab u;have K:=Ab ((y.setCell (p:=⟨w.heap.size,k*2,none⟩) (Nat.le_refl _) (.slice p.r.a p.r.n p.r.c)).setCell (p:=⟨w.heap.size,k*2+1,none⟩) (Nat.le_refl _) (.string p.r.s));clear C A f u O q E H G j y;generalize (BL (Ah ps) k).getD k .dflt=z at*;go_wp2;go_roundw
   case rel=>exact⟨k+1,by omega,by go_num,V,K⟩
   case measure=>simp[intOf];omega
  ·obtain rfl:k=ps.length:=by omega
   rw[show ps.length=(Ah ps).length from(Eo ps).symm,O4,Eo]at H;go_wp2;go_ret;exact⟨_,rfl,Aa H,Aa G⟩
theorem Cn.own{e:Ending}(h:Cn w w' o e):Below w.heap.size w w'/\∃q:PKV,e=.returned (.tuple #[q.val,.bool o.isSome])/\q.pd=o.getD EI.pd/\Own w' w.heap.size (.slice q.r.a q.r.n q.r.c) q.r.xs:=by
 cases o with
 |none=>exact⟨h.1,EI,h.2,rfl,Own.nil _ _⟩
 |some d=>
  obtain⟨b,q,k,f,j⟩:=h;exact⟨b,q,f,k,j⟩
theorem AV.not{T d:TypeId}{j:Nat}{u0 u1:Value}{b:Array Value}{f:Nat×Nat}(h:AV T w g u0 u1)(l:w.heap[j]? =some (.cells b d f))(k:T≠d):j≠g:=fun e=>by
 subst e;unfold AV at h;rw[l]at h;simp only[Option.some.injEq,Obj.cells.injEq]at h;exact k h.2.1.symm
theorem Az.bk{L:List Nat}(h:Az w g B L N):∃a n c,AV 246 w g (.slice a n c) (.int .i64 (N:Int)):=by
 obtain⟨d,e,a,n,c,b,f⟩:=h;exact⟨a,n,c,b⟩
theorem iq{b:Nat}(h:w'.heap[b]? =w.heap[b]?)(i:Nat):w'.cell? ⟨b,i,none⟩=w.cell? ⟨b,i,none⟩:=by
 simp only[World.cell?,h]
theorem RowAt.same(h:RowAt w a n xs)(f:n=0\/∀d,a=some d->w'.heap[d.block]? =w.heap[d.block]?):RowAt w' a n xs:=by
 refine⟨h.1,h.2.1,?_⟩;rcases h.2.2 with e|⟨b,off,rfl,j⟩
 ·exact .inl e
 ·rcases f with e|f
  ·exact .inl e
  ·exact .inr ⟨b,off,rfl,fun i k=>(iq (f _ rfl) _).trans (j i k)⟩
theorem Az.tu{F:Nat->Prop}{L:List Nat}(h:Az w g B L N)(ht:Tu F w w')(A:¬F g)(C:∀j d,w.heap[j]? =some (.cells d 265 (0,0))->¬F j):Az w' g B L N:=by
 obtain⟨s,u,a,n,c,r,x,y,z,f⟩:=h
 have p:n=0\/∀b,a=some b->w'.heap[b.block]? =w.heap[b.block]? :=f.imp id fun k b e=>by
  obtain⟨d,l⟩:=(k b e).2;exact ht.block b.block (Array.getElem?_eq_some_iff.1 l).1 (C _ d l)
 refine⟨s,u,a,n,c,(ht.block g r.lt A).trans r,x,y,z.same p,?_⟩;rcases f with q|f
 ·exact .inl q
 ·rcases p with q|p
  ·exact .inl q
  ·exact .inr fun b e=>⟨(f b e).1,(f b e).2.imp fun d l=>(p b e).trans l⟩
theorem Tab.drawn{T:TypeId}{u:Value}(h:Tab w)(f:AV T w g (.slice a n c) u)(j:w.grownBy w' (some g)):Tab w':=fun i k=>by
 refine j.cell (h i k) fun e=>?_;have d:=h 0 (by decide);have b:=f.at0;rw[<-Option.some.inj e,d]at b;cases b
theorem YA(w:World)(g:Nat)(u0 u1 u2 u3 u4 u5 u6:Value):w.grownBy (set7 w g u0 u1 u2 u3 u4 u5 u6) (some g):=
 By (By (By (By (By (By (BA _ _ _ _) (BA _ _ _ _) (.inl rfl)) (BA _ _ _ _) (.inl rfl)) (BA _ _ _ _) (.inl rfl)) (BA _ _ _ _) (.inl rfl)) (BA _ _ _ _) (.inl rfl)) (BA _ _ _ _) (.inl rfl)
structure EmQ(w wx:World)(g gb B m:Nat)(t i:Int)(v:Value)(ps:List PKV)(gd Bd:Nat)(D:List Nat)(N:Nat)(va:Value)(us:List PKV):Prop where
 r:Aq wx g gb B m t i v ps
 d:Az wx gd Bd D N
 bd:Bd<=wx.heap.size
 k:OwnP wx (w.heap.size+1) va us
 u:Au wx (w.heap.size+1) us
 tab:Tab wx
 pz:AW wx w.heap.size (.int .i64 0) (.int .i64 0) (.int .i64 0) (.int .i64 0) (.int .i64 0) (.slice none 0 0) (.string ⟨#[]⟩)
 gr:w.grownBy wx (some gd)
theorem EmQ.below{e:World}(h:EmQ w wx g gb B m t i v ps gd Bd D N va us)(b:Below wx.heap.size wx e):EmQ w e g gb B m t i v ps gd Bd D N va us:=
 ⟨h.r.below b,h.d.below (b.mono h.bd),Nat.le_trans h.bd b.size,h.k.below b,h.u.below b,h.tab.below b,h.pz.below b,By h.gr (CM b (some gd)) (.inl rfl)⟩
theorem EmQ.drawn{l:World}{s:Nat}(h:EmQ w wx g gb B m t i v ps gd Bd D N va us)(x:Az l gd Bd D s)(b:wx.grownBy l (some gd)):EmQ w l g gb B m t i v ps gd Bd D s va us:=by
 obtain⟨a,n,c,f⟩:=h.d.bk;have ht:Tu (fun j=>j=gd) wx l:=Tu.of_gb b fun j _ e=>(Option.some.inj e).symm;refine⟨h.r.drawn f (by decide) (by decide) (by decide) (by decide) b,x,Nat.le_trans h.bd b.size,h.k.tu ht (fun j y=>?_),h.u.tu ht (fun j p q=>f.not q (by decide)),h.tab.drawn f b,?_,By h.gr b (.inl rfl)⟩
 ·obtain⟨p,q⟩:=h.k.blk y
  exact f.not q (by decide)
 ·exact(b.block _ h.pz.lt fun e=>f.not h.pz (by decide) (Option.some.inj e)).trans h.pz
theorem EmQ.pks(h:EmQ w wx g gb B m t i v ps gd Bd D N (.slice a n c) us):PksAt wx a n us:=(h.k.at' h.u.ks).1
theorem ep{rs:List RV}{b:Int}(h:rs.length<=300):(Ir rs b t).length<=300:=by
 unfold Ir;split
 ·exact Nat.zero_le _
 ·have:=mF (BD (AY rs) t (placeN b rs.length) 31).ch rs.length
  unfold A7;rw[List.length_map];omega
theorem SO(j:KsIn w us)(h:Bk m (us.map PKV.pd)):Qd us:=fun i=>by
 by_cases b:i<us.length
 ·have d:=(h.get (i:=i) (by rw[List.length_map];exact b)).1
  rw[Lh b]at d;have f:=JN d;have k:=(j.get b).1.1;have l:(us.getD i .dflt).r.xs.length<=2:=f;have e:=IV d;have p:((us.getD i .dflt).r.s.size:Int)=(us.getD i .dflt).z:=e.2.2.1;have q:(us.getD i .dflt).z<=64:=e.2.2.2.2.2;omega
 ·rw[List.getD_eq_getElem?_getD,List.getElem?_eq_none (by omega)]
  exact⟨Nat.zero_le _,Nat.zero_le _⟩
theorem VS{X:World}{tmps:Array Value}{o l k z h:Int}{s:ByteArray}{b:Bool}(ht:tmps.getD 4 undef=.pointer (some ⟨g,0,none⟩))(f:tmps.getD 5 undef=.bool b)(j:AW X g (.int .i64 o) (.int .i64 l) (.int .i64 k) (.int .i64 z) (.int .i64 h) (.slice a n c) (.string s)):
  (results Tryz.f168 tmps).run Tryz.prog X=.ok (.tuple #[.agg #[.int .i64 o,.int .i64 l,.int .i64 k,.int .i64 z,.int .i64 h,.slice a n c,.string s],.bool b]) X:=by
 obtain⟨p,r1,r2,q,r,u,x⟩:=j.at;have e:tmps[4]?.getD undef=.pointer (some ⟨g,0,none⟩):=by simpa using ht
 have d:tmps[5]?.getD undef=.bool b:=by simpa using f
 simp[results,Tryz.results168,go_sem,e,d,p,r1,r2,q,r,u,x]
def C1(w w':World)(o:Option PD)(e:Ending):Prop:=∃q:PKV,e=.returned (.tuple #[q.val,.bool o.isSome])/\q.pd=o.getD EI.pd/\Own w' w.heap.size (.slice q.r.a q.r.n q.r.c) q.r.xs
theorem cU(l:Value)(d:Value)(w:World)(k:∀wx,Below w.heap.size w wx->Calls Tryz.prog 56 #[l] wx fun e w'=>e=.returned (.int .i64 0)/\w'=wx):
  Calls Tryz.prog 168 #[l,d] w fun e w'=>C1 w w' none e/\Below w.heap.size w w':=by
 have b:Below w.heap.size w (w.alloc (.cells #[.int .i64 0,.int .i64 0,.int .i64 0,.int .i64 0,.int .i64 0,.slice none 0 0,.string ⟨#[]⟩] 75)):=(Below.refl _ _).alloc (Nat.le_refl _) _;have h:=CL w (.int .i64 0) (.int .i64 0) (.int .i64 0) (.int .i64 0) (.int .i64 0) (.slice none 0 0) (.string ⟨#[]⟩);have p:=Ab (k _ b);have q:=Ab h;have j:=Ab b;obtain⟨s,u,x,y,z,A,C⟩:=h.at;have E:=h.frz;clear h b k;go_enter Tryz.func168,Tryz.ntmps168;generalize r:w.alloc (.cells #[.int .i64 0,.int .i64 0,.int .i64 0,.int .i64 0,.int .i64 0,.slice none 0 0,.string ⟨#[]⟩] 75)=W at*;go_wp2_with (go_at_call 56;refine(Aa p).mono ?_;rintro e w1 ⟨rfl,f⟩;obtain rfl:=f.symm;clear f);exact bodyPost_ret (VS (X:=set7 W w.heap.size (.int .i64 0) (.int .i64 0) (.int .i64 0) (.int .i64 0) (.int .i64 0) (.slice none 0 0) (.string ⟨#[]⟩)) rfl rfl ((Aa q).sets (.int .i64 0) (.int .i64 0) (.int .i64 0) (.int .i64 0) (.int .i64 0) (.slice none 0 0) (.string ⟨#[]⟩))) rfl ⟨⟨EI,rfl,rfl,Own.nil _ _⟩,CC (Aa j) (Nat.le_refl _) _ _ _ _ _ _ _⟩
theorem mM(g gb B m:Nat)(t i:Int)(v:Value)(d:Value)(w:World)(h:Aq w g gb B m t i v []):Calls Tryz.prog 168 #[.pointer (some ⟨g,0,none⟩),d] w fun e w'=>C1 w w' none e/\Below w.heap.size w w':=
 cU _ d w fun wx b=>LG g gb B m t i v [] wx (h.below b)
theorem nu{f e:World}{q:PKV}(h:EmQ w f g gb B m t i v ps gd Bd D N va us)(x:Below f.heap.size f e)(A:Own e f.heap.size (.slice q.r.a q.r.n q.r.c) q.r.xs):
  Own (set7 e w.heap.size (.int .i64 q.o) (.int .i64 q.l) (.int .i64 q.k) (.int .i64 q.z) (.int .i64 q.h) (.slice q.r.a q.r.n q.r.c) (.string q.r.s)) w.heap.size (.slice q.r.a q.r.n q.r.c) q.r.xs/\(Bd<=w.heap.size->Az (set7 e w.heap.size (.int .i64 q.o) (.int .i64 q.l) (.int .i64 q.k) (.int .i64 q.z) (.int .i64 q.h) (.slice q.r.a q.r.n q.r.c) (.string q.r.s)) gd Bd D N)/\w.grownBy (set7 e w.heap.size (.int .i64 q.o) (.int .i64 q.l) (.int .i64 q.k) (.int .i64 q.z) (.int .i64 q.h) (.slice q.r.a q.r.n q.r.c) (.string q.r.s)) (some gd):=by
 have p:=h.below x;have b:=h.pz.lt;refine⟨(A.all7 b _ _ _ _ _ _ _).mono (Nat.le_of_lt b),fun u=>p.d.below (CC (Below.refl _ _) u _ _ _ _ _ _ _),By p.gr (YA _ _ _ _ _ _ _ _ _) (.inr fun j y=>Nat.le_of_eq (Option.some.inj y))⟩
theorem mL(g gb B m:Nat)(t i:Int)(v:Value)(ps:List PKV)(gd Bd:Nat)(D:List Nat)(N:Nat)(w:World)(ht:Tab w)(h:Aq w g gb B m t i v ps)(hd:Az w gd Bd D N)(hB:Bd<=w.heap.size)(hN:N<=1099511627776)(bf: -1099511627776<=t/\t<=1099511627776)(h0:0<ps.length):
  Calls Tryz.prog 168 #[.pointer (some ⟨g,0,none⟩),.pointer (some ⟨gd,0,none⟩)] w fun e w'=>C1 w w' (emitD (ps.map PKV.pd) (BH D (N+1)%ps.length) t) e/\Az w' gd Bd D (N+1)/\w.grownBy w' (some gd):=by
 have b:Below w.heap.size w (w.alloc (.cells #[.int .i64 0,.int .i64 0,.int .i64 0,.int .i64 0,.int .i64 0,.slice none 0 0,.string ⟨#[]⟩] 75)):=(Below.refl _ _).alloc (Nat.le_refl _) _;have hz:=CL w (.int .i64 0) (.int .i64 0) (.int .i64 0) (.int .i64 0) (.int .i64 0) (.slice none 0 0) (.string ⟨#[]⟩);have au:(w.alloc (.cells #[.int .i64 0,.int .i64 0,.int .i64 0,.int .i64 0,.int .i64 0,.slice none 0 0,.string ⟨#[]⟩] 75)).heap.size=w.heap.size+1:=Bc _ _;have an:=h.buf.len.2;generalize bg:w.alloc (.cells #[.int .i64 0,.int .i64 0,.int .i64 0,.int .i64 0,.int .i64 0,.slice none 0 0,.string ⟨#[]⟩] 75)=W at*;have Z:=Ab (hd.below (b.mono hB));have x:=LG g gb B m t i v ps W (h.below b);have K:=Ab (h.below b);have H:=Ab h.buf.inv;have a8:=Ab (ht.below b);have HZ:=Ab hz;have I:=Ab b;have ah:=Ab au;have bh:=qF ⟨gb,0,none⟩;obtain⟨n,S⟩:∃n,ps.length=n:=⟨_,rfl⟩;rw[S]at x h0 an⊢;have ab:=Ab x;have ae:=Ab S;have bd:¬((n:Int)=0):=by omega
 have bi:((n:Int)==0)=false:=by rw[beq_eq_false_iff_ne];exact bd
 obtain⟨c0, -, -⟩:=(h.below b).cells;clear h ht hz b au S x hd;go_enter Tryz.func168,Tryz.ntmps168;go_wp2_with (go_at_call 56;refine(Aa ab).mono ?_;rintro e w1 ⟨rfl,aw⟩;obtain rfl:=aw.symm;clear aw ab);refine(jH gb B m v ps _ (Aa K).buf).mono ?_;rintro e w2 ⟨b2,c2,us,rfl,ao,am,E,f⟩;have ai:=f;have A:Hid (EmQ w w2 g gb B m t i v ps gd Bd D N (.slice (some ⟨b2,0,none⟩) ps.length c2) us):=Ab ⟨(Aa K).below f,(Aa Z).below (f.mono (Nat.le_trans hB (Aa I).size)),(Nat.le_trans hB (Nat.le_trans (Aa I).size ai.size)),ao.mono (by rw[<-Aa ah];exact Nat.le_refl _),am.mono (by rw[<-Aa ah];exact Nat.le_refl _),(Aa a8).below f,(Aa HZ).below f,CM (Ad (Aa I) f) _⟩;have av:us.length=n:=by rw[<-Aa ae];have:=congrArg List.length E;simpa using this
 have P:=Ab av;have aa:Hid (Bk m (us.map PKV.pd)):=Ab (by rw[E];exact Aa H);have a4:=Ab E;rw[Aa ae]at A⊢;clear ao am E f ai av H K Z;obtain⟨f0,f1, -⟩:=(Aa A).r.cells;have a7:=Ab (fun wx (hq:EmQ w wx g gb B m t i v ps gd Bd D N (.slice (some ⟨b2,0,none⟩) n c2) us)=>hG (some ⟨b2,0,none⟩) n c2 us wx hq.pks (by omega));have ay:=Ab (fun wx (hq:EmQ w wx g gb B m t i v ps gd Bd D N (.slice (some ⟨b2,0,none⟩) n c2) us)=>Tk gd Bd D N n wx hq.d hN (by omega) (by omega));have ac:=Ab (show BH D (N+1)%n<n from Nat.mod_lt _ h0);generalize bc:BH D (N+1)%n=bb at*;go_wp2_with fail
 go_region_held3 (fun w'=>w'.cell? ⟨g,1,none⟩=some (.int .i64 t)) (go_keep) (first
  |(go_at_call 200;refine(Aa a7 _ ((Aa A).below (Below.refl _ _).drew)).mono ?_;rintro e w3 ⟨v3,rfl,C,aj⟩;have T:=((Aa A).below (Below.refl _ _).drew).below aj;have ag:=Ab T;obtain⟨a3,d3,rfl⟩:=C.shape;rw[Eo,Aa P]at C⊢;have a1:=Ab C;have a0:=Ab ((Aa A).below (Below.refl _ _).drew).d.lt;obtain⟨-,k1, -⟩:=T.r.cells;clear C aj T)
  |(go_at_call 201;refine(Aa ay _ (Aa ag)).mono ?_;rintro e w4 ⟨rfl,al,R⟩;have V:=(Aa ag).drawn al R;have J:=Ab V;have a2:=Ab ((Aa a1).keptB R (Aa a0));obtain⟨-,l1, -⟩:=V.r.cells;clear al R V)
  |(go_at_call 199;refine(eo a3 n d3 (Ah us) (bb:Int) t w4 (((Aa a2).at' (KsIn.rows (Aa J).u.ks)).1) (NV fun p hp=>SM (SO (Aa J).u.ks (Aa aa)) hp) (by omega) (by have:=Aa ac;omega) bf).mono ?_;rintro e w5 ⟨v5,rfl,ap,ak⟩;have Y:=(Aa J).below ak;have j:=Ab Y;obtain⟨a5,d5,rfl,ax⟩:=ap.ints;have a9:=Ab ax;obtain⟨-,m1, -⟩:=Y.r.cells;clear ap ak Y ax))
 have y:=kZ (some ⟨b2,0,none⟩) n c2 us a5 (Ir (Ah us) (bb:Int) t).length d5 (Ir (Ah us) (bb:Int) t) w5 (Aa j).tab (Aa j).pks (Aa j).u.ks (SO (Aa j).u.ks (Aa aa)) (Aa a9) (by omega) (ep (by rw[Eo,Aa P];omega));rw[Yk (by rw[Aa P];exact Aa ac),Aa a4]at y;have ad:=Ab y;clear y;obtain⟨O,hO⟩:∃O,emitD (ps.map PKV.pd) bb t=O:=⟨_,rfl⟩;have af:Hid (emitD (ps.map PKV.pd) (BH D (N+1)%n) t=O):=Ab (by rw[show BH D (N+1)%n=bb from bc];exact hO);rw[hO]at ad;clear hO;go_wp2_with (go_at_call 202;refine(Aa ad).mono ?_;rintro e w6 hM;obtain⟨Q,q,rfl,ar,aq⟩:=hM.own;have az:=Ab (nu (Aa j) Q aq);have a6:=Ab ar;have G:=(Aa j).pz.below Q;obtain⟨x0,x1,x2,x3,x4,x5,x6⟩:=G.at;have xf:=G.frz;have ba:=Ab G;unfold PKV.val;clear Q ar aq hM G);obtain⟨y1,y2,y3⟩:=Aa az;exact bodyPost_ret (VS (X:=set7 w6 w.heap.size (.int .i64 q.o) (.int .i64 q.l) (.int .i64 q.k) (.int .i64 q.z) (.int .i64 q.h) (.slice q.r.a q.r.n q.r.c) (.string q.r.s)) rfl rfl ((Aa ba).sets (.int .i64 q.o) (.int .i64 q.l) (.int .i64 q.k) (.int .i64 q.z) (.int .i64 q.h) (.slice q.r.a q.r.n q.r.c) (.string q.r.s))) rfl ⟨⟨q,by rw[Aa af];rfl,by rw[Aa af];exact Aa a6,y1⟩,y2 hB,y3⟩
theorem Qz{c P Q:Prop} [Decidable c](b:¬c)(h:Q):if c then P else Q:=by rw[if_neg b];exact h
theorem jh(D:List Nat)(N:Nat)(t:Int)(h:0<L.length):GJ L D N t=emitD L (BH D (N+1)%L.length) t:=if_neg (by omega)
theorem nM(N:Nat)(h:0<L.length):QY L N=N+1:=if_neg (by omega)
theorem gw(g gb B m:Nat)(t i:Int)(v:Value)(ps:List PKV)(gd Bd:Nat)(D:List Nat)(N:Nat)(w:World)(ht:Tab w)(h:Aq w g gb B m t i v ps)(l:Az w gd Bd D N)(k:Bd<=w.heap.size)(p:N<=1099511627776)(d: -1099511627776<=t/\t<=1099511627776):
  Calls Tryz.prog 168 #[.pointer (some ⟨g,0,none⟩),.pointer (some ⟨gd,0,none⟩)] w fun e w'=>C1 w w' (GJ (ps.map PKV.pd) D N t) e/\Az w' gd Bd D (QY (ps.map PKV.pd) N)/\w.grownBy w' (some gd):=by
 by_cases f:0<ps.length
 ·have j:0<(ps.map PKV.pd).length:=by rw[List.length_map];exact f
  rw[jh D N t j,nM N j,List.length_map];exact mL g gb B m t i v ps gd Bd D N w ht h l k p d f
 ·obtain rfl:ps=[]:=List.eq_nil_of_length_eq_zero (by omega)
  refine(mM g gb B m t i v _ w h).mono fun e w' b=>?_;exact⟨b.1,l.below (b.2.mono k),CM b.2 _⟩
theorem C1.row{e:Ending}(h:C1 w w' o e):∃q:PKV,e=.returned (.tuple #[q.val,.bool o.isSome])/\q.pd=o.getD EI.pd/\RowAt w' q.r.a q.r.n q.r.xs:=by
 obtain⟨q,f,k,j⟩:=h;refine⟨q,f,k,?_⟩;obtain⟨_,_,b,l⟩:=j.row;simp only[Value.slice.injEq]at b;obtain⟨rfl,d,rfl⟩:=b;rw[d];exact l
theorem Qw(h:w.grownBy w' (some g))(b:B<=w.heap.size)(d:B<=g):Below B w w':=CJ h b fun k e=>by rw[<-Option.some.inj e];exact d
theorem mP(p:PKV)(w:World):Calls Tryz.prog 84 #[.pointer none,p.val] w fun e w'=>e=.returned (.bool false)/\Below w.heap.size w w':=by
 have f:=I7 w p;unfold PKV.val;generalize hW:w.alloc (.cells #[.int .i64 p.o,.int .i64 p.l,.int .i64 p.k,.int .i64 p.z,.int .i64 p.h,.slice p.r.a p.r.n p.r.c,.string p.r.s] 75)=W at*;have q:=Ab f;have A:=Ab (Cq (W:=W) (fun w' E=>(SH w').mono fun e C x=>⟨x.1,by rw[x.2];exact Below.refl _ _⟩));clear f;go_enter Tryz.func84,Tryz.ntmps84;go_wp2_with fail;refine wp_region_quiet_below (by kernel_rfl) (by kernel_rfl) ?_
 repeat (with_reducible refine wpQuiet_step (fun K d=>?_);go_simp;first|(with_reducible refine d _ ?_;clear d K)|(refine Qz (by decide) ?_;with_reducible refine d _ ?_;clear d K)|(apply Exists.intro;apply And.intro;(intro _;first|(go_at_call 86;exact Aa A _ _));with_reducible refine d _ ?_;clear d K))
 refine wpQuiet_nil ?_;intro w3 b;obtain⟨⟨u,j⟩,b⟩:=b;have y:=Ab (Ad (Aa q) (show Below W.heap.size W w3 by rw[b];exact below_regrown _ u j));clear b u j;go_wp2;go_ret;exact⟨rfl,Aa y⟩
theorem kP{d:PD}(h:GJ L D N t=some d):∃b,H7 L b=some d:=by
 unfold GJ at h;split at h
 ·cases h
 ·exact⟨_,h⟩
end Go.Proofs.YtmmikiikddokgaaGreatDoor
