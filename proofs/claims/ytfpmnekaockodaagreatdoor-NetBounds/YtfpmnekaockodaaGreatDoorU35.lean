/- Laws for the proof. -/
import Derived.OneCell
import Derived.Test.YtfpmnekaockodaaGreatDoorU32
namespace Go.Proofs.YtfpmnekaockodaaGreatDoor
open Go.RowKit Go.Sort
set_option linter.all false
set_option maxRecDepth 4000
set_option maxHeartbeats 8000000
variable {t i:Int}{xs D:List Nat}{L:List PD}{ps us:List PKV}{B g n c N gb m gd Bd:Nat}{a:Option Addr}{o:Option PD}{v va:Value}{w w' wx:World}
def Rv:Value:=.agg #[.int .i64 0,.int .i64 0,.int .i64 0,.int .i64 0,.int .i64 0,.slice none 0 0,.string ⟨#[]⟩]
def Co(w w':World)(o:Option PD)(e:Ending):Prop:=Below w.heap.size w w'/\match o with
 |none=>e=.returned (.tuple #[Rv,.bool false])
 |some d=> ∃q:PKV,q.pd=d/\e=.returned (.tuple #[q.val,.bool true])/\Own w' w.heap.size (.slice q.r.a q.r.n q.r.c) q.r.xs
theorem Co.no(d:o=none)(b:Below w.heap.size w w'):Co w w' o (.returned (.tuple #[Rv,.bool false])):=by
 subst d;exact⟨b,rfl⟩
theorem Co.yes{d:PD}{q:PKV}(f:o=some d)(h:q.pd=d)(e:Below w.heap.size w w')(b:Own w' w.heap.size (.slice q.r.a q.r.n q.r.c) q.r.xs):Co w w' o (.returned (.tuple #[q.val,.bool true])):=by
 subst f;exact⟨e,q,h,rfl,b⟩
theorem Own.off(h:Own w B v xs)(b:∀j,v.ownBlock=some j->j≠g)(i:Nat)(u:Value):Own (w.setCell ⟨g,i,none⟩ u) B v xs:=⟨h.1,ownsRow_setCell_other h.2 (fun e=>b g e rfl) u⟩
theorem K5{X:World}{tmps:Array Value}{o l k z h:Int}{s:ByteArray}{b:Bool}(ht:tmps.getD 4 undef=.pointer (some ⟨g,0,none⟩))(f:tmps.getD 5 undef=.bool b)(j:AX X g (.int .i64 o) (.int .i64 l) (.int .i64 k) (.int .i64 z) (.int .i64 h) (.slice a n c) (.string s)):
  (results Tryz.f202 tmps).run Tryz.prog X=.ok (.tuple #[.agg #[.int .i64 o,.int .i64 l,.int .i64 k,.int .i64 z,.int .i64 h,.slice a n c,.string s],.bool b]) X:=by
 obtain⟨p,r1,r2,q,r,u,x⟩:=j.at;have e:tmps[4]?.getD undef=.pointer (some ⟨g,0,none⟩):=by simpa using ht
 have d:tmps[5]?.getD undef=.bool b:=by simpa using f
 simp[results,Tryz.results202,go_sem,e,d,p,r1,r2,q,r,u,x]
theorem Own.all7(h:Own w B v xs)(b:g<B)(u0 u1 u2 u3 u4 u5 u6:Value):Own (set7 w g u0 u1 u2 u3 u4 u5 u6) B v xs:=
 ((((((h.other 0 u0 b).other 1 u1 b).other 2 u2 b).other 3 u3 b).other 4 u4 b).other 5 u5 b).other 6 u6 b
theorem ld(a:Option Addr)(n c:Nat)(ps:List PKV)(a':Option Addr)(m c':Nat)(ws:List Int)(w:World)(ht:Tab w)(h:PksAt w a n ps)(hk:KsIn w ps)(hs:Qt ps)(hw:IntzAt w a' m ws)(hn:n<=300)(hm:m<=300):
  Calls Tryz.prog 202 #[.slice a n c,.slice a' m c'] w fun e w'=>Co w w' (Ig (ps.map PKV.pd) ws) e:=by
 have ap:=(Below.refl w.heap.size w).alloc (Nat.le_refl _) (.cells #[.int .i64 0,.int .i64 0,.int .i64 0,.int .i64 0,.int .i64 0,.slice none 0 0,.string ⟨#[]⟩] 75);have hz:=CM w (.int .i64 0) (.int .i64 0) (.int .i64 0) (.int .i64 0) (.int .i64 0) (.slice none 0 0) (.string ⟨#[]⟩);have b6:(w.alloc (.cells #[.int .i64 0,.int .i64 0,.int .i64 0,.int .i64 0,.int .i64 0,.slice none 0 0,.string ⟨#[]⟩] 75)).heap.size=w.heap.size+1:=by simp
 have am:∀p∈atL .dflt ps ws,p∈ps:=fun p hp=>Wy (WG.1 hp);have b3:(atL .dflt ps ws).length<=300:=by have h1:=Yx (dd:=.dflt) ps ws;have h2:=hw.1;omega
 have bc:Ig (ps.map PKV.pd) ws=E9 ((atL .dflt ps ws).map PKV.pd):=by rw[Yy];exact(Z8 _ _).symm
 have bs:∀p∈atL .dflt ps ws,p.r.n<=10/\p.r.s.size<=1000:=fun p hp=>Tk hs (am p hp);have bn:=pw (us:=atL .dflt ps ws);have b7:(AO (Ah (atL .dflt ps ws))).length<=10:=jy (KsIn.rows (hk.sub am)) (N3 bs);generalize cx:w.alloc (.cells #[.int .i64 0,.int .i64 0,.int .i64 0,.int .i64 0,.int .i64 0,.slice none 0 0,.string ⟨#[]⟩] 75)=W at*;have P:=Ab (Yz a n c ps a' m c' ws W (h.below ap) (hw.below ap) hn hm);have ag:=Ab ((hk.sub am).below ap);have ax:=Ab (ht.below ap);have HZ:=Ab hz;have au:=Ab ap;have ad:=Ab b6;have ci:=Ab bs;rw[bc];clear h hk hs hw ap hz b6 am bs bc ht;generalize atL .dflt ps ws=us at*;have c0:us.length<=1048576:=by omega
 by_cases bd:0<us.length
 ·have bo:¬((us.length:Int)=0):=by omega
  have cq:(0:Int)<(us.length:Int):=by omega
  have ac:=Ab (bn bd);have a6:=Ab (fun wx C f c1 (hp:PksAt wx C f us) (h1:0<f) (h2:f<=1048576)=>eF C f c1 us wx hp h1 h2);have bv:=Ab (fun wx C f c1 (hp:PksAt wx C f us) (hk:KsIn wx us)=>lD C f c1 us wx hp hk (Aa ci) (by rw[<-hp.1];exact b3));have bu:=Ab (fun wx C f c1 (hp:RowAt wx C f (AO (Ah us))) (hm:f<=1048576)=>GP C f c1 (AO (Ah us)) wx hp hm);clear bn;generalize C6 (us.map PKV.pd)=HO at*;generalize E9 (us.map PKV.pd)=o at*;generalize AO (Ah us)=V at*;generalize st (Cz ((Ah us).map fun r=>r.s))=S at*;generalize cnt V=CV at*;cases ao:Jn us
  ·have ah:Hid (o=none):=Ab (by rw[Aa ac,if_neg (fun e=>absurd (ao.symm.trans e.1) (by decide))])
   clear ac;go_enter Tryz.func202,Tryz.ntmps202
   go_wp2_with (first
    |(go_at_call 244;refine(Aa P).mono ?_;rintro e w1 ⟨v1,rfl,x,d⟩;obtain⟨C,f,c1,rfl⟩:∃a m c,v1=Value.slice a m c:=⟨_,_,_,x.shape.choose_spec.choose_spec⟩;obtain⟨A,ab,ba,bb⟩:=x.at' ((Aa ag).below d);have J:0<f:=(by omega);have K:f<=1048576:=(by omega);have al:¬(f:Int)=0:=(by omega);have bp:(0:Int)<(f:Int):=(by omega);have bq:((f:Int)==0)=false:=beq_eq_false_iff_ne.2 al;clear ab;have E:=Ab A;have R:=Ab d;have ae:=Ab ((Aa ax).below d);have H:=Ab ((Aa HZ).below d);clear x d A P)
    |(go_at_call 245;refine(LQ C f c1 us w1 (Aa ae) (Aa E) J K).mono ?_;rintro e w2 ⟨rfl,u⟩;rw[ao];have af:=Ab (Ad (Aa R) u);have Y:=Ab ((Aa E).below u);have Z:=Ab ((Aa H).below u);clear u;obtain⟨y0,y1,y2,y3,y4,y5,y6⟩:=(Aa Z).at;have gz:=(Aa Z).frz))
   exact bodyPost_ret (K5 (g:=w.heap.size) (X:=set7 w2 w.heap.size (.int .i64 0) (.int .i64 0) (.int .i64 0) (.int .i64 0) (.int .i64 0) (.slice none 0 0) (.string ⟨#[]⟩)) rfl rfl ((Aa Z).sets _ _ _ _ _ _ _)) rfl (Co.no (Aa ah) (CD ((Aa au).trans ((Aa af).mono (by have:=Aa ad;omega))) (Nat.le_refl _) _ _ _ _ _ _ _))
  ·by_cases hh:15<=HO
   ·have ah:Hid (o=none):=Ab (by rw[Aa ac,if_neg (fun e=>absurd e.2.2 (by omega))])
    clear ac;go_enter Tryz.func202,Tryz.ntmps202
    go_wp2_with (first
     |(go_at_call 244;refine(Aa P).mono ?_;rintro e w1 ⟨v1,rfl,x,d⟩;obtain⟨C,f,c1,rfl⟩:∃a m c,v1=Value.slice a m c:=⟨_,_,_,x.shape.choose_spec.choose_spec⟩;obtain⟨A,ab,ba,bb⟩:=x.at' ((Aa ag).below d);have J:0<f:=(by omega);have K:f<=1048576:=(by omega);have al:¬(f:Int)=0:=(by omega);have bp:(0:Int)<(f:Int):=(by omega);have bq:((f:Int)==0)=false:=beq_eq_false_iff_ne.2 al;clear ab;have E:=Ab A;have R:=Ab d;have ae:=Ab ((Aa ax).below d);have H:=Ab ((Aa HZ).below d);clear x d A P)
     |(go_at_call 245;refine(LQ C f c1 us w1 (Aa ae) (Aa E) J K).mono ?_;rintro e w2 ⟨rfl,u⟩;rw[ao];have af:=Ab (Ad (Aa R) u);have Y:=Ab ((Aa E).below u);have Z:=Ab ((Aa H).below u);clear u)
     |(go_at_call 246;refine(Aa a6 w2 C f c1 (Aa Y) J K).mono ?_;rintro e w3 ⟨rfl,y⟩;have T:=Ab (Ad (Aa af) y);have an:=Ab ((Aa Y).below y);have ai:=Ab ((Aa Z).below y);clear y;obtain⟨y0,y1,y2,y3,y4,y5,y6⟩:=(Aa ai).at;have gz:=(Aa ai).frz))
    exact bodyPost_ret (K5 (g:=w.heap.size) (X:=set7 w3 w.heap.size (.int .i64 0) (.int .i64 0) (.int .i64 0) (.int .i64 0) (.int .i64 0) (.slice none 0 0) (.string ⟨#[]⟩)) rfl rfl ((Aa ai).sets _ _ _ _ _ _ _)) rfl (Co.no (Aa ah) (CD ((Aa au).trans ((Aa T).mono (by have:=Aa ad;omega))) (Nat.le_refl _) _ _ _ _ _ _ _))
   ·have cz:decide (15<=HO)=false:=decide_eq_false hh
    by_cases cy:CV=0
    ·have ah:Hid (o=none):=Ab (by rw[Aa ac,if_neg (fun e=>absurd e.2.1 (by omega))])
     have b2:(CV:Int)=0:=by omega
     clear ac;go_enter Tryz.func202,Tryz.ntmps202
     go_wp2_with (first
      |(go_at_call 244;refine(Aa P).mono ?_;rintro e w1 ⟨v1,rfl,x,d⟩;obtain⟨C,f,c1,rfl⟩:∃a m c,v1=Value.slice a m c:=⟨_,_,_,x.shape.choose_spec.choose_spec⟩;obtain⟨A,ab,ba,bb⟩:=x.at' ((Aa ag).below d);have J:0<f:=(by omega);have K:f<=1048576:=(by omega);have al:¬(f:Int)=0:=(by omega);have bp:(0:Int)<(f:Int):=(by omega);have bq:((f:Int)==0)=false:=beq_eq_false_iff_ne.2 al;clear ab;have E:=Ab A;have R:=Ab d;have ae:=Ab ((Aa ax).below d);have H:=Ab ((Aa HZ).below d);clear x d A P)
      |(go_at_call 245;refine(LQ C f c1 us w1 (Aa ae) (Aa E) J K).mono ?_;rintro e w2 ⟨rfl,u⟩;rw[ao];have af:=Ab (Ad (Aa R) u);have Y:=Ab ((Aa E).below u);have Z:=Ab ((Aa H).below u);clear u)
      |(go_at_call 246;refine(Aa a6 w2 C f c1 (Aa Y) J K).mono ?_;rintro e w3 ⟨rfl,y⟩;have T:=Ab (Ad (Aa af) y);have an:=Ab ((Aa Y).below y);have ai:=Ab ((Aa Z).below y);clear y)
      |(go_at_call 247;refine(Aa bv w3 C f c1 (Aa an) ((Aa ag).below (Aa T))).mono ?_;rintro e w4 ⟨v4,rfl,ak,aa⟩;obtain⟨a4,O,c4,rfl,cp⟩:∃a m c,v4=Value.slice a m c/\m<=10:=(by obtain⟨a,c,e,_⟩:=ak.row;exact⟨a,_,c,e,b7⟩);have bf:=Ab (Ad (Aa T) aa);have bi:=Ab ((Aa an).below aa);have bm:=Ab ((Aa ai).below aa);have aw:=Ab (ak.mono (B':=w.heap.size+1) (by have h1:=Aa ad;have h2:=(Aa T).size;omega));clear aa ak)
      |(go_at_call 180;have I:Below w4.heap.size w4 (w4.alloc (.cells #[.slice a4 O c4,.string S] 73)):=(Below.refl _ _).alloc (Nat.le_refl _) _;have a5:=JO w4 (.slice a4 O c4) (.string S);have a2:(w4.alloc (.cells #[.slice a4 O c4,.string S] 73)).heap.size=w4.heap.size+1:=(by simp);generalize bt:w4.alloc (.cells #[.slice a4 O c4,.string S] 73)=w5 at*;have a0:RowAt w5 a4 O V:=(by have h5:=(Aa aw).below I;obtain⟨_,_,e,br⟩:=h5.row;simp only[Value.slice.injEq]at e;obtain⟨rfl,rfl,rfl⟩:=e;exact br);have bg:=Ab (Ad (Aa bf) I);have bj:=Ab ((Aa bi).below I);have ay:=Ab ((Aa bm).below I);have bz:=Ab a5;have a7:=Ab a2;refine(Aa bu w5 a4 O c4 a0 (by omega)).mono ?_;rintro e wx ⟨rfl,a3⟩;obtain rfl:=a3.symm;clear a3 I a5 a2 a0 bt;obtain⟨y0,y1,y2,y3,y4,y5,y6⟩:=(Aa ay).at;have gz:=(Aa ay).frz))
     exact bodyPost_ret (K5 (g:=w.heap.size) (X:=set7 w5 w.heap.size (.int .i64 0) (.int .i64 0) (.int .i64 0) (.int .i64 0) (.int .i64 0) (.slice none 0 0) (.string ⟨#[]⟩)) rfl rfl ((Aa ay).sets _ _ _ _ _ _ _)) rfl (Co.no (Aa ah) (CD ((Aa au).trans ((Aa bg).mono (by have:=Aa ad;omega))) (Nat.le_refl _) _ _ _ _ _ _ _))
    ·have b2:¬(CV:Int)=0:=by omega
     have cl:=Ab (show o=some ⟨(us.getD 0 .dflt).o,(us.getD 0 .dflt).l,(us.getD 0 .dflt).k,(us.getD 0 .dflt).z,IntKind.i64.wrap (HO+1),V,S⟩ from by rw[Aa ac,if_pos ⟨ao,by omega,by omega⟩])
     have cb:=Ab (fun wx C f (hp:PksAt wx C f us)=>show∃b off,C=some ⟨b,off,none⟩/\AY wx b off (us.getD 0 .dflt) from by
      have b5:0<f:=by rw[<-hp.1];exact bd
      obtain⟨b,off,e,co⟩:=hp.at b5;have:=co 0 b5;rw[Nat.zero_mul,Nat.add_zero]at this;exact⟨b,off,e,this⟩)
     clear ac;generalize us.getD 0 .dflt=q at*;generalize cw:IntKind.i64.wrap (HO+1)=HW at*;go_enter Tryz.func202,Tryz.ntmps202
     go_wp2_with (first
      |(go_at_call 244;refine(Aa P).mono ?_;rintro e w1 ⟨v1,rfl,x,d⟩;obtain⟨C,f,c1,rfl⟩:∃a m c,v1=Value.slice a m c:=⟨_,_,_,x.shape.choose_spec.choose_spec⟩;obtain⟨A,ab,ba,bb⟩:=x.at' ((Aa ag).below d);have J:0<f:=(by omega);have K:f<=1048576:=(by omega);have al:¬(f:Int)=0:=(by omega);have bp:(0:Int)<(f:Int):=(by omega);have bq:((f:Int)==0)=false:=beq_eq_false_iff_ne.2 al;clear ab;have E:=Ab A;have R:=Ab d;have ae:=Ab ((Aa ax).below d);have H:=Ab ((Aa HZ).below d);clear x d A P)
      |(go_at_call 245;refine(LQ C f c1 us w1 (Aa ae) (Aa E) J K).mono ?_;rintro e w2 ⟨rfl,u⟩;rw[ao];have af:=Ab (Ad (Aa R) u);have Y:=Ab ((Aa E).below u);have Z:=Ab ((Aa H).below u);clear u)
      |(go_at_call 246;refine(Aa a6 w2 C f c1 (Aa Y) J K).mono ?_;rintro e w3 ⟨rfl,y⟩;have T:=Ab (Ad (Aa af) y);have an:=Ab ((Aa Y).below y);have ai:=Ab ((Aa Z).below y);clear y)
      |(go_at_call 247;refine(Aa bv w3 C f c1 (Aa an) ((Aa ag).below (Aa T))).mono ?_;rintro e w4 ⟨v4,rfl,ak,aa⟩;obtain⟨a4,O,c4,rfl,cp⟩:∃a m c,v4=Value.slice a m c/\m<=10:=(by obtain⟨a,c,e,_⟩:=ak.row;exact⟨a,_,c,e,b7⟩);have bf:=Ab (Ad (Aa T) aa);have bi:=Ab ((Aa an).below aa);have bm:=Ab ((Aa ai).below aa);have aw:=Ab (ak.mono (B':=w.heap.size+1) (by have h1:=Aa ad;have h2:=(Aa T).size;omega));clear aa ak;have bx:=Ab (show Below w4.heap.size w4 (w4.alloc (.cells #[.slice a4 O c4,.string S] 73)) from(Below.refl _ _).alloc (Nat.le_refl _) _);have cg:=Ab (fun j hj=>(World.ownsRow.lt (Aa aw).2 j hj).2))
      |(go_at_call 180;have I:Below w4.heap.size w4 (w4.alloc (.cells #[.slice a4 O c4,.string S] 73)):=(Below.refl _ _).alloc (Nat.le_refl _) _;have a5:=JO w4 (.slice a4 O c4) (.string S);have a2:(w4.alloc (.cells #[.slice a4 O c4,.string S] 73)).heap.size=w4.heap.size+1:=(by simp);generalize bt:w4.alloc (.cells #[.slice a4 O c4,.string S] 73)=w5 at*;have a0:RowAt w5 a4 O V:=(by have h5:=(Aa aw).below I;obtain⟨_,_,e,br⟩:=h5.row;simp only[Value.slice.injEq]at e;obtain⟨rfl,rfl,rfl⟩:=e;exact br);have bg:=Ab (Ad (Aa bf) I);have bj:=Ab ((Aa bi).below I);have ay:=Ab ((Aa bm).below I);have bz:=Ab a5;have a7:=Ab a2;refine(Aa bu w5 a4 O c4 a0 (by omega)).mono ?_;rintro e wx ⟨rfl,a3⟩;obtain rfl:=a3.symm;clear a3 I a5 a2 a0 bt;obtain⟨b0,f0,rfl,p0,p1,p2,p3,p4,p5,p6⟩:=Aa cb w5 C f (Aa bj))
      |(go_at_call 248;refine(Pb q.o q.l q.k q.z q.h q.r.a q.r.n q.r.c q.r.s w5).mono ?_;rintro e Q ⟨rfl,aj⟩;have av:=Ab (Ad (Aa bg) aj);have ch:=Ab ((Aa bj).below aj);have cm:=Ab ((Aa ay).below aj);have cj:=Ab ((Aa bz).below aj);have bw:=Ab aj.size;have cd:=Ab ((Aa aw).below ((Aa bx).trans (aj.mono (by have:=Aa a7;omega))));clear aj)
      |(go_at_call 246;have aq:Below Q.heap.size Q (Q.alloc (.cells #[.int .i64 q.o,.int .i64 q.l,.int .i64 q.k,.int .i64 q.z,.int .i64 0,.slice none 0 0,.string ⟨#[]⟩] 75)):=(Below.refl _ _).alloc (Nat.le_refl _) _;have b8:=CM Q (.int .i64 q.o) (.int .i64 q.l) (.int .i64 q.k) (.int .i64 q.z) (.int .i64 0) (.slice none 0 0) (.string ⟨#[]⟩);generalize cr:Q.alloc (.cells #[.int .i64 q.o,.int .i64 q.l,.int .i64 q.k,.int .i64 q.z,.int .i64 0,.slice none 0 0,.string ⟨#[]⟩] 75)=w7 at*;refine(Aa a6 w7 (some ⟨b0,f0,none⟩) f c1 ((Aa ch).below aq) J K).mono ?_;rintro e w8 ⟨rfl,ar⟩;have b9:=Ab (Ad (Ad (Aa av) aq) ar);have cn:=Ab (((Aa cm).below aq).below ar);have ck:=Ab (((Aa cj).below aq).below ar);have bl:=Ab (b8.below ar);have ce:=Ab (((Aa cd).below aq).below ar);clear aq ar b8 cr;obtain⟨s0,s1,s2,s3,s4,s5,s6⟩:=(Aa bl).at;have gs:=(Aa bl).frz;have b4:Q.heap.size≠w4.heap.size:=(by have h1:=Aa a7;have h2:=Aa bw;omega);have az:w.heap.size≠Q.heap.size:=(by have h1:=Aa ad;have h2:=(Aa av).size;omega);obtain⟨⟨t0,t1⟩,_,_⟩:=(Aa ck).other (g':=Q.heap.size) 4 (.int .i64 HW) b4;have hA:=(Aa bl).set4 (.int .i64 HW);have cs:=hA.at.2.2.2.2.2.1;have ct:=hA.frz;have a8:=hA.set5 (.slice a4 O c4);have cu:=a8.at.2.2.2.2.2.2;have cv:=a8.frz;have b1:=a8.set6 (.string S);obtain⟨r0,r1,r2,r3,r4,r5,r6⟩:=b1.at;have a9:=(((Aa cn).other (a:=⟨Q.heap.size,4,none⟩) az (.int .i64 HW)).other (a:=⟨Q.heap.size,5,none⟩) az (.slice a4 O c4)).other (a:=⟨Q.heap.size,6,none⟩) az (.string S);obtain⟨y0,y1,y2,y3,y4,y5,y6⟩:=a9.at;have gz:=a9.frz;have cc:=Ab a9;clear hA a8 b1 a9))
     have ca:=Ab ((((Aa b9).setCell (p:=⟨Q.heap.size,4,none⟩) (Aa av).size (.int .i64 HW)).setCell (p:=⟨Q.heap.size,5,none⟩) (Aa av).size (.slice a4 O c4)).setCell (p:=⟨Q.heap.size,6,none⟩) (Aa av).size (.string S));have bh:=Ab (show∀j,(Value.slice a4 O c4).ownBlock=some j->j≠Q.heap.size from fun j hj=>by have h1:=Aa cg j hj;have h2:=Aa a7;have h3:=Aa bw;omega);have cf:=Ab ((((Aa ce).off (g:=Q.heap.size) (Aa bh) 4 (.int .i64 HW)).off (g:=Q.heap.size) (Aa bh) 5 (.slice a4 O c4)).off (g:=Q.heap.size) (Aa bh) 6 (.string S))
     exact bodyPost_ret (K5 (g:=w.heap.size) (X:=set7 (((w8.setCell ⟨Q.heap.size,4,none⟩ (.int .i64 HW)).setCell ⟨Q.heap.size,5,none⟩ (.slice a4 O c4)).setCell ⟨Q.heap.size,6,none⟩ (.string S)) w.heap.size (.int .i64 q.o) (.int .i64 q.l) (.int .i64 q.k) (.int .i64 q.z) (.int .i64 HW) (.slice a4 O c4) (.string S)) rfl rfl ((Aa cc).sets _ _ _ _ _ _ _)) rfl
      (Co.yes (q:=⟨q.o,q.l,q.k,q.z,HW,⟨a4,O,c4,V,S⟩⟩) (Aa cl) rfl (CD ((Aa au).trans ((Aa ca).mono (by have:=Aa ad;omega))) (Nat.le_refl _) _ _ _ _ _ _ _) (((Aa cf).all7 (g:=w.heap.size) (Nat.lt_succ_self _) _ _ _ _ _ _ _).mono (Nat.le_succ _)))
 ·have h0:us=[]:=List.eq_nil_of_length_eq_zero (by omega)
  have ah:Hid (E9 (us.map PKV.pd)=none):=Ab (by rw[h0];rfl);have bo:(us.length:Int)=0:=by omega
  clear bn h0;generalize E9 (us.map PKV.pd)=o at*;go_enter Tryz.func202,Tryz.ntmps202
  go_wp2_with (first
   |(go_at_call 244;refine(Aa P).mono ?_;rintro e w1 ⟨v1,rfl,x,d⟩;obtain⟨C,f,c1,rfl⟩:∃a m c,v1=Value.slice a m c:=⟨_,_,_,x.shape.choose_spec.choose_spec⟩;obtain⟨A,ab,ba,bb⟩:=x.at' ((Aa ag).below d);obtain rfl:f=0:=(by omega);clear ab;have E:=Ab A;have R:=Ab d;have ae:=Ab ((Aa ax).below d);have H:=Ab ((Aa HZ).below d);clear x d A P;obtain⟨y0,y1,y2,y3,y4,y5,y6⟩:=(Aa H).at;have gz:=(Aa H).frz))
  exact bodyPost_ret (K5 (g:=w.heap.size) (X:=set7 w1 w.heap.size (.int .i64 0) (.int .i64 0) (.int .i64 0) (.int .i64 0) (.int .i64 0) (.slice none 0 0) (.string ⟨#[]⟩)) rfl rfl ((Aa H).sets _ _ _ _ _ _ _)) rfl (Co.no (Aa ah) (CD ((Aa au).trans ((Aa R).mono (by have:=Aa ad;omega))) (Nat.le_refl _) _ _ _ _ _ _ _))
def EQ:PKV:=⟨0,0,0,0,0,⟨none,0,0,[],⟨#[]⟩⟩⟩
theorem mz(ch:List Bool)(n:Nat):(Gl ch n).length<=n:=by
 have:=List.length_filter_le (fun i=>ch.getD i false) (List.range n);rwa[List.length_range]at this
def GY(L:List PD)(D:List Nat)(N:Nat)(t:Int):Option PD:=if L.length=0 then none else emitD L (BN D (N+1)%L.length) t
def Rs(L:List PD)(N:Nat):Nat:=if L.length=0 then N else N+1
theorem iE(a:Option Addr)(n c:Nat)(ps:List PKV)(w:World)(h:PksAt w a n ps)(V:n<=1048576):
  Calls Tryz.prog 200 #[.slice a n c] w fun e w'=> ∃v,e=.returned v/\Ak w' w.heap.size v (Ah ps)/\Below w.heap.size w w':=by
 obtain rfl:=h.1;have X:=Ab h;have ag:=M2 ps.length V;have Q:=Ab (M1 w ps.length V (BR (Ah ps) 0) (by rw[OF,Ev]));have x:Hid (Below w.heap.size w (w.alloc (.cells (madeCells #[.slice none 0 0,.string ⟨#[]⟩] (ps.length*2)) 73))):=Ab ((Below.refl _ _).alloc (Nat.le_refl _) _);clear h;go_enter Tryz.func200,Tryz.ntmps200;go_wp2;go_loopw [11] (fun i wr=> ∃k:Nat,k<=ps.length/\i=.int .i64 k/\Hid (Ak wr w.heap.size (.slice (some ⟨w.heap.size,0,none⟩) ps.length ps.length) (BR (Ah ps) k))/\Hid (Below w.heap.size w wr)) (fun i _=>ps.length-(intOf i).toNat)
 case atStart=>exact⟨0,Nat.zero_le _,rfl,Q,x⟩
 case round=>
  obtain⟨k,hk,rfl,I,H⟩:=hrel;clear Q x;by_cases d:k<ps.length
  ·obtain⟨b,off,rfl,C⟩:=((Aa X).below (Aa H)).at d
   obtain⟨Z,aa,ab,ac,ad,ae,af⟩:=C k d;have T:(k:Int)<(ps.length:Int):=by omega
   have P:=OE (Ah ps) k (by rw[Ev];exact d);rw[UF d]at P;generalize ps.getD k .dflt=p at*;have j:=Jh wr p;have A:=(Aa I).below j;obtain⟨ah,ai,aj,ak,al,am,an⟩:=Fv wr (.int .i64 p.o) (.int .i64 p.l) (.int .i64 p.k) (.int .i64 p.z) (.int .i64 p.h) (.slice p.r.a p.r.n p.r.c) (.string p.r.s);have y:=Ad (Aa H) j;generalize Y:wr.alloc (.cells #[.int .i64 p.o,.int .i64 p.l,.int .i64 p.k,.int .i64 p.z,.int .i64 p.h,.slice p.r.a p.r.n p.r.c,.string p.r.s] 75)=w1 at*;have E:(BR (Ah ps) k).length=ps.length:=by rw[NP _ _ (by rw[Ev];exact hk),Ev]
   have q:=Il (BR (Ah ps) k) k (by omega);have J:=A.cellAt q.1;have K:=A.cellAt q.2;have f:w1.ownsRow w.heap.size 73 2 (.slice (some ⟨w.heap.size,0,none⟩) ps.length ps.length) ps.length (cellsR (BR (Ah ps) k)):=by
    have:w1.ownsRow w.heap.size 73 2 (.slice (some ⟨w.heap.size,0,none⟩) ps.length ps.length) (BR (Ah ps) k).length (cellsR (BR (Ah ps) k)):=A;rwa[E]at this
   have R:=f.frozenAt (k*2);have S:=f.frozenAt (k*2+1);have u:=A.stored k p.r;rw[P]at u;have W:=Ab u;have O:=Ab ((y.setCell (p:=⟨w.heap.size,k*2,none⟩) (Nat.le_refl _) (.slice p.r.a p.r.n p.r.c)).setCell (p:=⟨w.heap.size,k*2+1,none⟩) (Nat.le_refl _) (.string p.r.s));clear C A f u P q E I H j y;generalize (BR (Ah ps) k).getD k .dflt=z at*;go_wp2;go_roundw
   case rel=>exact⟨k+1,by omega,by go_num,W,O⟩
   case measure=>simp[intOf];omega
  ·obtain rfl:k=ps.length:=by omega
   rw[show ps.length=(Ah ps).length from(Ev ps).symm,O8,Ev]at I;go_wp2;go_ret;exact⟨_,rfl,Aa I,Aa H⟩
theorem Co.own{e:Ending}(h:Co w w' o e):Below w.heap.size w w'/\∃q:PKV,e=.returned (.tuple #[q.val,.bool o.isSome])/\q.pd=o.getD EQ.pd/\Own w' w.heap.size (.slice q.r.a q.r.n q.r.c) q.r.xs:=by
 cases o with
 |none=>exact⟨h.1,EQ,h.2,rfl,Own.nil _ _⟩
 |some d=>
  obtain⟨b,q,k,f,j⟩:=h;exact⟨b,q,f,k,j⟩
theorem AW.not{T d:TypeId}{j:Nat}{u0 u1:Value}{b:Array Value}{f:Nat×Nat}(h:AW T w g u0 u1)(l:w.heap[j]? =some (.cells b d f))(k:T≠d):j≠g:=fun e=>by
 subst e;unfold AW at h;rw[l]at h;simp only[Option.some.injEq,Obj.cells.injEq]at h;exact k h.2.1.symm
theorem Az.bk{L:List Nat}(h:Az w g B L N):∃a n c,AW 246 w g (.slice a n c) (.int .i64 (N:Int)):=by
 obtain⟨d,e,a,n,c,b,f⟩:=h;exact⟨a,n,c,b⟩
theorem ku{b:Nat}(h:w'.heap[b]? =w.heap[b]?)(i:Nat):w'.cell? ⟨b,i,none⟩=w.cell? ⟨b,i,none⟩:=by
 simp only[World.cell?,h]
theorem RowAt.same(h:RowAt w a n xs)(f:n=0\/∀d,a=some d->w'.heap[d.block]? =w.heap[d.block]?):RowAt w' a n xs:=by
 refine⟨h.1,h.2.1,?_⟩;rcases h.2.2 with e|⟨b,off,rfl,j⟩
 ·exact .inl e
 ·rcases f with e|f
  ·exact .inl e
  ·exact .inr ⟨b,off,rfl,fun i k=>(ku (f _ rfl) _).trans (j i k)⟩
theorem Az.tu{F:Nat->Prop}{L:List Nat}(h:Az w g B L N)(ht:Tu F w w')(A:¬F g)(C:∀j d,w.heap[j]? =some (.cells d 265 (0,0))->¬F j):Az w' g B L N:=by
 obtain⟨s,u,a,n,c,r,x,y,z,f⟩:=h
 have p:n=0\/∀b,a=some b->w'.heap[b.block]? =w.heap[b.block]? :=f.imp id fun k b e=>by
  obtain⟨d,l⟩:=(k b e).2;exact ht.block b.block (Array.getElem?_eq_some_iff.1 l).1 (C _ d l)
 refine⟨s,u,a,n,c,(ht.block g r.lt A).trans r,x,y,z.same p,?_⟩;rcases f with q|f
 ·exact .inl q
 ·rcases p with q|p
  ·exact .inl q
  ·exact .inr fun b e=>⟨(f b e).1,(f b e).2.imp fun d l=>(p b e).trans l⟩
theorem Tab.drawn{T:TypeId}{u:Value}(h:Tab w)(f:AW T w g (.slice a n c) u)(j:w.grownBy w' (some g)):Tab w':=fun i k=>by
 refine j.cell (h i k) fun e=>?_;have d:=h 0 (by decide);have b:=f.at0;rw[<-Option.some.inj e,d]at b;cases b
theorem Yr(w:World)(g:Nat)(u0 u1 u2 u3 u4 u5 u6:Value):w.grownBy (set7 w g u0 u1 u2 u3 u4 u5 u6) (some g):=
 BD (BD (BD (BD (BD (BD (BF _ _ _ _) (BF _ _ _ _) (.inl rfl)) (BF _ _ _ _) (.inl rfl)) (BF _ _ _ _) (.inl rfl)) (BF _ _ _ _) (.inl rfl)) (BF _ _ _ _) (.inl rfl)) (BF _ _ _ _) (.inl rfl)
structure EmQ(w wx:World)(g gb B m:Nat)(t i:Int)(v:Value)(ps:List PKV)(gd Bd:Nat)(D:List Nat)(N:Nat)(va:Value)(us:List PKV):Prop where
 r:Aq wx g gb B m t i v ps
 d:Az wx gd Bd D N
 bd:Bd<=wx.heap.size
 k:OwnP wx (w.heap.size+1) va us
 u:Av wx (w.heap.size+1) us
 tab:Tab wx
 pz:AX wx w.heap.size (.int .i64 0) (.int .i64 0) (.int .i64 0) (.int .i64 0) (.int .i64 0) (.slice none 0 0) (.string ⟨#[]⟩)
 gr:w.grownBy wx (some gd)
theorem EmQ.below{e:World}(h:EmQ w wx g gb B m t i v ps gd Bd D N va us)(b:Below wx.heap.size wx e):EmQ w e g gb B m t i v ps gd Bd D N va us:=
 ⟨h.r.below b,h.d.below (b.mono h.bd),Nat.le_trans h.bd b.size,h.k.below b,h.u.below b,h.tab.below b,h.pz.below b,BD h.gr (CN b (some gd)) (.inl rfl)⟩
theorem EmQ.drawn{l:World}{s:Nat}(h:EmQ w wx g gb B m t i v ps gd Bd D N va us)(x:Az l gd Bd D s)(b:wx.grownBy l (some gd)):EmQ w l g gb B m t i v ps gd Bd D s va us:=by
 obtain⟨a,n,c,f⟩:=h.d.bk;have ht:Tu (fun j=>j=gd) wx l:=Tu.of_gb b fun j _ e=>(Option.some.inj e).symm;refine⟨h.r.drawn f (by decide) (by decide) (by decide) (by decide) b,x,Nat.le_trans h.bd b.size,h.k.tu ht (fun j y=>?_),h.u.tu ht (fun j p q=>f.not q (by decide)),h.tab.drawn f b,?_,BD h.gr b (.inl rfl)⟩
 ·obtain⟨p,q⟩:=h.k.blk y
  exact f.not q (by decide)
 ·exact(b.block _ h.pz.lt fun e=>f.not h.pz (by decide) (Option.some.inj e)).trans h.pz
theorem EmQ.pks(h:EmQ w wx g gb B m t i v ps gd Bd D N (.slice a n c) us):PksAt wx a n us:=(h.k.at' h.u.ks).1
theorem gj{rs:List RV}{b:Int}(h:rs.length<=300):(ID rs b t).length<=300:=by
 unfold ID;split
 ·exact Nat.zero_le _
 ·have:=mz (BI (AZ rs) t (placeN b rs.length) 31).ch rs.length
  unfold A8;rw[List.length_map];omega
theorem Tm(j:KsIn w us)(h:Bk m (us.map PKV.pd)):Qt us:=fun i=>by
 by_cases b:i<us.length
 ·have d:=(h.get (i:=i) (by rw[List.length_map];exact b)).1
  rw[Lu b]at d;have f:=JX d;have k:=(j.get b).1.1;have l:(us.getD i .dflt).r.xs.length<=2:=f;have e:=I5 d;have p:((us.getD i .dflt).r.s.size:Int)=(us.getD i .dflt).z:=e.2.2.1;have q:(us.getD i .dflt).z<=64:=e.2.2.2.2.2;omega
 ·rw[List.getD_eq_getElem?_getD,List.getElem?_eq_none (by omega)]
  exact⟨Nat.zero_le _,Nat.zero_le _⟩
theorem Wv{X:World}{tmps:Array Value}{o l k z h:Int}{s:ByteArray}{b:Bool}(ht:tmps.getD 4 undef=.pointer (some ⟨g,0,none⟩))(f:tmps.getD 5 undef=.bool b)(j:AX X g (.int .i64 o) (.int .i64 l) (.int .i64 k) (.int .i64 z) (.int .i64 h) (.slice a n c) (.string s)):
  (results Tryz.f168 tmps).run Tryz.prog X=.ok (.tuple #[.agg #[.int .i64 o,.int .i64 l,.int .i64 k,.int .i64 z,.int .i64 h,.slice a n c,.string s],.bool b]) X:=by
 obtain⟨p,r1,r2,q,r,u,x⟩:=j.at;have e:tmps[4]?.getD undef=.pointer (some ⟨g,0,none⟩):=by simpa using ht
 have d:tmps[5]?.getD undef=.bool b:=by simpa using f
 simp[results,Tryz.results168,go_sem,e,d,p,r1,r2,q,r,u,x]
def C2(w w':World)(o:Option PD)(e:Ending):Prop:=∃q:PKV,e=.returned (.tuple #[q.val,.bool o.isSome])/\q.pd=o.getD EQ.pd/\Own w' w.heap.size (.slice q.r.a q.r.n q.r.c) q.r.xs
theorem ei(l:Value)(d:Value)(w:World)(k:∀wx,Below w.heap.size w wx->Calls Tryz.prog 56 #[l] wx fun e w'=>e=.returned (.int .i64 0)/\w'=wx):
  Calls Tryz.prog 168 #[l,d] w fun e w'=>C2 w w' none e/\Below w.heap.size w w':=by
 have b:Below w.heap.size w (w.alloc (.cells #[.int .i64 0,.int .i64 0,.int .i64 0,.int .i64 0,.int .i64 0,.slice none 0 0,.string ⟨#[]⟩] 75)):=(Below.refl _ _).alloc (Nat.le_refl _) _;have h:=CM w (.int .i64 0) (.int .i64 0) (.int .i64 0) (.int .i64 0) (.int .i64 0) (.slice none 0 0) (.string ⟨#[]⟩);have p:=Ab (k _ b);have q:=Ab h;have j:=Ab b;obtain⟨s,u,x,y,z,A,C⟩:=h.at;have E:=h.frz;clear h b k;go_enter Tryz.func168,Tryz.ntmps168;generalize r:w.alloc (.cells #[.int .i64 0,.int .i64 0,.int .i64 0,.int .i64 0,.int .i64 0,.slice none 0 0,.string ⟨#[]⟩] 75)=W at*;go_wp2_with (go_at_call 56;refine(Aa p).mono ?_;rintro e w1 ⟨rfl,f⟩;obtain rfl:=f.symm;clear f);exact bodyPost_ret (Wv (X:=set7 W w.heap.size (.int .i64 0) (.int .i64 0) (.int .i64 0) (.int .i64 0) (.int .i64 0) (.slice none 0 0) (.string ⟨#[]⟩)) rfl rfl ((Aa q).sets (.int .i64 0) (.int .i64 0) (.int .i64 0) (.int .i64 0) (.int .i64 0) (.slice none 0 0) (.string ⟨#[]⟩))) rfl ⟨⟨EQ,rfl,rfl,Own.nil _ _⟩,CD (Aa j) (Nat.le_refl _) _ _ _ _ _ _ _⟩
theorem mP(g gb B m:Nat)(t i:Int)(v:Value)(d:Value)(w:World)(h:Aq w g gb B m t i v []):Calls Tryz.prog 168 #[.pointer (some ⟨g,0,none⟩),d] w fun e w'=>C2 w w' none e/\Below w.heap.size w w':=
 ei _ d w fun wx b=>LV g gb B m t i v [] wx (h.below b)
theorem oq{f e:World}{q:PKV}(h:EmQ w f g gb B m t i v ps gd Bd D N va us)(x:Below f.heap.size f e)(A:Own e f.heap.size (.slice q.r.a q.r.n q.r.c) q.r.xs):
  Own (set7 e w.heap.size (.int .i64 q.o) (.int .i64 q.l) (.int .i64 q.k) (.int .i64 q.z) (.int .i64 q.h) (.slice q.r.a q.r.n q.r.c) (.string q.r.s)) w.heap.size (.slice q.r.a q.r.n q.r.c) q.r.xs/\(Bd<=w.heap.size->Az (set7 e w.heap.size (.int .i64 q.o) (.int .i64 q.l) (.int .i64 q.k) (.int .i64 q.z) (.int .i64 q.h) (.slice q.r.a q.r.n q.r.c) (.string q.r.s)) gd Bd D N)/\w.grownBy (set7 e w.heap.size (.int .i64 q.o) (.int .i64 q.l) (.int .i64 q.k) (.int .i64 q.z) (.int .i64 q.h) (.slice q.r.a q.r.n q.r.c) (.string q.r.s)) (some gd):=by
 have p:=h.below x;have b:=h.pz.lt;refine⟨(A.all7 b _ _ _ _ _ _ _).mono (Nat.le_of_lt b),fun u=>p.d.below (CD (Below.refl _ _) u _ _ _ _ _ _ _),BD p.gr (Yr _ _ _ _ _ _ _ _ _) (.inr fun j y=>Nat.le_of_eq (Option.some.inj y))⟩
theorem mO(g gb B m:Nat)(t i:Int)(v:Value)(ps:List PKV)(gd Bd:Nat)(D:List Nat)(N:Nat)(w:World)(ht:Tab w)(h:Aq w g gb B m t i v ps)(hd:Az w gd Bd D N)(hB:Bd<=w.heap.size)(hN:N<=1099511627776)(bg: -1099511627776<=t/\t<=1099511627776)(h0:0<ps.length):
  Calls Tryz.prog 168 #[.pointer (some ⟨g,0,none⟩),.pointer (some ⟨gd,0,none⟩)] w fun e w'=>C2 w w' (emitD (ps.map PKV.pd) (BN D (N+1)%ps.length) t) e/\Az w' gd Bd D (N+1)/\w.grownBy w' (some gd):=by
 have b:Below w.heap.size w (w.alloc (.cells #[.int .i64 0,.int .i64 0,.int .i64 0,.int .i64 0,.int .i64 0,.slice none 0 0,.string ⟨#[]⟩] 75)):=(Below.refl _ _).alloc (Nat.le_refl _) _;have hz:=CM w (.int .i64 0) (.int .i64 0) (.int .i64 0) (.int .i64 0) (.int .i64 0) (.slice none 0 0) (.string ⟨#[]⟩);have av:(w.alloc (.cells #[.int .i64 0,.int .i64 0,.int .i64 0,.int .i64 0,.int .i64 0,.slice none 0 0,.string ⟨#[]⟩] 75)).heap.size=w.heap.size+1:=Bc _ _;have ao:=h.buf.len.2;generalize bh:w.alloc (.cells #[.int .i64 0,.int .i64 0,.int .i64 0,.int .i64 0,.int .i64 0,.slice none 0 0,.string ⟨#[]⟩] 75)=W at*;have aa:=Ab (hd.below (b.mono hB));have x:=LV g gb B m t i v ps W (h.below b);have P:=Ab (h.below b);have I:=Ab h.buf.inv;have a9:=Ab (ht.below b);have HZ:=Ab hz;have J:=Ab b;have ai:=Ab av;have bi:=pt ⟨gb,0,none⟩;obtain⟨n,T⟩:∃n,ps.length=n:=⟨_,rfl⟩;rw[T]at x h0 ao⊢;have ac:=Ab x;have af:=Ab T;have bf:¬((n:Int)=0):=by omega
 have bj:((n:Int)==0)=false:=by rw[beq_eq_false_iff_ne];exact bf
 obtain⟨c0, -, -⟩:=(h.below b).cells;clear h ht hz b av T x hd;go_enter Tryz.func168,Tryz.ntmps168;go_wp2_with (go_at_call 56;refine(Aa ac).mono ?_;rintro e w1 ⟨rfl,ax⟩;obtain rfl:=ax.symm;clear ax ac);refine(kh gb B m v ps _ (Aa P).buf).mono ?_;rintro e w2 ⟨b2,c2,us,rfl,ap,an,E,f⟩;have aj:=f;have A:Hid (EmQ w w2 g gb B m t i v ps gd Bd D N (.slice (some ⟨b2,0,none⟩) ps.length c2) us):=Ab ⟨(Aa P).below f,(Aa aa).below (f.mono (Nat.le_trans hB (Aa J).size)),(Nat.le_trans hB (Nat.le_trans (Aa J).size aj.size)),ap.mono (by rw[<-Aa ai];exact Nat.le_refl _),an.mono (by rw[<-Aa ai];exact Nat.le_refl _),(Aa a9).below f,(Aa HZ).below f,CN (Ad (Aa J) f) _⟩;have aw:us.length=n:=by rw[<-Aa af];have:=congrArg List.length E;simpa using this
 have Q:=Ab aw;have ab:Hid (Bk m (us.map PKV.pd)):=Ab (by rw[E];exact Aa I);have a6:=Ab E;rw[Aa af]at A⊢;clear ap an E f aj aw I P aa;obtain⟨f0,f1, -⟩:=(Aa A).r.cells;have a8:=Ab (fun wx (hq:EmQ w wx g gb B m t i v ps gd Bd D N (.slice (some ⟨b2,0,none⟩) n c2) us)=>iE (some ⟨b2,0,none⟩) n c2 us wx hq.pks (by omega));have az:=Ab (fun wx (hq:EmQ w wx g gb B m t i v ps gd Bd D N (.slice (some ⟨b2,0,none⟩) n c2) us)=>Tt gd Bd D N n wx hq.d hN (by omega) (by omega));have ad:=Ab (show BN D (N+1)%n<n from Nat.mod_lt _ h0);generalize bd:BN D (N+1)%n=bb at*;go_wp2_with fail
 go_region_held3 (fun w'=>w'.cell? ⟨g,1,none⟩=some (.int .i64 t)) (go_keep) (first
  |(go_at_call 200;refine(Aa a8 _ ((Aa A).below (Below.refl _ _).drew)).mono ?_;rintro e w3 ⟨v3,rfl,C,ak⟩;have V:=((Aa A).below (Below.refl _ _).drew).below ak;have ah:=Ab V;obtain⟨a3,d3,rfl⟩:=C.shape;rw[Ev,Aa Q]at C⊢;have a2:=Ab C;have a1:=Ab ((Aa A).below (Below.refl _ _).drew).d.lt;obtain⟨-,k1, -⟩:=V.r.cells;clear C ak V)
  |(go_at_call 201;refine(Aa az _ (Aa ah)).mono ?_;rintro e w4 ⟨rfl,am,S⟩;have Y:=(Aa ah).drawn am S;have K:=Ab Y;have a4:=Ab ((Aa a2).keptB S (Aa a1));obtain⟨-,l1, -⟩:=Y.r.cells;clear am S Y)
  |(go_at_call 199;refine(gi a3 n d3 (Ah us) (bb:Int) t w4 (((Aa a4).at' (KsIn.rows (Aa K).u.ks)).1) (N3 fun p hp=>Tk (Tm (Aa K).u.ks (Aa ab)) hp) (by omega) (by have:=Aa ad;omega) bg).mono ?_;rintro e w5 ⟨v5,rfl,aq,al⟩;have Z:=(Aa K).below al;have j:=Ab Z;obtain⟨a5,d5,rfl,ay⟩:=aq.ints;have ba:=Ab ay;obtain⟨-,m1, -⟩:=Z.r.cells;clear aq al Z ay))
 have y:=ld (some ⟨b2,0,none⟩) n c2 us a5 (ID (Ah us) (bb:Int) t).length d5 (ID (Ah us) (bb:Int) t) w5 (Aa j).tab (Aa j).pks (Aa j).u.ks (Tm (Aa j).u.ks (Aa ab)) (Aa ba) (by omega) (gj (by rw[Ev,Aa Q];omega));rw[Yb (by rw[Aa Q];exact Aa ad),Aa a6]at y;have ae:=Ab y;clear y;obtain⟨O,hO⟩:∃O,emitD (ps.map PKV.pd) bb t=O:=⟨_,rfl⟩;have ag:Hid (emitD (ps.map PKV.pd) (BN D (N+1)%n) t=O):=Ab (by rw[show BN D (N+1)%n=bb from bd];exact hO);rw[hO]at ae;clear hO;go_wp2_with (go_at_call 202;refine(Aa ae).mono ?_;rintro e w6 hM;obtain⟨R,q,rfl,au,ar⟩:=hM.own;have a0:=Ab (oq (Aa j) R ar);have a7:=Ab au;have H:=(Aa j).pz.below R;obtain⟨x0,x1,x2,x3,x4,x5,x6⟩:=H.at;have xf:=H.frz;have bc:=Ab H;unfold PKV.val;clear R au ar hM H);obtain⟨y1,y2,y3⟩:=Aa a0;exact bodyPost_ret (Wv (X:=set7 w6 w.heap.size (.int .i64 q.o) (.int .i64 q.l) (.int .i64 q.k) (.int .i64 q.z) (.int .i64 q.h) (.slice q.r.a q.r.n q.r.c) (.string q.r.s)) rfl rfl ((Aa bc).sets (.int .i64 q.o) (.int .i64 q.l) (.int .i64 q.k) (.int .i64 q.z) (.int .i64 q.h) (.slice q.r.a q.r.n q.r.c) (.string q.r.s))) rfl ⟨⟨q,by rw[Aa ag];rfl,by rw[Aa ag];exact Aa a7,y1⟩,y2 hB,y3⟩
theorem QF{c P Q:Prop} [Decidable c](b:¬c)(h:Q):if c then P else Q:=by rw[if_neg b];exact h
theorem kZ(D:List Nat)(N:Nat)(t:Int)(h:0<L.length):GY L D N t=emitD L (BN D (N+1)%L.length) t:=if_neg (by omega)
theorem nM(N:Nat)(h:0<L.length):Rs L N=N+1:=if_neg (by omega)
theorem iB(g gb B m:Nat)(t i:Int)(v:Value)(ps:List PKV)(gd Bd:Nat)(D:List Nat)(N:Nat)(w:World)(ht:Tab w)(h:Aq w g gb B m t i v ps)(l:Az w gd Bd D N)(k:Bd<=w.heap.size)(p:N<=1099511627776)(d: -1099511627776<=t/\t<=1099511627776):
  Calls Tryz.prog 168 #[.pointer (some ⟨g,0,none⟩),.pointer (some ⟨gd,0,none⟩)] w fun e w'=>C2 w w' (GY (ps.map PKV.pd) D N t) e/\Az w' gd Bd D (Rs (ps.map PKV.pd) N)/\w.grownBy w' (some gd):=by
 by_cases f:0<ps.length
 ·have j:0<(ps.map PKV.pd).length:=by rw[List.length_map];exact f
  rw[kZ D N t j,nM N j,List.length_map];exact mO g gb B m t i v ps gd Bd D N w ht h l k p d f
 ·obtain rfl:ps=[]:=List.eq_nil_of_length_eq_zero (by omega)
  refine(mP g gb B m t i v _ w h).mono fun e w' b=>?_;exact⟨b.1,l.below (b.2.mono k),CN b.2 _⟩
theorem C2.row{e:Ending}(h:C2 w w' o e):∃q:PKV,e=.returned (.tuple #[q.val,.bool o.isSome])/\q.pd=o.getD EQ.pd/\RowAt w' q.r.a q.r.n q.r.xs:=by
 obtain⟨q,f,k,j⟩:=h;refine⟨q,f,k,?_⟩;obtain⟨_,_,b,l⟩:=j.row;simp only[Value.slice.injEq]at b;obtain⟨rfl,d,rfl⟩:=b;rw[d];exact l
theorem QC(h:w.grownBy w' (some g))(b:B<=w.heap.size)(d:B<=g):Below B w w':=CK h b fun k e=>by rw[<-Option.some.inj e];exact d
theorem mS(p:PKV)(w:World):Calls Tryz.prog 84 #[.pointer none,p.val] w fun e w'=>e=.returned (.bool false)/\Below w.heap.size w w':=by
 have f:=Jh w p;unfold PKV.val;generalize hW:w.alloc (.cells #[.int .i64 p.o,.int .i64 p.l,.int .i64 p.k,.int .i64 p.z,.int .i64 p.h,.slice p.r.a p.r.n p.r.c,.string p.r.s] 75)=W at*;have q:=Ab f;have A:=Ab (Cr (W:=W) (fun w' E=>(Tg w').mono fun e C x=>⟨x.1,by rw[x.2];exact Below.refl _ _⟩));clear f;go_enter Tryz.func84,Tryz.ntmps84;go_wp2_with fail;refine wp_region_quiet_below (by kernel_rfl) (by kernel_rfl) ?_
 repeat (with_reducible refine wpQuiet_step (fun K d=>?_);go_simp;first|(with_reducible refine d _ ?_;clear d K)|(refine QF (by decide) ?_;with_reducible refine d _ ?_;clear d K)|(apply Exists.intro;apply And.intro;(intro _;first|(go_at_call 86;exact Aa A _ _));with_reducible refine d _ ?_;clear d K))
 refine wpQuiet_nil ?_;intro w3 b;obtain⟨⟨u,j⟩,b⟩:=b;have y:=Ab (Ad (Aa q) (show Below W.heap.size W w3 by rw[b];exact below_regrown _ u j));clear b u j;go_wp2;go_ret;exact⟨rfl,Aa y⟩
theorem kY{d:PD}(h:GY L D N t=some d):∃b,Ig L b=some d:=by
 unfold GY at h;split at h
 ·cases h
 ·exact⟨_,h⟩
end Go.Proofs.YtfpmnekaockodaaGreatDoor
