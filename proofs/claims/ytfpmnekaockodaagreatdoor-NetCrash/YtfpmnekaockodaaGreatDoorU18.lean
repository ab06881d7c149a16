/- Laws for the proof. -/
import Derived.Test.YtfpmnekaockodaaGreatDoorU17
import Derived.Test.YtfpmnekaockodaaGreatDoorU14
set_option linter.all false
open Go.Proofs.Tryz
open Go.Value renaming int->U,string->β,slice->ε,tuple->κ,bool->ν,pointer->ξ,agg->ο
open Go.IntKind renaming i64->α
open Go.Proofs.Tryz renaming prog->γ
open Go.Ending renaming returned->δ
open Go renaming World->ζ,Calls->θ,Value->μ
open Go.Instr renaming typeAssert->η,makeInterface->π
open Go.Obj renaming cells->ι
namespace Go.Proofs.YtfpmnekaockodaaGreatDoor
open Go.RowKit Go.Sort Go.Conc
set_option maxRecDepth 4000
set_option maxHeartbeats 8000000
def F8(w:ζ)(g:Nat)(u0 u1 u2 v0 a b v3 v4 v5 c:μ):Prop:=
 (w.cell? ⟨g,0,none⟩=some u0/\w.cell? ⟨g,1,none⟩=some u1/\w.cell? ⟨g,2,none⟩=some u2)/\w.cell? ⟨g,3,none⟩=some v0/\w.cell? ⟨g,4,none⟩=some a/\w.cell? ⟨g,5,none⟩=some b/\w.cell? ⟨g,6,none⟩=some v3/\w.cell? ⟨g,7,none⟩=some v4/\w.cell? ⟨g,8,none⟩=some v5/\w.cell? ⟨g,9,none⟩=some c
def aK(w:ζ)(u0 u1 u2 v0 a b v3 v4 v5 c:μ):F8 (w.alloc (ι #[u0,u1,u2,v0,a,b,v3,v4,v5,c] 157)) w.heap.size u0 u1 u2 v0 a b v3 v4 v5 c:=by
 refine⟨⟨?_,?_,?_⟩,?_,?_,?_,?_,?_,?_,?_⟩<;>simp
def F8.below{w w':ζ}{g:Nat}{u0 u1 u2 v0 b c v3 v4 v5 d:μ}(h:F8 w g u0 u1 u2 v0 b c v3 v4 v5 d)(q:Below w.heap.size w w'):F8 w' g u0 u1 u2 v0 b c v3 v4 v5 d:=by
 obtain⟨⟨a,f,g2⟩,i,j,k,l,m,n,p⟩:=h;have e:∀o,w'.cell? ⟨g,o,none⟩=w.cell? ⟨g,o,none⟩:=fun o=>q.cell (show g<w.heap.size from World.block_lt_of_cell? w ⟨g,0,none⟩ a);exact⟨⟨(e _).trans a,(e _).trans f,(e _).trans g2⟩,(e _).trans i,(e _).trans j,(e _).trans k,(e _).trans l,(e _).trans m,(e _).trans n,(e _).trans p⟩
def pm(x:μ)(w:ζ):(π 250 x).run γ w=.ok (.iface 250 x) w:=run_makeInterface w 250 x (by kernel_rfl)
def ZK(x:μ)(w:ζ):(π 251 x).run γ w=.ok (.iface 251 x) w:=run_makeInterface w 251 x (by kernel_rfl)
def Rk(v:μ)(w:ζ):(η (.iface 250 v) 20 250 true).run γ w=.ok (κ #[v,ν true]) w:=by kernel_rfl
def Np(v:μ)(w:ζ):(η (.iface 251 v) 20 251 true).run γ w=.ok (κ #[v,ν true]) w:=by kernel_rfl
def Rj(v:μ)(w:ζ):(η (.iface 251 v) 20 250 true).run γ w=.ok (κ #[ο #[U α 0,U α 0,U α 0,U α 0,U α 0,ε none 0 0,β ⟨#[]⟩],ν false]) w:=by kernel_rfl
def bS(v:μ)(w:ζ):(η (.iface 250 v) 20 251 true).run γ w=.ok (κ #[ο #[U α 0,U α 0,U α 0,U α 0,U α 0,ε none 0 0,β ⟨#[]⟩],ν false]) w:=by kernel_rfl
def Rm(w:ζ):(η .nilIface 20 250 true).run γ w=.ok (κ #[ο #[U α 0,U α 0,U α 0,U α 0,U α 0,ε none 0 0,β ⟨#[]⟩],ν false]) w:=by kernel_rfl
def Rl(w:ζ):(η .nilIface 20 251 true).run γ w=.ok (κ #[ο #[U α 0,U α 0,U α 0,U α 0,U α 0,ε none 0 0,β ⟨#[]⟩],ν false]) w:=by kernel_rfl
def Sh(n c:Int)(w:ζ)(b:Bool)(d:TB b (0<=n/\n<=c)):
  θ γ 169 #[U α n,U α c] w fun e w'=>e=δ (ν b)/\w'=w:=by
 have a:=Ab d;clear d;by_cases f:0<=n
 ·by_cases g:n<=c
  ·go_enter func169,ntmps169
   go_wp2;go_ret;exact⟨B8 ((Aa a).yes ⟨f,g⟩).symm,rfl⟩
  ·go_enter func169,ntmps169
   go_wp2;go_ret;exact⟨B8 ((Aa a).no (fun h=>by omega)).symm,rfl⟩
 ·go_enter func169,ntmps169
  go_wp2;go_ret;exact⟨B8 ((Aa a).no (fun h=>by omega)).symm,rfl⟩
def Gv(kd:Int)(v0 a b v3 v4 v5 c:μ):μ:=if kd=1 then .iface 250 (ο #[v0,a,b,v3,v4,v5,c])else if kd=2 then .iface 251 (ο #[v0,a,b,v3,v4,v5,c])else .nilIface
def M7(v0 a b v3 v4 v5 c:μ):Gv 1 v0 a b v3 v4 v5 c=.iface 250 (ο #[v0,a,b,v3,v4,v5,c]):=rfl
def M8(v0 a b v3 v4 v5 c:μ):Gv 2 v0 a b v3 v4 v5 c=.iface 251 (ο #[v0,a,b,v3,v4,v5,c]):=rfl
def Qo{kd:Int}(a:kd≠1)(b:kd≠2)(v0 c d v3 v4 v5 e:μ):Gv kd v0 c d v3 v4 v5 e=.nilIface:=by
 unfold Gv;rw[if_neg a,if_neg b]
def Ph(kd:Int)(u1 u2 v0 b c v3 v4 v5 d:μ)(w:ζ):
  θ γ 116 #[ο #[U α kd,u1,u2,v0,b,c,v3,v4,v5,d]] w fun e w'=>e=δ (Gv kd v0 b c v3 v4 v5 d)/\Below w.heap.size w w':=by
 have a:=Ab (Bn w (ι #[U α kd,u1,u2,v0,b,c,v3,v4,v5,d] 157));have h:=pm;have i:=ZK;by_cases f:kd=1
 ·subst f
  rw[M7];go_enter func116,ntmps116;go_wp2;go_ret;exact⟨rfl,Aa a⟩
 ·by_cases g:kd=2
  ·subst g
   rw[M8];go_enter func116,ntmps116;go_wp2;go_ret;exact⟨rfl,Aa a⟩
  ·rw[Qo f g]
   go_enter func116,ntmps116;go_wp2;go_ret;exact⟨rfl,Aa a⟩
def fw(o l k z h:Int)(a:Option Addr)(n c:Nat)(xs:List Nat)(s:ByteArray)(w:ζ)(ht:Tab w)(m:RowAt w a n xs)(j:n<=1048576)(b:Bool)(i:TB b (No o l k z h xs s)):
  θ γ 170 #[.iface 250 (ο #[U α o,U α l,U α k,U α z,U α h,ε a n c,β s])] w fun e w'=>e=δ (ν b)/\Below w.heap.size w w':=by
 have u:=Ab (ht.below (Bn w (ι #[U α o,U α l,U α k,U α z,U α h,ε a n c,β s] 250)));have q:=Ab (GP m (ι #[U α o,U α l,U α k,U α z,U α h,ε a n c,β s] 250));have r:=Ab (fun wx (g:Tab wx) (f:RowAt wx a n xs)=>UO o l k z h a n c xs s 0 0 0 0 0 none 0 0 [] ⟨#[]⟩ wx g f (C8 _) j (by decide) b i);have p:=Ab (Bn w (ι #[U α o,U α l,U α k,U α z,U α h,ε a n c,β s] 250));have v:=Rk;clear i ht m j;go_enter func170,ntmps170;go_wp2_with fail;refine(Aa r _ (Aa u) (Aa q)).mono ?_;rintro e w1 ⟨rfl,d⟩;have B1:=Ab (Ad (Aa p) d);clear d;go_wp2;go_ret;exact⟨rfl,Aa B1⟩
def mF(o l k z h:Int)(a:Option Addr)(n c:Nat)(xs:List Nat)(s:ByteArray)(w:ζ)(r:RowAt w a n xs)(b:Bool)(q:TB b (Cd o l k z h xs s.size)):
  θ γ 170 #[.iface 251 (ο #[U α o,U α l,U α k,U α z,U α h,ε a n c,β s])] w fun e w'=>e=δ (ν b)/\Below w.heap.size w w':=by
 obtain⟨ck,d⟩:=Nl (Cd o l k z h xs s.size);have m:=Ab q;have i:=Ab d;have p:=Ab (ES o l k z h a n c xs s _ (GP r (ι #[U α o,U α l,U α k,U α z,U α h,ε a n c,β s] 251)) ck d);have u:=Ab (Bn w (ι #[U α o,U α l,U α k,U α z,U α h,ε a n c,β s] 251));have v:=Rj;have x:=Np;clear q r d;go_enter func170,ntmps170;go_wp2_with fail;refine(Aa p).mono ?_;rintro e w1 ⟨rfl,g⟩;have B1:=Ab (Ad (Aa u) g);clear g p;rcases(Aa i)with⟨f,rfl⟩|⟨f,rfl⟩
 ·have j:=Ab f
  clear f i;go_wp2;go_ret;exact⟨B8 ((Aa m).yes (Aa j)).symm,Aa B1⟩
 ·have j:=Ab f
  clear f i;go_wp2;go_ret;exact⟨B8 ((Aa m).no (Aa j)).symm,Aa B1⟩
def mG(w:ζ):θ γ 170 #[.nilIface] w fun e w'=>e=δ (ν false)/\w'=w:=by
 have a:=Rm;have b:=Rl;go_enter func170,ntmps170;go_wp2;go_ret;exact⟨rfl,rfl⟩
def ly(kd o l k z h:Int)(a:Option Addr)(n c:Nat)(xs:List Nat)(s:ByteArray)(w:ζ)(ht:Tab w)(i:RowAt w a n xs)(m:n<=1048576)(b:Bool)(d:TB b (IN kd o l k z h xs s)):
  θ γ 170 #[Gv kd (U α o) (U α l) (U α k) (U α z) (U α h) (ε a n c) (β s)] w fun e w'=>e=δ (ν b)/\Below w.heap.size w w':=by
 by_cases f:kd=1
 ·subst f
  rw[M7];refine fw o l k z h a n c xs s w ht i m b ⟨fun h=>?_,fun h=>d.2 (.inl ⟨rfl,h⟩)⟩;rcases d.1 h with h|h
  ·exact h.2
  ·exact absurd h.1 (by decide)
 ·by_cases g:kd=2
  ·subst g
   rw[M8];refine mF o l k z h a n c xs s w i b ⟨fun h=>?_,fun h=>d.2 (.inr ⟨rfl,h⟩)⟩;rcases d.1 h with h|h
   ·exact absurd h.1 (by decide)
   ·exact h.2
  ·rw[Qo f g]
   refine(mG w).mono fun e w' ⟨j,p⟩=>⟨?_,by rw[p];exact Below.refl _ _⟩;rw[j,d.no (fun h=>by rcases Yh h with h|h;exact f h;exact g h)]
def gV(kd fr ic o l k z h:Int)(a:Option Addr)(n c:Nat)(xs:List Nat)(s:ByteArray)(w:ζ)(ht:Tab w)(I:RowAt w a n xs)(H:n<=1048576)(en:Nat)(g:EN en (Nf kd fr ic o l k z h xs s)):
  θ γ 146 #[ο #[U α kd,U α fr,U α ic,U α o,U α l,U α k,U α z,U α h,ε a n c,β s]] w fun e w'=>e=δ (U α ((en:Nat):Int))/\Below w.heap.size w w':=by
 obtain⟨A,D⟩:=EZ (0<=fr/\fr<=7);obtain⟨B,E⟩:=EZ (0<=ic/\ic<=4294967295);obtain⟨C,r⟩:=EZ (IN kd o l k z h xs s);have p:=Ab D;have q:=Ab E;have y:=Ab r;have j:=Ab g;have K:=Ab (fun wx (v:Tab wx) (u:RowAt wx a n xs)=>ly kd o l k z h a n c xs s wx v u H C r);have J:=Ab (fun wx=>Ph kd (U α fr) (U α ic) (U α o) (U α l) (U α k) (U α z) (U α h) (ε a n c) (β s) wx);have N:=Ab ht;have L:=Ab I;have m:=Ab (Bn w (ι #[U α kd,U α fr,U α ic,U α o,U α l,U α k,U α z,U α h,ε a n c,β s] 157));generalize Gv kd (U α o) (U α l) (U α k) (U α z) (U α h) (ε a n c) (β s)=V at*;clear D E r g ht I H;go_enter func146,ntmps146;go_wp2_with fail;refine(Sh fr 7 _ A (Aa p)).mono ?_;rintro e w' ⟨rfl,i⟩;obtain rfl:=i.symm;clear i;cases A
 ·rcases(Aa j)with⟨b,rfl⟩|⟨b,rfl⟩
  ·exact absurd ((Aa p).2 b.1) (by decide)
  ·clear b
   go_wp2;go_ret;exact⟨rfl,Aa m⟩
 ·go_wp2_with fail
  refine(Sh ic 4294967295 _ B (Aa q)).mono ?_;rintro e w' ⟨rfl,i⟩;obtain rfl:=i.symm;clear i;cases B
  ·rcases(Aa j)with⟨b,rfl⟩|⟨b,rfl⟩
   ·exact absurd ((Aa q).2 b.2.1) (by decide)
   ·clear b
    go_wp2;go_ret;exact⟨rfl,Aa m⟩
  ·go_wp2_with fail
   refine(Aa J _).mono ?_;rintro e w1 ⟨rfl,d⟩;have B1:=Ab (Ad (Aa m) d);clear d;go_wp2_with fail;refine(Aa K _ ((Aa N).below (Aa B1)) ((Aa L).below (Aa B1))).mono ?_;rintro e w2 ⟨rfl,f⟩;have x:=Ab (Ad (Aa B1) f);clear f;cases C
   ·rcases(Aa j)with⟨b,rfl⟩|⟨b,rfl⟩
    ·exact absurd ((Aa y).2 b.2.2) (by decide)
    ·clear b
     go_wp2;go_ret;exact⟨rfl,Aa x⟩
   ·rcases(Aa j)with⟨b,rfl⟩|⟨b,rfl⟩
    ·clear b
     go_wp2;go_ret;exact⟨rfl,Aa x⟩
    ·exact absurd ⟨(Aa p).1 rfl,(Aa q).1 rfl,(Aa y).1 rfl⟩ b
def aE(o l k z h:Int)(xs:List Nat)(s:ByteArray):
  st (BB o 4)++st (BB l 4)++st (BB k 1)++st (BB z 1)++st (BB h 1)++st (CH xs)++s=st (BJ o l k z h xs (tx s)):=by
 apply Jj;rw[Dv (Ko _ _ _ _ _ _ _ (Cg s))];simp only[Us,Dv (GQ _ _),Dv (Ua _),BJ]
def OX(n:Int):(st (BB n 4)).size=4:=by rw[Dq,Fy,CX]
def KN(n:Int):(st (BB n 1)).size=1:=by rw[Dq,D9,CX]
def cH{a b:ByteArray}{x:Int}(h:a=b):Ending.returned (κ #[β a,U α x])=δ (κ #[β b,U α x]):=by rw[h]
def WJ(o l k z h:Int)(a:Option Addr)(n c:Nat)(xs:List Nat)(s:ByteArray)(w:ζ)(B:RowAt w a n xs)(y:Cd o l k z h xs s.size):
  θ γ 156 #[ο #[U α o,U α l,U α k,U α z,U α h,ε a n c,β s]] w fun e w'=>e=δ (κ #[β (st (BJ o l k z h xs (tx s))),U α 0])/\Below w.heap.size w w':=by
 have hn:n<=2:=by have:=L7 y.2.1;have:=B.1;omega
 have hs:s.size<=64:=by have:=y.2.2.2;have:=y.1.1.2.2;omega
 have hv:(st (CH xs)).size<=16:=by rw[Dq,JA,B.1];omega
 have E:=Ab (Bn w (ι #[U α o,U α l,U α k,U α z,U α h,ε a n c,β s] 75));have H:=Ab (ES o l k z h a n c xs s _ (GP B (ι #[U α o,U α l,U α k,U α z,U α h,ε a n c,β s] 75)) 0 (.inl ⟨y,rfl⟩));have J:=Ab (Fq w (U α o) (U α l) (U α k) (U α z) (U α h) (ε a n c) (β s));have I:=Ab (GP B (ι #[U α o,U α l,U α k,U α z,U α h,ε a n c,β s] 75));have Q:=Ab (aE o l k z h xs s);have p1:=OX o;have p2:=OX l;have p3:=KN k;have p4:=KN z;have p5:=KN h;have R:=Ab (fun w'=>IA o 4 w');have S:=Ab (fun w'=>IA l 4 w');have V:=Ab (fun w'=>IA k 1 w');have X:=Ab (fun w'=>IA z 1 w');have Y:=Ab (fun w'=>IA h 1 w');have Z:=Ab (fun w' D=>iy a n c xs w' D (by omega));generalize st (BJ o l k z h xs (tx s))=T at*;generalize st (BB o 4)=q at*;generalize st (BB l 4)=r at*;generalize st (BB k 1)=t3 at*;generalize st (BB z 1)=t4 at*;generalize st (BB h 1)=t5 at*;generalize st (CH xs)=N at*;have q2:(9223372036854775807<q.size+r.size)=False:=eq_false (by omega);have q3:(9223372036854775807<q.size+r.size+t3.size)=False:=eq_false (by omega);have q4:(9223372036854775807<q.size+r.size+t3.size+t4.size)=False:=eq_false (by omega);have q5:(9223372036854775807<q.size+r.size+t3.size+t4.size+t5.size)=False:=eq_false (by omega);have q6:(9223372036854775807<q.size+r.size+t3.size+t4.size+t5.size+N.size)=False:=eq_false (by omega);have q7:(9223372036854775807<q.size+r.size+t3.size+t4.size+t5.size+N.size+s.size)=False:=eq_false (by omega);clear B y p1 p2 p3 p4 p5 hn hs hv;go_enter func156,ntmps156;go_wp2_with fail;refine(Aa H).mono ?_;rintro e w1 ⟨rfl,g⟩;have b:=Ab ((Aa J).below g);have u:=Ab ((Aa I).below g);have B1:=Ab (Ad (Aa E) g);clear g H E J I;have k0:=cell_regrown (Aa b).1;have k1:=cell_regrown (Aa b).2.1;have k2:=cell_regrown (Aa b).2.2.1;have k3:=cell_regrown (Aa b).2.2.2.1;have k4:=cell_regrown (Aa b).2.2.2.2.1
 have c1:=Cf (W:=w1) (fun w' p=>Aa R w');have c2:=Cf (W:=w1) (fun w' p=>Aa S w');have c3:=Cf (W:=w1) (fun w' p=>Aa V w');have c4:=Cf (W:=w1) (fun w' p=>Aa X w');have c5:=Cf (W:=w1) (fun w' p=>Aa Y w');go_wp2_with fail;refine wp_region_quiet_below (by kernel_rfl) (by kernel_rfl) ?_
 repeat (with_reducible refine wpQuiet_step (fun K f=>?_);go_simp;first|(with_reducible refine f _ ?_;clear f K)|(apply Exists.intro;apply And.intro;(intro _;go_at_call 147;first|with_reducible exact c1 _ _|with_reducible exact c2 _ _|with_reducible exact c3 _ _|with_reducible exact c4 _ _|with_reducible exact c5 _ _);with_reducible refine f _ ?_;clear f K))
 refine wpQuiet_nil ?_;intro w2 j;obtain⟨⟨x,d⟩,j⟩:=j;have i:Below w1.heap.size w1 w2:=by rw[j];exact below_regrown _ x d
 clear j k0 k1 k2 k3 k4 c1 c2 c3 c4 c5 x d;have v:=Ab ((Aa b).below i);have C:=Ab ((Aa u).below i);have O:=Ab (Ad (Aa B1) i);clear i b u B1;have k5:=cell_regrown (Aa v).2.2.2.2.2.1;have k6:=cell_regrown (Aa v).2.2.2.2.2.2;have L:=Cf (W:=w2) (fun w' p=>Aa Z w' ((Aa C).below p));go_wp2_with fail;refine wp_region_quiet_below (by kernel_rfl) (by kernel_rfl) ?_
 repeat (with_reducible refine wpQuiet_step (fun K f=>?_);go_simp;first|(with_reducible refine f _ ?_;clear f K)|(apply Exists.intro;apply And.intro;(intro _;go_at_call 181;exact L _ _);with_reducible refine f _ ?_;clear f K))
 refine wpQuiet_nil ?_;intro w3 m;obtain⟨⟨x,d⟩,m⟩:=m;have A:Below w2.heap.size w2 w3:=by rw[m];exact below_regrown _ x d
 clear m k5 k6 L x d;have P:=Ab (Ad (Aa O) A);clear A;go_wp2;go_ret2;exact⟨cH (Aa Q),Aa P⟩
def YM(kd fr ic:Int)(B:ByteArray):st (BB kd 1)++st (BB fr 1)++st (BB ic 4)++B=st (DO kd fr ic (tx B)):=by
 apply Jj;rw[Dv (Se _ _ _ _ (Cg B))];simp only[Us,Dv (GQ _ _),DO]
def WT{kd o l k z h:Int}{xs:List Nat}{s:ByteArray}(a:IN kd o l k z h xs s):(Fu kd o l k z h xs s).size<=91:=by
 rcases a with⟨rfl,_⟩|⟨rfl,a⟩
 ·rw[Pi]
  decide
 ·rw[Mt,enc_size]
  have b:=L7 a.2.1;have c:=a.2.2.2;have d:=a.1.1.2.2;omega
def fo(kd o l k z h:Int)(a:Option Addr)(n c:Nat)(xs:List Nat)(s:ByteArray)(w:ζ)(f:RowAt w a n xs)(d:IN kd o l k z h xs s):
  θ γ 149 #[Gv kd (U α o) (U α l) (U α k) (U α z) (U α h) (ε a n c) (β s)] w fun e w'=>e=δ (β (Fu kd o l k z h xs s))/\Below w.heap.size w w':=by
 rcases d with⟨rfl,_⟩|⟨rfl,d⟩
 ·rw[M7,Pi]
  have j:=bS;go_enter func149,ntmps149;go_wp2;go_ret;exact⟨rfl,Below.refl _ _⟩
 ·rw[M8,Mt]
  have i:=Ab (WJ o l k z h a n c xs s _ (GP f (ι #[U α o,U α l,U α k,U α z,U α h,ε a n c,β s] 251)) d);have g:=Ab (Bn w (ι #[U α o,U α l,U α k,U α z,U α h,ε a n c,β s] 251));generalize st (BJ o l k z h xs (tx s))=T at*;have j:=Np;clear f d;go_enter func149,ntmps149;go_wp2_with fail;refine(Aa i).mono ?_;rintro e w1 ⟨rfl,b⟩;have B1:=Ab (Ad (Aa g) b);clear b;go_wp2;go_ret;exact⟨rfl,Aa B1⟩
def qe(kd fr ic o l k z h:Int)(a:Option Addr)(n c:Nat)(xs:List Nat)(s:ByteArray)(w:ζ)(ht:Tab w)(D:RowAt w a n xs)(P:n<=1048576)(y:Nf kd fr ic o l k z h xs s):
  θ γ 111 #[ο #[U α kd,U α fr,U α ic,U α o,U α l,U α k,U α z,U α h,ε a n c,β s]] w fun e w'=>e=δ (κ #[β (Fv kd fr ic o l k z h xs s),U α 0])/\Below w.heap.size w w':=by
 have j:=Ab (Bn w (ι #[U α kd,U α fr,U α ic,U α o,U α l,U α k,U α z,U α h,ε a n c,β s] 157));have H:=Ab (gV kd fr ic o l k z h a n c xs s _ (ht.below (Aa j)) (D.below (Aa j)) P 0 (.inl ⟨y,rfl⟩));have J:=Ab (aK w (U α kd) (U α fr) (U α ic) (U α o) (U α l) (U α k) (U α z) (U α h) (ε a n c) (β s));have I:=Ab (D.below (Aa j));have N:=YM kd fr ic (Fu kd o l k z h xs s);have p1:=KN kd;have p2:=KN fr;have p3:=OX ic;have p4:=WT y.2.2;have Y:=Ab (fun w'=>IA kd 1 w');have Z:=Ab (fun w'=>IA fr 1 w');have P3:=Ab (fun w'=>IA ic 4 w');have P4:=Ab (fun w' E=>fo kd o l k z h a n c xs s w' E y.2.2);have P5:=Ab (fun wx=>Ph kd (U α fr) (U α ic) (U α o) (U α l) (U α k) (U α z) (U α h) (ε a n c) (β s) wx);generalize Gv kd (U α o) (U α l) (U α k) (U α z) (U α h) (ε a n c) (β s)=V at*;unfold Fv;rw[<-N];clear N;generalize Fu kd o l k z h xs s=t4 at*;generalize st (BB kd 1)=u at*;generalize st (BB fr 1)=v at*;generalize st (BB ic 4)=t3 at*;have P6:=Ab (fun wx=>kZ (u++v++t3++t4) wx (by simp only[ByteArray.size_append];omega));generalize Ea (u++v++t3++t4)=T at*;have q2:(9223372036854775807<u.size+v.size)=False:=eq_false (by omega);have q3:(9223372036854775807<u.size+v.size+t3.size)=False:=eq_false (by omega);have q4:(9223372036854775807<u.size+v.size+t3.size+t4.size)=False:=eq_false (by omega);clear D y p1 p2 p3 p4 P ht;go_enter func111,ntmps111;go_wp2_with fail;refine(Aa H).mono ?_;rintro e w1 ⟨rfl,d⟩;have b:=Ab ((Aa J).below d);have m:=Ab ((Aa I).below d);have B1:=Ab (Ad (Aa j) d);clear d H j J I;have k0:=cell_regrown (Aa b).1.1;have k1:=cell_regrown (Aa b).1.2.1;have k2:=cell_regrown (Aa b).1.2.2;have c1:=Cf (W:=w1) (fun w' O=>Aa Y w');have c2:=Cf (W:=w1) (fun w' O=>Aa Z w');have c3:=Cf (W:=w1) (fun w' O=>Aa P3 w');go_wp2_with fail
 refine wp_region_quiet_below (by kernel_rfl) (by kernel_rfl) ?_
 repeat (with_reducible refine wpQuiet_step (fun K x=>?_);go_simp;first|(with_reducible refine x _ ?_;clear x K)|(apply Exists.intro;apply And.intro;(intro _;go_at_call 147;first|with_reducible exact c1 _ _|with_reducible exact c2 _ _|with_reducible exact c3 _ _);with_reducible refine x _ ?_;clear x K))
 refine wpQuiet_nil ?_;intro w2 g;obtain⟨⟨L,r⟩,g⟩:=g;have f:Below w1.heap.size w1 w2:=by rw[g];exact below_regrown _ L r
 clear g k0 k1 k2 c1 c2 c3 L r;have C:=Ab ((Aa b).below f);have A:=Ab ((Aa m).below f);have Q:=Ab (Ad (Aa B1) f);clear f b m B1;obtain⟨⟨g0,g1,g2⟩,g3,g4,g5,g6,g7,g8,g9⟩:=Aa C;go_wp2_with fail;refine(Aa P5 _).mono ?_;rintro e w3 ⟨rfl,i⟩;have B:=Ab ((Aa A).below i);have R:=Ab (Ad (Aa Q) i);clear i g0 g1 g2 g3 g4 g5 g6 g7 g8 g9;go_wp2_with fail;refine(Aa P4 _ (Aa B)).mono ?_;rintro e w4 ⟨rfl,p⟩;have S:=Ab (Ad (Aa R) p);clear p;go_wp2_with fail;refine(Aa P6 _).mono ?_;rintro e w5 ⟨rfl,q⟩;have X:=Ab (Ad (Aa S) q);clear q;go_wp2;go_ret2;exact⟨rfl,Aa X⟩
def Br.ok(f:Br):Prop:=Nf f.kd f.fr f.ic f.p.o f.p.l f.p.k f.p.z f.p.h f.p.r.xs f.p.r.s
def Br.enc(f:Br):ByteArray:=Fv f.kd f.fr f.ic f.p.o f.p.l f.p.k f.p.z f.p.h f.p.r.xs f.p.r.s
def Br.enc_size{f:Br}(h:f.ok):f.enc.size<=1048576:=by
 have a:=WT h.2.2;unfold Br.enc Fv;rw[KK,Dq,TG,AR];omega
def Vd(f:Br)(w:ζ)(ht:Tab w)(g:RowAt w f.p.r.a f.p.r.n f.p.r.xs)(d:f.p.r.n<=1048576)(b:f.ok):
  θ γ 111 #[f.val] w fun e w'=>e=δ (κ #[β f.enc,U α 0])/\Below w.heap.size w w':=
 qe f.kd f.fr f.ic f.p.o f.p.l f.p.k f.p.z f.p.h f.p.r.a f.p.r.n f.p.r.c f.p.r.xs f.p.r.s w ht g d b
def ll(g gb gq c lo:Nat)(M q v:Int)(L:List ByteArray)(f:Br)(w:ζ)(h:Au w g gb gq c M q v L lo)(ht:Tab w)(y:RowAt w f.p.r.a f.p.r.n f.p.r.xs)(x:f.p.r.n<=1048576)(k:f.ok)(E:L.length<capN q):
  θ γ 79 #[ξ (some ⟨g,0,none⟩),f.val] w fun e w'=>e=δ (U α 0)/\Au w' g gb gq c M q v (L++[f.enc]) lo/\Tu (lkF g gb gq c) w w':=by
 have u:=Ab (fun wx (m:Tab wx) (l:RowAt wx f.p.r.a f.p.r.n f.p.r.xs)=>Vd f wx m l x k);have B:=Ab (Br.enc_size k);have C:=Ab ht;have A:=Ab y;have H:=Ab h;generalize f.enc=s at*;clear ht y x k h;simp only[Br.val]at u⊢;go_enter func79,ntmps79
 go_wp2_with (first
  |(go_at_call 111;refine(Aa u _ ((Aa C).below (Bn _ _)) ((Aa A).below (Bn _ _))).mono ?_;rintro e w1 ⟨rfl,d⟩;have o:=Ab (Ad (Bn _ _) d);clear d;have j:=Ab ((Aa H).below (Aa o));have c3:=(Aa j).blk.at 3 rfl)
  |(go_at_call 112;refine(ml _ _ _ _ _ _ _ (Aa j).qu (Aa B) E).mono ?_;rintro e w2 ⟨rfl,i,b⟩;have z:=Ab ((Aa j).que i b);have D:=Ab (Tu.after (Aa o) (Ni (g:=g) (gb:=gb) b));clear i b)
  |fail)
 go_ret;exact⟨rfl,Aa z,Aa D⟩
def ez(g gb gq c lo:Nat)(M q x:Int)(L:List ByteArray)(f:Br)(w:ζ)(h:Au w g gb gq c M q x L lo)(ht:Tab w)(z:RowAt w f.p.r.a f.p.r.n f.p.r.xs)(y:f.p.r.n<=1048576)(k:f.ok)(I:capN q<=L.length)(l:lo<=1099511627776):
  θ γ 79 #[ξ (some ⟨g,0,none⟩),f.val] w fun e w'=>e=δ (U α 5)/\Au w' g gb gq c M q x L (lo+1)/\Tu (lkF g gb gq c) w w':=by
 have v:=Ab (fun wx (o:Tab wx) (m:RowAt wx f.p.r.a f.p.r.n f.p.r.xs)=>Vd f wx o m y k);have C:=Ab (Br.enc_size k);have D:=Ab ht;have B:=Ab z;have H:=Ab h;generalize f.enc=s at*;clear ht z y k h;simp only[Br.val]at v⊢;go_enter func79,ntmps79
 go_wp2_with (first
  |(go_at_call 111;refine(Aa v _ ((Aa D).below (Bn _ _)) ((Aa B).below (Bn _ _))).mono ?_;rintro e w1 ⟨rfl,d⟩;have u:=Ab (Ad (Bn _ _) d);clear d;have j:=Ab ((Aa H).below (Aa u));have c3:=(Aa j).blk.at 3 rfl)
  |(go_at_call 112;refine(rO _ _ _ _ _ _ _ (Aa j).qu (Aa C) I l).mono ?_;rintro e w2 ⟨rfl,i,b⟩;have A:=Ab ((Aa j).que i b);have E:=Ab (Tu.after (Aa u) (Ni (g:=g) (gb:=gb) b));clear i b)
  |fail)
 go_ret;exact⟨rfl,Aa A,Aa E⟩
def jP(g gb gq c lo:Nat)(M q d n:Int)(L:List ByteArray)(w:ζ)(h:Au w g gb gq c M q d L lo):
  θ γ 76 #[ξ (some ⟨g,0,none⟩),U α n] w fun e w'=>e=δ (κ #[])/\Au w' g gb gq c M q (Gw M (1000*Bu q 1 256) d n) L lo/\Tu (lkF g gb gq c) w w':=by
 have c2:=h.blk.at 2 rfl;have H:=Ab h;have i:=Ab (ip gb M (1000*Bu q 1 256) d n w h.bt);generalize Gw M (1000*Bu q 1 256) d n=Z at*;clear h;go_enter func76,ntmps76
 go_wp2_with (first
  |(go_at_call 105;refine(Aa i).mono ?_;rintro e w2 ⟨rfl,b,a⟩;have f:=Ab ((Aa H).lev b a);have j:=Ab (Rg (g:=g) (gq:=gq) (c:=c) a);clear b a)
  |fail)
 go_end0;exact⟨rfl,Aa f,Aa j⟩
def eL(g gb gq c lo k:Nat)(M q b:Int)(L:List ByteArray)(w:ζ)(h:Au w g gb gq c M q b L lo)(d:L.length=k):
  θ γ 89 #[ξ (some ⟨g,0,none⟩)] w fun e w'=>e=δ (U α (k:Int))/\w'=w:=by
 subst d;have c3:=h.blk.at 3 rfl;have H:=Ab h;clear h;go_enter func89,ntmps89
 go_wp2_with (first
  |(go_at_call 129;refine(Mi _ _ _ _ _ _ (Aa H).qu).mono ?_;rintro e w1 ⟨rfl,a⟩;obtain rfl:=a.symm;clear a)
  |fail)
 go_ret;exact⟨rfl,rfl⟩
def eK(g gb gq c lo:Nat)(M q b:Int)(w:ζ)(h:Au w g gb gq c M q b [] lo):
  θ γ 107 #[ξ (some ⟨g,0,none⟩)] w fun e w'=>e=δ (ν false)/\w'=w:=by
 have c3:=h.blk.at 3 rfl;have H:=Ab h;clear h;go_enter func107,ntmps107
 go_wp2_with (first
  |(go_at_call 129;refine(Mi _ _ _ _ _ _ (Aa H).qu).mono ?_;rintro e w1 ⟨rfl,a⟩;obtain rfl:=a.symm;clear a)
  |fail)
 go_ret;exact⟨rfl,rfl⟩
def jN(g gb gq c lo:Nat)(M q b:Int)(L:List ByteArray)(w:ζ)(h:Au w g gb gq c M q b L lo)(i:0<L.length)(f:b<1000):
  θ γ 107 #[ξ (some ⟨g,0,none⟩)] w fun e w'=>e=δ (ν false)/\w'=w:=by
 have c2:=h.blk.at 2 rfl;have c3:=h.blk.at 3 rfl;have H:=Ab h;have j:(L.length:Int)>0:=by omega
 have d:=Ab (Mi _ _ _ _ _ _ h.qu);generalize L.length=n at*;clear h;go_enter func107,ntmps107
 go_wp2_with (first
  |(go_at_call 129;refine(Aa d).mono ?_;rintro e w1 ⟨rfl,a⟩;obtain rfl:=a.symm;clear a)
  |(go_at_call 142;refine(md _ _ _ _ _ (Aa H).bt f).mono ?_;rintro e w1 ⟨rfl,a⟩;obtain rfl:=a.symm;clear a)
  |fail)
 go_ret;exact⟨rfl,rfl⟩
def fj(g gb gq c lo:Nat)(M q f:Int)(L:List ByteArray)(w:ζ)(h:Au w g gb gq c M q f L lo)(p:0<L.length)(o:1000<=f):
  θ γ 107 #[ξ (some ⟨g,0,none⟩)] w fun e w'=>e=δ (ν true)/\Au w' g gb gq c M q (f-1000) L lo/\Tu (lkF g gb gq c) w w':=by
 have c2:=h.blk.at 2 rfl;have c3:=h.blk.at 3 rfl;have H:=Ab h;have r:(L.length:Int)>0:=by omega
 have j:=Ab (Mi _ _ _ _ _ _ h.qu);have l:=Ab (fun wx m ht=>h.lev (w':=wx) (Lv':=f-1000) m ht);generalize L.length=n at*;clear h;go_enter func107,ntmps107
 go_wp2_with (first
  |(go_at_call 129;refine(Aa j).mono ?_;rintro e w1 ⟨rfl,d⟩;obtain rfl:=d.symm;clear d)
  |(go_at_call 142;refine(io _ _ _ _ _ (Aa H).bt o).mono ?_;rintro e w2 ⟨rfl,b,a⟩;have i:=Ab (Aa l _ b a);have k:=Ab (Rg (g:=g) (gq:=gq) (c:=c) a);clear b a)
  |fail)
 go_ret;exact⟨rfl,Aa i,Aa k⟩
end Go.Proofs.YtfpmnekaockodaaGreatDoor
