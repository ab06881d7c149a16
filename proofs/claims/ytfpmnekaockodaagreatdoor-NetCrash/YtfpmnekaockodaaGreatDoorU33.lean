/- Laws for the proof. -/
import Derived.Test.YtfpmnekaockodaaGreatDoorU32
set_option linter.all false
open Go.Proofs.Tryz
open Go.Value renaming pointer->U,int->β,slice->ε
open Option renaming none->α,some->δ
open Go.IntKind renaming i64->γ
open Go.RowKit renaming Below->ζ
open Option.some renaming inj->η
open Go.Proofs.Tryz renaming prog->θ
open Go renaming World->ι
open Nat renaming le_trans->κ
namespace Go.Proofs.YtfpmnekaockodaaGreatDoor
open Go.RowKit Go.Sort
set_option maxRecDepth 4000
set_option maxHeartbeats 8000000
variable {p:Bi}{w w3:ι}
def qR(t:Int)(W w:ι)(b:ζ W.heap.size W w):Calls θ 70 #[β γ t] w fun e w'=> ∃g,e=.returned (U (δ ⟨g,0,α⟩))/\Hid (A2 w' g (CF t) (List.replicate 16 0)/\W.heap.size<=g/\ζ W.heap.size W w'/\ζ w.heap.size w w'):=
 (lP t w).mono fun e w' ⟨d,c,a⟩=>⟨_,d,Ab ⟨c,b.size,Ad b a,a⟩⟩
def qw(n:Int)(W w:ι)(c:ζ W.heap.size W w):Calls θ 71 #[β γ n] w fun e w'=> ∃g b,e=.returned (U (δ ⟨g,0,α⟩))/\Hid (AW w' g b (capN n) 0 []/\(W.heap.size<=g/\W.heap.size<=b)/\ζ W.heap.size W w'/\ζ w.heap.size w w'):=
 (oC n w).mono fun e w' ⟨g,b,i,f,a,h,d⟩=>⟨g,b,i,Ab ⟨h,⟨κ c.size f,κ c.size a⟩,Ad c d,d⟩⟩
def Xp(w:ι)(g:Nat)(u0 u1 u2 u3 u4:Value):Tu (fun j=>j=g) w (((((w.setCell ⟨g,0,α⟩ u0).setCell ⟨g,1,α⟩ u1).setCell ⟨g,2,α⟩ u2).setCell ⟨g,3,α⟩ u3).setCell ⟨g,4,α⟩ u4):=
 ((((A8 w g 0 u0).trans (A8 _ g 1 u1) fun _ _ e=>e).trans (A8 _ g 2 u2) fun _ _ e=>e).trans (A8 _ g 3 u3) fun _ _ e=>e).trans (A8 _ g 4 u4) fun _ _ e=>e
def ro{g gb gq c:Nat}{lv:Int}{L:List ByteArray}{lo:Nat}(h:w.drew.heap.size<=g/\w.drew.heap.size<=gb/\w.drew.heap.size<=gq/\w.drew.heap.size<=c):∀j,(⟨g,gb,gq,c,lv,L,lo⟩:AH).F j->w.heap.size<=j:=fun j a=>by
 rcases a with rfl|rfl|rfl|rfl
 ·exact h.1
 ·exact h.2.1
 ·exact h.2.2.1
 ·exact h.2.2.2
def Jq{v:Value}(h:∃a n c,v=ε a n c)(a b c d:Option Addr):∀u∈[v,.pointer a,.pointer b,.pointer c,.pointer d],u.oneCell'=true:=fun u e=>by
 obtain⟨_,_,_,rfl⟩:=h;simp only[List.mem_cons,List.not_mem_nil,or_false]at e;rcases e with h|h|h|h|h<;>(rw[h];rfl)
def pG(M:Int)(w:ι):Calls θ 74 #[β γ M] w fun e w'=> ∃g,e=.returned (U (δ ⟨g,0,α⟩))/\Ao w' g w.heap.size M CQ g (ε none 0 0) []/\ζ w.heap.size w w':=
 (kh M w).mono fun e w' ⟨c,a,b⟩=>⟨_,c,a,b⟩
def Qn{wr w1 w2:ι}{q:Nat}{s f:AU}(h:GC w wr q p s)(a:ζ wr.heap.size wr w1)(d:Ag w1 w.heap.size p f)(i:Tu (fun j=>j=q) w1 w2)(k:Tu (fun j=>j=w.heap.size+1) w2 w3):Ag w3 w.heap.size p f/\ζ w.heap.size w w3:=by
 have c:Tu (fun j=>j=q\/j=w.heap.size+1) w1 w3:=((Tu.refl _ w1).trans i fun j _ e=>.inl e).trans k fun j _ e=>.inr e;have m:=(h.blk.below a).kd;have n:=(h.res.below a).kd;have l:=h.qlo;refine⟨d.tu c (fun j b e=>?_) fun j b e=>?_,Ad h.low a|>.trans (c.below (Ad h.low a).size fun j b e=>by omega)⟩
 ·have:=d.kd j b
  rcases e with rfl|rfl<;>omega
 ·rcases e with rfl|rfl<;>omega
def Js(gm gc gcm:Nat):AU:=⟨ε none 0 0,[],gm,List.replicate 16 0,gc,gcm,0,[],α,α⟩
def Pg{W w2:ι}{q gm gc gcm:Nat}(H:W.heap.size=w.heap.size+1+1)(C:BkA 120 W (w.heap.size+1) [ε none 0 0,U none,U none,U none,U none])(D:BkA 110 W w.heap.size (Lw p))(y:ζ w.heap.size w W)(n:ζ W.heap.size W w2)
  (s:A2 w2 gm (CF p.timeout) (List.replicate 16 0)) (A:W.heap.size<=gm) (m:AW w2 gc gcm (capN p.cache) 0 []) (z:W.heap.size<=gc/\W.heap.size<=gcm) (E:W.heap.size<=q) (l:BkA 120 w3 q (E8 (Js gm gc gcm))) (c:ζ w2.heap.size w2 w3\/(Tu (fun j=>j=q) w2 w3/\∃cs,BkA 120 w2 q cs)):GC w w3 q p (Js gm gc gcm):=by
 obtain⟨ht,x⟩:∃(ht:Tu (fun j=>j=q) w2 w3),∀j,j<w2.heap.size->kdB w2 j≠120+2->j≠q\/w3.heap[j]? =w2.heap[j]? :=by
  rcases c with c|⟨c,cs,u⟩
  ·exact⟨Tu.of_below c,fun j f _=>.inr (c.block j f)⟩
  ·exact⟨c,fun j f l=>.inl fun e=>l (by rw[e];exact u.kd)⟩
 have b:∀j,j<w2.heap.size->kdB w2 j≠120+2->w3.heap[j]? =w2.heap[j]? :=fun j f l=>(x j f l).elim (fun e=>ht.block j f e) id;have o:Tu (fun j=>kdB w2 j=120+2) w2 w3:=⟨ht.os,ht.tape,ht.output,ht.size,b⟩;have s2:=n.size;have a:ζ W.heap.size W w3:=n.trans (ht.below s2 fun j f e=>by omega);refine⟨D.below a,C.below a,l,by omega,⟨Bh.nil _ _,fun i h=>absurd h (by show¬i<0;omega),fun i k h=>absurd h (by show¬i<0;omega),s.tu o fun e=>?_,by show w.heap.size<=gm;omega,m.tu o (fun e=>?_) fun e=>?_,fun j e=>?_,fun r e=>(by cases e),fun d e=>(by cases e)⟩,Ad y a,⟨fun i h=>absurd h (by show¬i<0;omega),rfl,rfl,rfl⟩,rfl,rfl⟩
 ·have:=s.blk.kd;omega
 ·have:=m.kd _ (.inl rfl);omega
 ·have:=m.kd _ (.inr rfl);omega
 ·rcases e with e|e
  ·have:j=gc:=e;omega
  ·have:j=gcm:=e;omega
def R9(p:Bi)(a:Option Addr)(m c:Nat)(w:ι)(hr:p.rate<18446744073709551616)(hv:p.tv=ε a m c)(hm:m<=1000000):
  Calls θ 40 #[.agg #[β γ p.kd,β γ p.buffer,β γ p.queue,β γ p.cache,β γ p.timeout,β γ p.target,.float .f64 p.rate,p.tv]] w fun e w'=> ∃s:AU,e=.returned (.agg #[s.lv,U (δ ⟨s.gm,0,α⟩),U (δ ⟨s.gc,0,α⟩),.pointer (ptrR s.rl),.pointer (ptrC s.dc)])/\Ag w' w.heap.size p s/\Gx p s/\s.ls.length=m/\ζ w.heap.size w w':=by
 obtain⟨W,hW,X,Y,B1⟩:∃W,W=(w.alloc (.cells #[β γ p.kd,β γ p.buffer,β γ p.queue,β γ p.cache,β γ p.timeout,β γ p.target,.float .f64 p.rate,p.tv] 110)).alloc (.cells #[ε none 0 0,U none,U none,U none,U none] 120)/\
   BkA 120 W (w.heap.size+1) [ε none 0 0,U none,U none,U none,U none]/\BkA 110 W w.heap.size (Lw p)/\ζ w.heap.size w W:=by
  refine⟨_,rfl,?_,(AI 110 w (Lw p)).below (As _ _),Ad (As _ _) (As _ _)⟩;have:=AI 120 (w.alloc (.cells #[β γ p.kd,β γ p.buffer,β γ p.queue,β γ p.cache,β γ p.timeout,β γ p.target,.float .f64 p.rate,p.tv] 110)) [ε none 0 0,U none,U none,U none,U none];rwa[A7]at this
 have L:=Ab X;have HY:=Ab Y;have HB:=Ab B1;have am:W.heap.size=w.heap.size+1+1:=by rw[hW,A7,A7]
 have R:=Ab (fun wx (hb:ζ W.heap.size W wx)=>(show wx.cell? ⟨w.heap.size,3,α⟩=δ (β γ p.cache)/\wx.cell? ⟨w.heap.size,4,α⟩=δ (β γ p.timeout) from⟨(Y.below hb).at 3 rfl,(Y.below hb).at 4 rfl⟩));have y3:=Y.at 3 rfl;have y4:=Y.at 4 rfl;have ai:W.heap.size≠w.heap.size:=by omega
 have HR:=Ab hr;have aj:∀wx,ζ W.heap.size W wx->wx.heap.size≠w.heap.size:=fun wx hb=>by have:=hb.size;omega
 have O:=Ab aj;have K:=Ab am;clear X Y B1 hr aj am;rw[hv];rw[hv]at hW;go_enter func40,ntmps40;go_wp2_with fail;rw[<-hW];clear hW;go_cut [3] from 4 to 10 (fun t wx=> ∃q s,t=U (δ ⟨q,0,α⟩)/\Hid (GC w wx q p s/\s.ls=[]/\s.lv=ε none 0 0))
 case first=>
  go_region_held3 (fun w'=>w'.cell? ⟨w.heap.size,3,α⟩=δ (β γ p.cache)/\w'.cell? ⟨w.heap.size,4,α⟩=δ (β γ p.timeout)) (go_keep) (first
   |(go_at_call 70;refine(qR p.timeout W _ (by first|exact(Below.refl _ _).drew|exact(Below.refl _ _).drew.alloc (Nat.le_refl _) _)).mono ?_;rintro e w1 ⟨gm,rfl,h⟩;obtain⟨z3,z4⟩:=Aa R w1 (Aa h).2.2.1;have ax:=Aa O w1 (Aa h).2.2.1;(first|(have X1:=Ab (show BkA 120 w1 W.heap.size [ε none 0 0,U none,U none,U none,U none] from(AI 120 W.drew [ε none 0 0,U none,U none,U none,U none]).below (Aa h).2.2.2))|skip))
   |(go_at_call 71;refine(qw p.cache W _ (by first|exact(Aa h).2.2.1|exact(Aa h).2.2.1.alloc (Aa h).2.2.1.size _)).mono ?_;rintro e w2 ⟨gc,gcm,rfl,f⟩;obtain⟨a2,a3⟩:=Aa R w2 (Aa f).2.2.1;have ay:=Aa O w2 (Aa f).2.2.1;(first|(have j:=Ab ((Aa X1).below (Aa f).2.2.2);have x0:=(Aa j).at 0 rfl;have x1:=(Aa j).at 1 rfl;have x2:=(Aa j).at 2 rfl;have x3:=(Aa j).at 3 rfl;have x4:=(Aa j).at 4 rfl;have f0:=(Aa j).frz 0;have f1:=(Aa j).frz 1;have f2:=(Aa j).frz 2;have f3:=(Aa j).frz 3;have f4:=(Aa j).frz 4)|(have j:=Ab (show BkA 120 w2 w1.heap.size [ε none 0 0,U none,U none,U none,U none] from(AI 120 w1 [ε none 0 0,U none,U none,U none,U none]).below (Aa f).2.2.2);have x0:=(Aa j).at 0 rfl;have x1:=(Aa j).at 1 rfl;have x2:=(Aa j).at 2 rfl;have x3:=(Aa j).at 3 rfl;have x4:=(Aa j).at 4 rfl;have f0:=(Aa j).frz 0;have f1:=(Aa j).frz 1;have f2:=(Aa j).frz 2;have f3:=(Aa j).frz 3;have f4:=(Aa j).frz 4)|skip))
   |fail)
  all_goals (try go_wp2_with fail)
  all_goals go_meet
  ·exact⟨_,Js gm gc gcm,rfl,Ab ⟨Pg (Aa K) (Aa L) (Aa HY) (Aa HB) (Aa f).2.2.1 ((Aa h).1.below (Aa f).2.2.2) (Aa h).2.1 (Aa f).1 (Aa f).2.1 (Aa f).2.2.1.size (AI 120 w2 (E8 (Js gm gc gcm))) (.inl (As _ _)),rfl,rfl⟩⟩
  ·exact⟨_,Js gm gc gcm,rfl,Ab ⟨Pg (Aa K) (Aa L) (Aa HY) (Aa HB) (Aa f).2.2.1 ((Aa h).1.below (Ad (As _ _) (Aa f).2.2.2)) (Aa h).2.1 (Aa f).1 (Aa f).2.1 (Aa h).2.2.1.size (((((Aa j).set 0 _).set 1 _).set 2 _).set 3 _|>.set 4 _) (.inr ⟨Xp _ _ _ _ _ _ _,_,Aa j⟩),rfl,rfl⟩⟩
  ·exact⟨_,Js gm gc gcm,rfl,Ab ⟨Pg (Aa K) (Aa L) (Aa HY) (Aa HB) (Aa f).2.2.1 ((Aa h).1.below (Aa f).2.2.2) (Aa h).2.1 (Aa f).1 (Aa f).2.1 (Nat.le_refl _) (((((Aa j).set 0 _).set 1 _).set 2 _).set 3 _|>.set 4 _) (.inr ⟨Xp _ _ _ _ _ _ _,_,Aa j⟩),rfl,rfl⟩⟩
 case rest=>
  obtain⟨q,s,rfl,HJ⟩:=hcut;clear L HY HB R y3 y4 ai O K W;have b7:=(Aa HJ).1.box.at 7 (show(Lw p)[7]? =δ p.tv from rfl);rw[hv]at b7;go_wp2_with fail;clear b7;go_loopw [14] (fun i wr=> ∃(k:Nat) (s:AU),k<=m/\i=β γ k/\Hid (GC w wr q p s/\s.ls.length=k)) (fun i _=>m-(intOf i).toNat)
  case atStart=>exact⟨0,s,Nat.zero_le _,rfl,Ab ⟨(Aa HJ).1,by rw[(Aa HJ).2.1];rfl⟩⟩
  case round=>
   obtain⟨k,s1,hk,rfl,b⟩:=hrel;clear HJ;rename_i wr;by_cases aw:k<m
   ·have av:(k:Int)<(m:Int):=by omega
    have q0:=(Aa b).1.blk.at 0 rfl;have b6:=(Aa b).1.box.at 6 rfl;have b2:=(Aa b).1.box.at 2 rfl;have a0:w.heap.size≠q:=by have:=(Aa b).1.qlo;omega
    have ao:=Ab (show s1.ls.length<=1000000 by have:=(Aa b).2;omega);have al:=(Aa b).1.low.size;go_wp2_with fail
    go_region_law (first
     |(go_simp;go_at_call 72;refine(li p.rate (Aa HR) p.queue _).mono ?_;rintro e w1 ⟨o,z,Z,c1,rfl,af,ag,l⟩;have D1:=Ab (show ζ wr.heap.size wr w1 from(Below.refl _ _).drew.trans l);have d:=(Aa b).1.blk.below (Aa D1);have k0:=d.at 0 rfl;have e6:=((Aa b).1.box.below (Aa D1)).at 6 rfl;have e2:=((Aa b).1.box.below (Aa D1)).at 2 rfl;have ac:=Ab (And.intro (show(⟨o,z,Z,c1,1000*Bu p.queue 1 256,[],0⟩:AH).At w1 p.M p.queue from ag) af);have ad:=Ab (show Bh (w1.alloc (.cells #[U (δ ⟨o,0,α⟩)] 150)) w.heap.size s1.lv s1.ls from Bh.below (Bh.below (Aa b).1.here.lks (Aa D1)) (As _ _));have aq:=Ab (show w.heap.size<=(w1.alloc (.cells #[U (δ ⟨o,0,α⟩)] 150)).heap.size from κ (κ al (Aa D1).size) (As _ _).size);have D:=Ab (d.below (As w1 (.cells #[U (δ ⟨o,0,α⟩)] 150)));have a1:=(Aa D).at 0 rfl;clear ag af l d)
     |(refine eC (by rfl) (.tmp 17) (.tmp 23) (by rfl) w.heap.size s1.lv s1.ls ⟨o,z,Z,c1,1000*Bu p.queue 1 256,[],0⟩ (by rfl) (Aa ad) w1.heap.size (by rfl) (AI 150 w1 [U (δ ⟨o,0,α⟩)]) (Aa ao) (Aa aq) ?_;intro g2 ae w3 ak I;have aa:=(Aa D).kept I (fun e=>by have:=Bc (Aa ad) e.symm;have:=(Aa D).kd;omega);have t0:=aa.at 0 rfl;have tf:=aa.frz 0;have ap:=Ab ak;have an:=Ab I;clear aa ak I)
     |fail)
    all_goals go_wp2
    all_goals go_round
    all_goals first
     |(simp[intOf];omega)
     |exact⟨k+1,{s1 with lv:=.slice (δ ⟨g2,0,α⟩) (s1.ls.length+1) ae,ls:=s1.ls++[⟨o,z,Z,c1,1000*Bu p.queue 1 256,[],0⟩]},by omega,by go_num,Ab ⟨(Aa b).1.push (Aa D1) (Aa ac).1 (ro (Aa ac).2) ⟨rfl,rfl,rfl⟩ (As _ _) (Aa ap) (Aa an),by rw[List.length_append,(Aa b).2];rfl⟩⟩
   ·obtain rfl:k=m:=by omega
    have N:=Ab (Aa b).1.blk;have L:=Ab (Aa b).1.res;have q0:=(Aa N).at 0 rfl;have q1:=(Aa N).at 1 rfl;have q2:=(Aa N).at 2 rfl;have q3:=(Aa N).at 3 rfl;have q4:=(Aa N).at 4 rfl;have b0:=(Aa b).1.box.at 0 rfl;have b1:=(Aa b).1.box.at 1 rfl;have b5:=(Aa b).1.box.at 5 rfl;have ah:q≠w.heap.size+1:=by have:=(Aa b).1.qlo;omega
    have az:=(Aa b).1.qlo;have A:=(Aa b).1.no;have hc:E8 s1=[s1.lv,U (δ ⟨s1.gm,0,α⟩),U (δ ⟨s1.gc,0,α⟩),U none,U none]:=by unfold E8;rw[A.1,A.2];rfl
    have HC:=Ab hc;rw[A.1]at q3;rw[A.2]at q4;simp only[ptrR,ptrC,Option.map_none]at q3 q4;have y:=Ab A;clear A hc;have P:=Ab (show∃a n c,s1.lv=ε a n c from by obtain⟨a,c,e⟩:=(Aa b).1.here.lks.len;exact⟨a,_,c,e⟩);by_cases h2:p.kd=2
    ·have ar:decide (p.kd=2)=true:=decide_eq_true h2
     go_wp2_with (first
      |(go_at_call 73;refine(ms p.buffer p.target _).mono ?_;rintro e w1 ⟨o,z,rfl,J,l⟩;have C:=Ab l;have Q:=Ab J;have d:=(Aa N).below l;have S:=Ab ((Aa L).below l);have k0:=d.at 0 rfl;have k1:=d.at 1 rfl;have k2:=d.at 2 rfl;have k3:=d.at 3 (by rw[Aa HC];rfl);have k4:=d.at 4 (by rw[Aa HC];rfl);have V:=Ab (fun v=>(Aa S).tu (A8 w1 q 3 v) (fun e=>ah e.symm));have kf:=d.frz 3;have D:=Ab d;clear J l d)
      |((with_reducible refine JN 120 IZ 2 43 (w.heap.size+1) [ε none 0 0,U none,U none,U none,U none] [s1.lv,U (δ ⟨s1.gm,0,α⟩),U (δ ⟨s1.gc,0,α⟩),U (δ ⟨o,0,α⟩),U none] ?_ ?_ (Aa V _) rfl rfl (Jq (Aa P) _ _ _ _) ?_);(focus rfl);(focus rfl);intro w4 x u;have H:=Ab x;have E:=Ab u;clear x u)
      |fail)
     have ab:=(Aa b).1.here.addR (Aa C) ⟨o,z,0,ε none 0 0,[]⟩ ((Aa Q).mono (Aa b).1.low.size);have r:=Qn (Aa b).1 (Aa C) ab (A8 _ _ _ _) (Aa E);exact bodyPost_ret (NN rfl (Aa H) rfl) rfl ⟨{s1 with rl:=δ ⟨o,z,0,ε none 0 0,[]⟩},by rw[show ptrC s1.dc=α by rw[(Aa y).2];rfl];rfl,r.1,⟨(Aa b).1.fr,.inl ⟨h2,(Aa y).2,_,rfl,rfl,rfl⟩⟩,(Aa b).2,r.2⟩
    have ar:decide (p.kd=2)=false:=decide_eq_false h2;by_cases h3:p.kd=3
    ·have au:decide (p.kd=3)=true:=decide_eq_true h3
     go_wp2_with (first
      |(go_at_call 74;refine(pG p.buffer _).mono ?_;rintro e w1 ⟨o,rfl,J,l⟩;have C:=Ab l;have Q:=Ab J;have d:=(Aa N).below l;have S:=Ab ((Aa L).below l);have k0:=d.at 0 rfl;have k1:=d.at 1 rfl;have k2:=d.at 2 rfl;have k3:=d.at 3 (by rw[Aa HC];rfl);have k4:=d.at 4 (by rw[Aa HC];rfl);have V:=Ab (fun v=>(Aa S).tu (A8 w1 q 4 v) (fun e=>ah e.symm));have kf:=d.frz 4;have D:=Ab d;clear J l d)
      |((with_reducible refine JN 120 IZ 2 43 (w.heap.size+1) [ε none 0 0,U none,U none,U none,U none] [s1.lv,U (δ ⟨s1.gm,0,α⟩),U (δ ⟨s1.gc,0,α⟩),U none,U (δ ⟨o,0,α⟩)] ?_ ?_ (Aa V _) rfl rfl (Jq (Aa P) _ _ _ _) ?_);(focus rfl);(focus rfl);intro w4 x u;have H:=Ab x;have E:=Ab u;clear x u)
      |fail)
     have ab:=(Aa b).1.here.addD (Aa C) ⟨o,CQ,o,ε none 0 0,[]⟩ ((Aa Q).mono (Aa b).1.low.size);have r:=Qn (Aa b).1 (Aa C) ab (A8 _ _ _ _) (Aa E);exact bodyPost_ret (NN rfl (Aa H) rfl) rfl ⟨{s1 with dc:=δ ⟨o,CQ,o,ε none 0 0,[]⟩},by rw[show ptrR s1.rl=α by rw[(Aa y).1];rfl];rfl,r.1,⟨(Aa b).1.fr,.inr (.inl ⟨h3,(Aa y).1,_,rfl,rfl,rfl⟩)⟩,(Aa b).2,r.2⟩
    ·have au:decide (p.kd=3)=false:=decide_eq_false h3
     go_wp2_with (first
      |((with_reducible refine JN 120 IZ 2 43 (w.heap.size+1) [ε none 0 0,U none,U none,U none,U none] [s1.lv,U (δ ⟨s1.gm,0,α⟩),U (δ ⟨s1.gc,0,α⟩),U none,U none] ?_ ?_ (Aa L) rfl rfl (Jq (Aa P) _ _ _ _) ?_);(focus rfl);(focus rfl);intro w4 x u;have H:=Ab x;have E:=Ab u;clear x u)
      |fail)
     have r:=Qn (Aa b).1 (Below.refl _ _) (Aa b).1.here (Tu.refl _ _) (Aa E);exact bodyPost_ret (NN rfl (Aa H) rfl) rfl ⟨s1,by rw[(Aa y).1,(Aa y).2];rfl,r.1,⟨(Aa b).1.fr,.inr (.inr ⟨h2,h3,Aa y⟩)⟩,(Aa b).2,r.2⟩
structure F9(f:A1)(i:Nat)(n:Ap):Prop where
 id:n.id=i
 inc:n.inc=0
 kd:n.p.kd=(f.ds.getD i .dflt).kd
 buffer:n.p.buffer=f.buffer
 queue:n.p.queue=f.queue
 cache:n.p.cache=f.cache
 timeout:n.p.timeout=f.timeout
 target:n.p.target=f.target
 rate:n.p.rate=f.rate
 tos:n.p.tos=(f.ds.getD i .dflt).tos
 new:Gx n.p n.s
 src:n.p.kd=1->∃g v,n.src=δ ⟨g,v,(f.obj.size:Int),f.size,min f.spread.toNat (kc f.obj.size f.size.toNat),Bo (tx f.obj) f.size.toNat (kc f.obj.size f.size.toNat)⟩
 tm:n.t=0
structure Hc(w:ι)(f:A1)(i:Nat):Prop where
 nds:BD w f.a f.n f.ds
 lt:i<f.n
 id:i<=4294967295
 kd:(f.ds.getD i .dflt).kd=1\/(f.ds.getD i .dflt).kd=2\/(f.ds.getD i .dflt).kd=3
 len:(f.ds.getD i .dflt).n<=8
 nil:(f.ds.getD i .dflt).a=α->(f.ds.getD i .dflt).n=0/\(f.ds.getD i .dflt).c=0
 rate:f.rate<18446744073709551616
 size:1<=f.size/\f.size<=64/\0<=f.spread/\kc f.obj.size f.size.toNat<=128
def PW{x:ι}{B g id inc t:Nat}{src:Option IL}{s:AU}(E:BkA 122 x g (EJ ⟨id,inc,p,src,s,t⟩))(q:B<=g)(y:Am w3 B p.tv p.tos)(C:∀r,src=δ r->BP w3 r.g B r.v (id:Int) r.l r.z r.k r.ss)(n:Ag w3 B p s){cs:List Value}(D:BkA 122 w3 g cs)(ht:Tu (fun j=>j=g) w3 x)
  (H:(p.kd=1/\src≠α)\/(p.kd=2/\src=α)\/(p.kd=3/\src=α)) (u:Gx p s) (o:inc<4294967296) (I:s.ls.length=p.tos.length/\p.tos.length<=8):Al x g B ⟨id,inc,p,src,s,t⟩:=by
 have J:=D.kd;refine⟨E,q,Cj y ht fun j m e=>?_,fun r A=>(C r A).tu ht fun j m e=>?_,n.tu ht (fun j m e=>?_) fun j m e=>?_,?_,⟨o,I⟩,?_⟩
 ·have:=Bc y m;subst e;omega
 ·have:=(C r A).kd j m;subst e;omega
 ·have:=n.kd j m;subst e;omega
 ·subst e;omega
 ·rcases H with⟨a,b⟩|⟨a,b⟩|⟨a,b⟩<;>rcases u.2 with⟨c,d,r,e,_⟩|⟨c,d,r,e,_⟩|⟨c,d,e,f⟩
  ·omega
  ·omega
  ·exact .inl ⟨a,b,e,f⟩
  ·exact .inr (.inl ⟨a,b,(by show s.rl≠α;rw[e];exact fun h=>by cases h),d⟩)
  ·omega
  ·exact absurd a c
  ·omega
  ·exact .inr (.inr ⟨a,b,d,by show s.dc≠α;rw[e];exact fun h=>by cases h⟩)
  ·exact absurd a d
 ·exact⟨by show s.N<=t;rw[u.1.2.2.1];omega,fun i o=>by show(s.ls.getD i .dflt).lo<=t;rw[(u.1.1 i o).2.2];omega⟩
def oM{f:A1}{i:Nat}(j:i<=4294967295)(h:1<=f.size/\f.size<=64/\0<=f.spread/\kc f.obj.size f.size.toNat<=128)(w:ι):Calls θ 39 #[β γ (i:Int),.string f.obj,β γ f.size,β γ f.spread] w fun e w'=>
  ∃r:IL,e=.returned (.tuple #[U (δ ⟨r.g,0,α⟩),β γ 0])/\Hid (BP w' r.g w.heap.size r.v (i:Int) r.l r.z r.k r.ss/\(∃g v,r=⟨g,v,(f.obj.size:Int),f.size,min f.spread.toNat (kc f.obj.size f.size.toNat),Bo (tx f.obj) f.size.toNat (kc f.obj.size f.size.toNat)⟩)/\ζ w.heap.size w w'):=by
 obtain⟨n,o,a,b⟩:=h;have:=ZQ i f.obj f.size.toNat f.spread.toNat w j (by omega) (by omega) b;rw[Int.toNat_of_nonneg (by omega),Int.toNat_of_nonneg a]at this;exact this.mono fun e w' ⟨g,v,d,m,c⟩=>⟨⟨g,v,_,_,_,_⟩,d,Ab ⟨m,⟨g,v,rfl⟩,c⟩⟩
def nB(f:A1)(i:Nat)(w:ι)(h:Hc w f i):
  Calls θ 22 #[f.val,β γ (i:Int)] w fun e w'=> ∃g n,e=.returned (U (δ ⟨g,0,α⟩))/\Al w' g w.heap.size n/\F9 f i n/\ζ w.heap.size w w':=by
 have ab:(f.ds.getD i .dflt).tos.length=(f.ds.getD i .dflt).n:=(h.nds.2.1 i h.lt).1;have HP:=Ab (fun wx (hb:ζ w.heap.size w wx)=>iY f i _ wx (h.nds.below hb) h.lt rfl (by have:=h.len;omega) h.nil);have HN:=Ab h;have hi:=h.lt;have ak:(i:Int)<(f.n:Int):=by omega
 clear h;have HY:=Ab (AI 25 w [.slice f.a f.n f.c,.string f.obj,β γ f.size,β γ f.spread,β γ f.buffer,β γ f.queue,β γ f.cache,.float .f64 f.rate,β γ f.timeout,β γ f.target]);have Y:=Ab (As w (.cells #[.slice f.a f.n f.c,.string f.obj,β γ f.size,β γ f.spread,β γ f.buffer,β γ f.queue,β γ f.cache,.float .f64 f.rate,β γ f.timeout,β γ f.target] 25));unfold A1.val at HP⊢;have al:¬(i:Int)<0:=by omega
 have HE:=Ab (oM (f:=f) (Aa HN).id (Aa HN).size);have aa:=(Aa HN).kd;have ac:=(Aa HN).len;have HR:=Ab (Aa HN).rate;generalize hd:f.ds.getD i .dflt=d at*;have P:=Ab (fun a c wx=>R9 ⟨d.kd,f.buffer,f.queue,f.cache,f.timeout,f.target,f.rate,ε a d.n c,d.tos⟩ a d.n c wx (Aa HR) rfl (by omega));have HD:=Ab hd;have u:=Ab (show d.tos.length=d.n from ab);clear hd;simp only[]at P;by_cases z:d.kd=1
 ·have ah:(d.kd==1)=true:=by rw[z];rfl
  have Q:=Ab z;clear z aa;go_enter func22,ntmps22
  go_wp2_with (first
   |(go_at_call 38;refine(Aa HP _ (Aa Y)).mono ?_;rintro e w1 ⟨tv,rfl,o,y⟩;obtain⟨at1,k,rfl, -⟩:=o.ints;have S:=Ab o;have O:=(Aa HY).below y;have z1:=O.at 1 rfl;have z2:=O.at 2 rfl;have z3:=O.at 3 rfl;have A:=Ab (Ad (Aa Y) y);have aj:=O.lt;clear o y O)
   |(go_at_call 39;refine(Aa HE _).mono ?_;rintro e w2 ⟨r,rfl,H⟩;have b:=(AI 122 w1 [β γ (i:Int),β .u32 0,β γ d.kd,β γ f.buffer,β γ f.queue,β γ f.cache,β γ f.timeout,β γ f.target,.float .f64 f.rate,.slice at1 d.n k,U none,ε none 0 0,U none,U none,U none,U none]).below (Aa H).2.2;have ao:=b.at 10 rfl;have f10:=b.frz 10;have x2:=b.at 2 rfl;have x3:=b.at 3 rfl;have x4:=b.at 4 rfl;have x5:=b.at 5 rfl;have x6:=b.at 6 rfl;have x7:=b.at 7 rfl;have x8:=b.at 8 rfl;have x9:=b.at 9 rfl;have ag:=Ab (b.set 10 (U (δ ⟨r.g,0,α⟩)));clear b)
   |(go_at_call 40;refine(Aa P _ _ _).mono ?_;rintro e w3 ⟨s,rfl,q,K,m,l⟩;have D:=Ab ((Aa ag).below l);have I:=Ab q;have E:=Ab K;have R:=Ab m;have C:=Ab l;clear q K m l)
   |((with_reducible refine Ld 120 122 IZ 48 46 w1.heap.size 11 _ [s.lv,U (δ ⟨s.gm,0,α⟩),U (δ ⟨s.gc,0,α⟩),.pointer (ptrR s.rl),.pointer (ptrC s.dc)] ?_ ?_ (Aa D) rfl ?_ ?_ ?_);(focus rfl);(focus rfl);(focus exact(show 11+5<=16 by decide));(focus exact Jq (by obtain⟨a,c,e⟩:=(Aa I).lks.len;exact⟨a,_,c,e⟩) _ _ _ _);intro w4 N L;have V:=Ab N;have J:=Ab L;clear N L)
   |fail)
  go_ret;have Z:w.heap.size<=w1.heap.size:=(Aa A).size;have ho:Am w1 w.heap.size (.slice at1 d.n k) d.tos:=by have:=(Aa S).mono (Aa Y).size;rwa[Aa u]at this
  have W:ζ w1.heap.size w1 w2:=Ad (As _ _) (Aa H).2.2;have an:=W.size;have am:kdB w2 w1.heap.size=122+2:=((AI 122 w1 [β γ (i:Int),β .u32 0,β γ d.kd,β γ f.buffer,β γ f.queue,β γ f.cache,β γ f.timeout,β γ f.target,.float .f64 f.rate,.slice at1 d.n k,U none,ε none 0 0,U none,U none,U none,U none]).below (Aa H).2.2).kd;have ad:Am w2 w.heap.size (.slice at1 d.n k) d.tos:=ho.below W;have ae:=(Aa H).1.mono (B':=w.heap.size) (by rw[A7];omega);have X:=A8 w2 w1.heap.size 10 (U (δ ⟨r.g,0,α⟩));have ai:Am _ w.heap.size (.slice at1 d.n k) d.tos:=Cj ad X fun j hj e=>by have:=Bc ad hj;subst e;omega
  have q:=ae.tu X fun j hj e=>by have:=ae.kd j hj;subst e;omega
  have m:=GY (Ad (Aa A) W) X Z;refine⟨w1.heap.size,⟨i,0,⟨d.kd,f.buffer,f.queue,f.cache,f.timeout,f.target,f.rate,.slice at1 d.n k,d.tos⟩,δ r,s,0⟩,rfl,PW (Aa V) Z (ai.below (Aa C)) (fun x hx=>?_) ((Aa I).mono m.size) (Aa D) (Aa J) (.inl ⟨Aa Q,fun h=>by cases h⟩) (Aa E) (by decide) ⟨by rw[Aa R];exact(Aa u).symm,by show d.tos.length<=8;rw[Aa u];exact ac⟩,⟨rfl,rfl,by rw[Aa HD],rfl,rfl,rfl,rfl,rfl,rfl,by rw[Aa HD],Aa E,fun _=>?_,rfl⟩,?_⟩
  ·cases hx
   exact q.tu (F:=fun _=>False) (Tu.of_below (Aa C)) fun _ _=>id
  ·obtain⟨g,v,rfl⟩:=(Aa H).2.1
   exact⟨g,v,rfl⟩
  ·exact GY (Ad m (Aa C)) (Aa J) Z
 ·have ah:(d.kd==1)=false:=by simpa using z
  have Q:=Ab (show d.kd=2\/d.kd=3 by omega);have af:=Ab z;clear z aa;go_enter func22,ntmps22
  go_wp2_with (first
   |(go_at_call 38;refine(Aa HP _ (Aa Y)).mono ?_;rintro e w1 ⟨tv,rfl,o,y⟩;obtain⟨at1,k,rfl, -⟩:=o.ints;have S:=Ab o;have A:=Ab (Ad (Aa Y) y);clear o y)
   |(go_at_call 40;refine(Aa P _ _ _).mono ?_;rintro e w3 ⟨s,rfl,q,K,m,l⟩;have D:=Ab ((AI 122 w1 [β γ (i:Int),β .u32 0,β γ d.kd,β γ f.buffer,β γ f.queue,β γ f.cache,β γ f.timeout,β γ f.target,.float .f64 f.rate,.slice at1 d.n k,U none,ε none 0 0,U none,U none,U none,U none]).below l);have I:=Ab q;have E:=Ab K;have R:=Ab m;have C:=Ab l;clear q K m l)
   |((with_reducible refine Ld 120 122 IZ 48 46 w1.heap.size 11 _ [s.lv,U (δ ⟨s.gm,0,α⟩),U (δ ⟨s.gc,0,α⟩),.pointer (ptrR s.rl),.pointer (ptrC s.dc)] ?_ ?_ (Aa D) rfl ?_ ?_ ?_);(focus rfl);(focus rfl);(focus exact(show 11+5<=16 by decide));(focus exact Jq (by obtain⟨a,c,e⟩:=(Aa I).lks.len;exact⟨a,_,c,e⟩) _ _ _ _);intro w4 N L;have V:=Ab N;have J:=Ab L;clear N L)
   |fail)
  go_ret;have Z:w.heap.size<=w1.heap.size:=(Aa A).size;have ho:Am w1 w.heap.size (.slice at1 d.n k) d.tos:=by have:=(Aa S).mono (Aa Y).size;rwa[Aa u]at this
  have l:ζ w1.heap.size w1 w3:=Ad (As _ _) (Aa C);refine⟨w1.heap.size,⟨i,0,⟨d.kd,f.buffer,f.queue,f.cache,f.timeout,f.target,f.rate,.slice at1 d.n k,d.tos⟩,α,s,0⟩,rfl,PW (Aa V) Z (ho.below l) (fun x hx=>by cases hx) ((Aa I).mono (by rw[A7];omega)) (Aa D) (Aa J) (.inr ((Aa Q).imp (fun e=>⟨e,rfl⟩) fun e=>⟨e,rfl⟩)) (Aa E) (by decide) ⟨by rw[Aa R];exact(Aa u).symm,by show d.tos.length<=8;rw[Aa u];exact ac⟩,⟨rfl,rfl,by rw[Aa HD],rfl,rfl,rfl,rfl,rfl,rfl,by rw[Aa HD],Aa E,fun e=>absurd e (Aa af),rfl⟩,?_⟩;exact GY (Ad (Aa A) l) (Aa J) Z
variable {g B B2:Nat}{T:TypeId}{v:Value}{w w':ι}
def Ck(T:TypeId)(w:ι)(g:Nat)(v:Value):Prop:=w.heap[g]? =δ (.cells #[v] T (0,0))
def WS(T:TypeId)(w:ι)(v:Value):Ck T (w.alloc (.cells #[v] T)) w.heap.size v:=by
 show(w.heap.push _)[w.heap.size]? =_;simp
def Ck.lt(h:Ck T w g v):g<w.heap.size:=(Array.getElem?_eq_some_iff.1 h).1
def Ck.belowB(h:Ck T w g v)(a:ζ B w w')(b:g<B):Ck T w' g v:=(a.block g b).trans h
def Ck.kept{row:Option Nat}(h:Ck T w g v)(b:w.grownBy w' row)(a:δ g≠row):Ck T w' g v:=(b.block g h.lt a).trans h
def Ck.at0(h:Ck T w g v):w.cell? ⟨g,0,α⟩=δ v:=by
 unfold Ck at h;rw[cell_of_row w g _ _ _ _ h];rfl
def Ck.frz(h:Ck T w g v)(i:Nat):w.frozen? ⟨g,i,α⟩=false:=by
 unfold Ck at h;simp[World.frozen?,h]
def Ck.set0(h:Ck T w g v)(u:Value):Ck T (w.setCell ⟨g,0,α⟩ u) g u:=heap_setCell_same w g 0 _ _ u h
def Ck.drew(h:Ck T w g v):Ck T w.drew g v:=h
structure Kg(B B2:Nat)(w w':ι):Prop where
 os:w'.os=w.os
 tape:w'.tape=w.tape
 output:w'.output=w.output
 size:w.heap.size<=w'.heap.size
 block:∀k,k<w.heap.size->k<B\/B2<=k->w'.heap[k]? =w.heap[k]?
def Kg.below(h:Kg B B2 w w')(b:B<=w.heap.size):ζ B w w':=⟨h.os,h.tape,h.output,h.size,fun k a=>h.block k (by omega) (.inl a)⟩
def Am.mid{xs:List Int}(h:Am w B2 v xs)(f:Kg B B2 w w'):Am w' B2 v xs:=by
 refine⟨h.1,?_⟩;rcases h.2 with d|⟨g,cap,b,e,c,a,r⟩
 ·exact .inl d
 ·exact .inr ⟨g,cap,b,e,c,(f.block g (Array.getElem?_eq_some_iff.1 a).1 (.inr c)).trans a,r⟩
def Am.kept{xs:List Int}{k:Nat}(h:Am w B v xs)(i:w.grownBy w' (δ k))(j:k<B):Am w' B v xs:=by
 refine⟨h.1,?_⟩;rcases h.2 with d|⟨g,cap,b,f,c,a,r⟩
 ·exact .inl d
 ·exact .inr ⟨g,cap,b,f,c,(i.block g (Array.getElem?_eq_some_iff.1 a).1 (fun e=>by have:=η e;omega)).trans a,r⟩
def JV{w1 w2:ι}{r:Option Nat}(h:w.grownBy w1 r)(a:ζ w.heap.size w1 w2):w.grownBy w2 r:=
 ⟨a.os.trans h.os,a.tape.trans h.tape,a.output.trans h.output,κ h.size a.size,fun k c b=>(a.block k c).trans (h.block k c b)⟩
def Bk(w:ι)(h B B2:Nat)(a:List Int):Prop:=
 ∃b off c,Ck 327 w h (.slice (δ ⟨b,off,α⟩) a.length c)/\a.length<=c/\c<=1048576/\(B<=b/\b<B2/\B<=h/\h<B2/\b≠h)/\
  (∀i,i<a.length->w.cell? ⟨b,off+i,α⟩=δ (β γ (a.getD i 0)))/\∀i,w.frozen? ⟨b,i,α⟩=false
def Bk.below{h:Nat}{e:List Int}(H:Bk w h B B2 e)(d:ζ B2 w w'):Bk w' h B B2 e:=by
 obtain⟨b,off,c,f,j,k,a,l,m⟩:=H;exact⟨b,off,c,f.belowB d a.2.2.2.1,j,k,a,fun i n=>(d.cell (p:=⟨b,off+i,α⟩) a.2.1).trans (l i n),fun i=>(d.frozen (p:=⟨b,i,α⟩) a.2.1).trans (m i)⟩
def Bk.kept{h k:Nat}{j:List Int}(H:Bk w h B B2 j)(f:w.grownBy w' (δ k))(u:k<B)(x:B2<=w.heap.size):Bk w' h B B2 j:=by
 obtain⟨b,off,c,l,m,n,o,q,r⟩:=H;have d:w'.heap[b]? =w.heap[b]? :=f.block b (by omega) (fun e=>by have:=η e;omega);exact⟨b,off,c,l.kept f (fun e=>by have:=η e;omega),m,n,o,fun i s=>(World.cell?_of_block (a:=⟨b,off+i,α⟩) d).trans (q i s),fun i=>(World.frozen?_of_block (a:=⟨b,i,α⟩) d).trans (r i)⟩
def M3:Tryz.prog.underlying 27=δ (.slice (Tryz.prog.elem 27)):=by kernel_rfl
def WR:Tryz.prog.elem 27=3:=by kernel_rfl
def Q8(w:ι):(sizeOf 3).run θ w=.ok 1 w:=by kernel_rfl
def Rt:(Tryz.prog.info? 3).map (·.size)=δ 1:=by kernel_rfl
def pK(b off n c:Nat)(d:n+1<=c):∃a,(n=0\/a=off+1)/\∀w:ι,
  (Instr.sliceAt 27 (.slice (δ ⟨b,off,α⟩) (n+1) c) (δ (β γ 1)) none none).run θ w=.ok (.slice (δ ⟨b,a,α⟩) n (c-1)) w:=by
 refine⟨if c=1 then off else off+1,?_,fun w=>?_⟩
 ·by_cases h:c=1
  ·exact .inl (by omega)
  ·exact .inr (by rw[if_neg h])
 ·rw[run_sliceAt_slice _ _ _ _ _ _ M3,run_slice_l _ _ _ _ _ M3 _ _ (by omega) (by omega),WR,Q8]
  by_cases h:c=1
  ·simp[Result.andThen,sliced,h]
  ·simp[Result.andThen,sliced,Addr.add,h]
def nW(b off n c j:Nat)(a:j<=c)(w:ι):
  (Instr.sliceAt 27 (.slice (δ ⟨b,off,α⟩) n c) none (δ (β γ (j:Int))) none).run θ w=.ok (.slice (δ ⟨b,off,α⟩) j c) w:=by
 rw[run_sliceAt_slice _ _ _ _ _ _ M3,run_slice_h _ _ _ _ _ M3 _ _ (by omega) (by omega),WR,Q8];simp[Result.andThen,sliced,Addr.add]
def iG(xs:List Int):∀u∈cellsZ xs,u.oneCell'=true:=by
 intro u a;obtain⟨_,_,rfl⟩:=List.mem_map.1 a;rfl
def pN(b off i:Nat):(⟨b,off,α⟩:Addr).add i=⟨b,off+i,α⟩:=by
 unfold Addr.add;split
 ·rename_i h;simp_all
 ·rfl
def Zw(b off d n c j:Nat)(e:List Int)(wx:ι)(C:e.length=n+1)(A:j<n+1)(r:n=0\/d=off+1)
  (l:∀i,i<n+1->wx.cell? ⟨b,off+i,α⟩=δ (β γ (e.getD i 0))) (s:∀i,wx.frozen? ⟨b,i,α⟩=false) (x:TypeId):
  ∃w2,(Builtin.copy_ #[27,27] x #[.slice (δ ⟨b,d,α⟩) n (c-1),.slice (δ ⟨b,off,α⟩) j c]).run θ wx=.ok (goInt j) w2/\
   (∀i,i<n->w2.cell? ⟨b,d+i,α⟩=δ (β γ ((e.eraseIdx j).getD i 0)))/\(∀i,w2.frozen? ⟨b,i,α⟩=false)/\wx.grownBy w2 (δ b):=by
 have k:∀i,(e.eraseIdx j).getD i 0=if i<j then e.getD i 0 else e.getD (i+1) 0:=by
  intro i;simp only[List.getD_eq_getElem?_getD,List.getElem?_eraseIdx];split<;>rfl
 by_cases z:j=0
 ·subst z
  refine⟨wx,run_copy_none wx 27 27 x 3 _ _ _ _ _ _ underlying27 Rt (Nat.min_eq_left (Nat.zero_le _)),fun i f=>?_,s,Gn _ _⟩;rw[k,if_neg (by omega)];rcases r with r|rfl
  ·omega
  ·rw[show off+1+i=off+(i+1) by omega]
   exact l (i+1) (by omega)
 ·have r:d=off+1:=by omega
  subst r;have a:(cellsZ (e.take j)).length=j:=by rw[Gi,List.length_take];omega
  have q:∀i,i<j->(e.take j).getD i 0=e.getD i 0:=fun i f=>by simp[List.getD_eq_getElem?_getD,f]
  refine⟨wx.setCells b (off+1) (cellsZ (e.take j)),?_,fun i f=>?_,fun i=>by rw[World.frozen?_setCells];exact s i,GJ _ _ _ _⟩
  ·have:=run_copy_cells (P:=θ) wx 27 27 x 3 b (off+1) n (c-1) ⟨b,off,α⟩ j c (cellsZ (e.take j)) underlying27 Rt (by rw[a];exact(Nat.min_eq_left (by omega)).symm)
    (fun i u f=>by
     have m:i<(e.take j).length:=by
      have:=(List.getElem?_eq_some_iff.1 f).1;rwa[Gi]at this
     have o:i<j:=by rw[List.length_take]at m;omega
     rw[Hp _ _ m,q i o]at f;rw[pN,l i (by omega)];exact f)
    (fun i f=>by rw[a]at f;rw[show off+1+i=off+(i+1) by omega,l (i+1) (by omega)];rfl) (fun i f=>s _) (iG _)
   rw[a]at this;exact this
  ·rw[k]
   by_cases h:i<j
   ·rw[if_pos h]
    have:=World.cell?_setCells_in b (cellsZ (e.take j)) (off+1) wx (fun i f=>by rw[a]at f;rw[show off+1+i=off+(i+1) by omega,l (i+1) (by omega)];rfl) i (by rw[a];exact h);rw[this];have y:=Hp (e.take j) i (by rw[List.length_take];omega);rw[List.getElem?_eq_getElem (by rw[a];exact h),q i h]at y;exact y
   ·rw[if_neg h,World.cell?_setCells_out b _ _ _ _ (fun _ _=>.inr (by rw[a];show off+1+j<=off+1+i;omega)),show off+1+i=off+(i+1) by omega]
    exact l (i+1) (by omega)
def nY(h B B2 j:Nat)(l:List Int)(w:ι)(H:Bk w h B B2 l)(D:j<l.length)(hs:B2<=w.heap.size):
  Calls θ 236 #[U (δ ⟨h,0,α⟩),β γ (j:Int)] w fun e w'=>e=.returned (β γ (l.getD j 0))/\Bk w' h B B2 (l.eraseIdx j)/\Kg B B2 w w':=by
 obtain⟨b,off,c,z,I,h3,q,A,J⟩:=H;obtain⟨n,N⟩:∃n,l.length=n+1:=⟨l.length-1,by omega⟩;rw[N]at z I A D;obtain⟨d,W,X⟩:=pK b off n c I;have Y:=nW b off (n+1) c j (by omega);obtain⟨w2,S,u,y,o⟩:=Zw b off d n c j l w.drew N D W A J 3;have hx:=A j D;have Z:=z.at0;have C:Ck 327 w2 h (.slice (δ ⟨b,off,α⟩) (n+1) c):=z.drew.kept o (fun e=>q.2.2.2.2 (η e).symm);have k0:=C.at0;have kf:=C.frz 0;have R:=Ab C;have E:=Ab o;have P:=Ab u;have Q:=Ab y;have O:=Ab q;generalize l.getD j 0=x at*;clear z A J u y o C q;go_enter func236,ntmps236;go_wp2_with fail;go_region_held (fun w'=>w'.cell? ⟨h,0,α⟩=δ (.slice (δ ⟨b,off,α⟩) (n+1) c)) (go_keep) (fail);go_wp2;go_ret;have q:=Aa O;have m:(l.eraseIdx j).length=n:=by rw[List.length_eraseIdx,if_pos (by omega)];omega
 have f:=Bz w2 h 0 (.slice (δ ⟨b,d,α⟩) n (c-1));have s:=f.block b (by have:=(Aa E).size;simp at this;omega) (fun e=>q.2.2.2.2 (η e));refine⟨rfl,⟨b,d,c-1,by rw[m];exact(Aa R).set0 _,by omega,by omega,q,fun i K=>?_,fun i=>?_⟩,?_⟩
 ·rw[m]at K
  exact(World.cell?_of_block (a:=⟨b,d+i,α⟩) s).trans (Aa P i K)
 ·exact(World.frozen?_of_block (a:=⟨b,i,α⟩) s).trans (Aa Q i)
 ·have r:=Aa E
  refine⟨f.os.trans r.os,f.tape.trans r.tape,f.output.trans r.output,κ r.size f.size,fun k L V=>?_⟩;exact(f.block k (Nat.lt_of_lt_of_le L r.size) (fun e=>by have:=η e;omega)).trans (r.block k L (fun e=>by have:=η e;omega))
end Go.Proofs.YtfpmnekaockodaaGreatDoor
