/- Laws for the proof. -/
import Derived.Test.YtfpmnekaockodaaGreatDoorU38
set_option linter.all false
open Go.Proofs.Tryz
open Go.IntKind renaming i64->U
open Go.Value renaming slice->α,tuple->κ,pointer->μ
open Go.Proofs.Tryz renaming prog->β
open Go.RowKit renaming Below->γ
open Option renaming some->δ,none->η
open Go.Ending renaming returned->ε
open Go renaming World->ζ,Calls->ι
open Nat renaming le_refl->θ,le_succ->ν
namespace Go.Proofs.YtfpmnekaockodaaGreatDoor
open Go.RowKit Go.Sort Go.Maps
set_option maxRecDepth 4000
set_option maxHeartbeats 8000000
variable {D:DataW Unit}{L:List Nat}{b n x:Nat}{p:PD}{w:ζ}
def dB{nx:Nat}(h:AY w b n D)(d:n<=1048576)(c:x<4294967296)(a:nx<=1099511627776):
  ∃w',(Instr.mapUpdate 191 (.map (δ b)) (.int .u32 (x:Int)) (.int U (nx:Int))).run β w=.ok () w'/\AY w' b (n+1) (D.put (.int .u32 (x:Int)) (.lit (.int U (nx:Int))))/\w.mapTurned w' b:=
 World.ownsMap.store h Kc underlying191 (by unfold maxLen;omega) (Nu c) (plainElem_int underlying3 (WalkArith.wf_i64 (by omega)))
def aY(h:AY w b n D)(d:x<4294967296):
  ∃w',(∀c,(Builtin.delete_ #[191,112] c #[.map (δ b),.int .u32 (x:Int)]).run β w=.ok (κ #[]) w')/\AY w' b n (D.del (.int .u32 (x:Int)))/\w.mapTurned w' b:=by
 obtain⟨w',a,r⟩:=World.ownsMap.drop h Kc underlying191 (Nu d) 0;exact⟨w',fun c=>a,r⟩
def bA{y:Nat}(h:AY w b n D)(d:Maps.has D (.int .u32 (y:Int))=true):y<4294967296:=by
 obtain⟨j,a,k,F,_,rfl⟩:=h;rw[has_eq,List.any_eq_true]at d;obtain⟨p,hp,e⟩:=d;obtain⟨v,f⟩:=fit_keys F p (mem_sorted.1 hp);rw[WideAt.sameKey_eq e]at f;obtain⟨x,_,c,i⟩:=Maps.keyOf_int_inv underlying112 f;simp only[Lit.int.injEq,true_and]at c;subst c;have:=bounds_u32 i;omega
def OC{w1 w2:ζ}{g:Nat}(h:Tu (F2 g b) w w1)(k:Tu (F2 g b) w1 w2):Tu (F2 g b) w w2:=h.trans k fun _ _ h=>h
def Tu.wide'{F G:Nat->Prop}{w':ζ}(h:Tu F w w')(e:∀j,F j->G j):Tu G w w':=⟨h.os,h.tape,h.output,h.size,fun k c d=>h.block k c fun a=>d (e k a)⟩
def TV{g m nx N:Nat}{c:List (Nat×Nat)}(v:BkA 193 w g [.int U (m:Int),.map (δ b),.int U (nx:Int)])(k:AY w b n D)(u:Ep D nx c)
  (A:x<4294967296) (r:x∉c.map Prod.fst) (C:c.length<m) (z:m<=256) (B:nx<=N) (y:N<1099511627776):
  ∃a,(Instr.mapUpdate 191 (.map (δ b)) (.int .u32 (x:Int)) (.int U (nx:Int))).run β w.drew=.ok () a/\BkA 193 a g [.int U (m:Int),.map (δ b),.int U (nx:Int)]/\
   AW (a.setCell ⟨g,2,η⟩ (.int U ((nx+1:Nat):Int))) g b m (N+1) (c.map Prod.fst++[x])/\Tu (F2 g b) w (a.setCell ⟨g,2,η⟩ (.int U ((nx+1:Nat):Int))):=by
 have l:AY w.drew b c.length D:=by have:=(k.tu (F:=fun _=>False) (IF _ w) id).exact;rw[u.size]at this;exact this
 have d:g≠b:=fun e=>k.nocells _ _ _ (e▸v);obtain⟨a,h,o,q⟩:=dB l (by omega) A (nx:=nx) (by omega);have ht:=Qw q;have f:BkA 193 a g [.int U (m:Int),.map (δ b),.int U (nx:Int)]:=(show BkA 193 w.drew g _ from v).tu ht d;have i:=u.put k.tidy r;refine⟨a,h,f,⟨⟨nx+1,c++[(x,nx)],_,by omega,f.set 2 _,?_,i,by simp⟩,by simp;omega,z⟩,?_⟩
 ·have:=o.tu (A8 a g 2 (.int U ((nx+1:Nat):Int))) (fun e=>d e.symm)
  simpa using this
 ·exact(OC (IF _ w) (ht.wide' fun j e=>.inr e)).trans (A8 a g 2 _) fun j _ e=>.inl e
def kB(g b m N x:Nat)(L:List Nat)(w:ζ)(h:AW w g b m N L)(hx:x<4294967296)(C:x∉L)(hN:N<1099511627776):
  ι β 123 #[.pointer (δ ⟨g,0,η⟩),.int .u32 (x:Int)] w fun e w'=>e=ε (κ #[])/\AW w' g b m (N+1) (G5 m L x)/\Tu (F2 g b) w w':=by
 obtain⟨nx,es,D,hn,E,H,A,i⟩:=h.it;have u:=h.len;have f:=h.most;have k0:=E.at 0 rfl;have k1:=E.at 1 rfl;have k2:=E.at 2 rfl;have d:L.length=es.length:=by rw[i,List.length_map]
 by_cases k:m=0
 ·subst k
  have HF:=Ab (show AW w g b 0 (N+1) (G5 0 L x) from h.mono (ν _));clear h E H A i u f d;go_enter func123,ntmps123;go_wp2;exact bodyPost_ret (v:=κ #[]) (by simp[results,Tryz.results123,go_sem]) rfl ⟨rfl,Aa HF,Tu.refl _ _⟩
 ·have af:((m:Int)==0)=false:=by simp;omega
  have hl:=World.ownsMap.len (AY.tu (F:=fun _=>False) H (IF _ w) id) underlying191 3;rw[A.size,<-d]at hl;by_cases a:L.length=m
  ·have R:L≠ []:=fun e=>k (by rw[<-a,e];rfl)
   rw[a]at hl;have X:=Ab (show G5 m L x=L.tail++[x] by unfold G5;rw[if_neg k,if_pos a])
   match es,A,i,d with
   |[],_,i,_=>exact absurd i R
   |(y,s)::r,A,i,d=>
    have W:L.headD 0=y:=by rw[i];rfl
    have T:L.tail=r.map Prod.fst:=by rw[i];rfl
    have V:x∉r.map Prod.fst:=fun hh=>C (by rw[i];exact List.mem_cons_of_mem _ hh);have Y:=Ab (h.tu (F:=fun _=>False) ((IF _ w).trans (IF _ w.drew) fun _ _ h=>h) id id);have ad:y<4294967296:=by
     have h1:=A.has y;rw[show Dz (((y,s)::r).map Prod.fst) y=true from by simp[Dz]]at h1;exact bA H h1
    have HO:=Ab H;have HK:=Ab E;have HM:=Ab (A.del H.tidy);rw[T]at X;have HX:=Ab V;have aa:=Ab (show r.length<m by simp only[List.length_cons]at d;omega);have Z:=Ab R;have ab:=Ab W;clear h E H A i u a d C W T V k;go_enter func123,ntmps123;go_wp2_with fail;go_region_held (fun w'=>w'.cell? ⟨g,0,η⟩=δ (.int U (m:Int))/\w'.cell? ⟨g,1,η⟩=δ (.map (δ b))) (go_keep) (fail);go_wp2_with fail
    go_region_held (fun w'=>w'.cell? ⟨g,1,η⟩=δ (.map (δ b))) (go_keep) (first
     |(go_at_call 155;refine(eu g b m N L _ (Aa Y) (Aa Z)).mono ?_;rintro e w2 ⟨rfl,B⟩;rw[Aa ab];obtain⟨w3,ae,S,K⟩:=aY (AY.tu (F:=fun _=>False) (Aa HO) (Tu.of_below (show γ w.heap.size w w2 from((Below.refl _ _).drew.drew).trans B)) id) ad;have O:=Ab ((Aa HK).below (show γ w.heap.size w w2 from((Below.refl _ _).drew.drew).trans B));have q1:=(Aa O).at 1 rfl;have P:=Ab S;have Q:=Ab (show Tu (F2 g b) w w3 from Tu.after (show γ w.heap.size w w2 from((Below.refl _ _).drew.drew).trans B) ((Qw K).wide' fun j e=>.inr e));have z:=Ab (show BkA 193 w3 g _ from(Aa O).tu (Qw K) (fun e=>(Aa HO).nocells _ _ _ (e▸Aa HK)));have y1:=(Aa z).at 1 rfl;clear B S K))
    have y2:=(Aa z).at 2 rfl;obtain⟨w4,ac,c,l,o⟩:=TV (Aa z) (Aa P) (Aa HM) hx (Aa HX) (Aa aa) f hn hN;have z1:=c.at 1 rfl;have z2:=c.at 2 rfl;have z3:=c.frz 2;have I:=Ab l;have J:=Ab (OC (Aa Q) o);clear l o c z P HM Q;go_wp2_with fail;go_region_held (fun w'=>w'.cell? ⟨g,1,η⟩=δ (.map (δ b))/\w'.cell? ⟨g,2,η⟩=δ (.int U (nx:Int))) (go_keep) (fail);go_wp2;go_end0;refine⟨rfl,?_,Aa J⟩;rw[Aa X];exact Aa I
  ·have X:=Ab (show G5 m L x=es.map Prod.fst++[x] by unfold G5;rw[if_neg k,if_neg a,i])
   have ag:((L.length:Int)==(m:Int))=false:=by simp;omega
   obtain⟨w4,ac,c,l,o⟩:=TV (w:=w.drew) E (H.tu (F:=fun _=>False) (IF _ w) id) A hx (by rw[<-i];exact C) (by omega) f hn hN;have z1:=c.at 1 rfl;have z2:=c.at 2 rfl;have z3:=c.frz 2;have I:=Ab l;have J:=Ab (OC (IF _ w) o);generalize G5 m L x=SL at*;generalize L.length=q at*;clear h E H A i u a d C k l o c;go_enter func123,ntmps123;go_wp2_with fail;go_region_held (fun w'=>w'.cell? ⟨g,0,η⟩=δ (.int U (m:Int))/\w'.cell? ⟨g,1,η⟩=δ (.map (δ b))) (go_keep) (fail);go_wp2_with fail;go_region_held (fun w'=>w'.cell? ⟨g,1,η⟩=δ (.map (δ b))/\w'.cell? ⟨g,2,η⟩=δ (.int U (nx:Int))) (go_keep) (fail);go_wp2;go_end0;refine⟨rfl,?_,Aa J⟩;rw[Aa X];exact Aa I
def Vj(h:BM p=false)(m:Nat):Dp L p=false/\Hy m L p=L:=by
 have a:Dp L p=false:=by unfold Dp;rw[h];rfl
 exact⟨a,by unfold Hy;rw[a];rfl⟩
def TN(h:Dz L (Dj p)=true)(m:Nat):Dp L p=false/\Hy m L p=L:=by
 have a:Dp L p=false:=by unfold Dp;rw[h];simp
 exact⟨a,by unfold Hy;rw[a];rfl⟩
def TO(h:BM p=true)(c:Dz L (Dj p)=false)(m:Nat):Dp L p=true/\Hy m L p=G5 m L (Dj p):=by
 have a:Dp L p=true:=by unfold Dp;rw[h,c];rfl
 exact⟨a,by unfold Hy;rw[a];rfl⟩
def fP(g b m N:Nat)(L:List Nat)(p:PKV)(w:ζ)(h:AW w g b m N L)(I:RowAt w p.r.a p.r.n p.r.xs)(hN:N<1099511627776):
  ι β 83 #[.pointer (δ ⟨g,0,η⟩),p.val] w fun e w'=>e=ε (.bool (Dp L p.pd))/\AW w' g b m (N+1) (Hy m L p.pd)/\Tu (F2 g b) w w':=by
 have q:γ w.heap.size w (w.alloc (.cells #[.int U p.o,.int U p.l,.int U p.k,.int U p.z,.int U p.h,.slice p.r.a p.r.n p.r.c,.string p.r.s] 75)):=Bn w _;have E:=Ab q;have O:=Ab (AI 75 w [.int U p.o,.int U p.l,.int U p.k,.int U p.z,.int U p.h,.slice p.r.a p.r.n p.r.c,.string p.r.s]);have K:=Ab (fun w1 (v:γ w.heap.size w w1)=>h.below v);have Z:=Ab (fun w1 (v:γ w.heap.size w w1)=>I.below v);have A:=Ab (fun en ab w1 (v:γ w.heap.size w w1)=>ES p.o p.l p.k p.z p.h p.r.a p.r.n p.r.c p.r.xs p.r.s w1 (I.below v) en ab);have H:=Ab (fun w1 (v:γ w.heap.size w w1)=>mb g b m N L p w1 (h.below v) (I.below v));have V:=Ab (fun w1 (v:γ w.heap.size w w1)=>Q3 p w1 (I.below v));have P:=Ab (fun(h3:Dz L (Dj p.pd)=false) w1 (v:γ w.heap.size w w1)=>kB g b m N (Dj p.pd) L w1 (h.below v) (QJ _) (MS.1 h3) hN);cases f:BM p.pd
 ·have T:=Ab (Aa A 1 (Qq f) _ q)
  rw[(Vj f m).1,(Vj f m).2];unfold PKV.val;clear h I f A H V P Z q;go_enter func83,ntmps83;go_wp2_with (first|(go_at_call 121;refine(Aa T).mono ?_;rintro e w1 ⟨rfl,d⟩;have j:=Ab (Ad (Aa E) d);clear d)|fail);go_ret;exact⟨rfl,(Aa K _ (Aa j)).mono (ν _),Tu.of_below (Aa j)⟩
 ·have T:=Ab (Aa A 0 (MJ f) _ q)
  cases B:Dz L (Dj p.pd)
  ·rw[(TO f B m).1,(TO f B m).2]
   rw[B]at H;have P:=Ab (Aa P B);generalize G5 m L (Dj p.pd)=SL at*;generalize Dj p.pd=X at*;unfold PKV.val at H V⊢;clear h I f B A Z q;go_enter func83,ntmps83
   go_wp2_with (first
    |(go_at_call 121;refine(Aa T).mono ?_;rintro e w1 ⟨rfl,d⟩;have j:=Ab (Ad (Aa E) d);have i:=(Aa O).below d;have Y:=Ab i;have q0:=i.at 0 rfl;have q1:=i.at 1 rfl;have q2:=i.at 2 rfl;have q3:=i.at 3 rfl;have q4:=i.at 4 rfl;have q5:=i.at 5 rfl;have q6:=i.at 6 rfl;clear d i)
    |(go_at_call 122;refine(Aa H _ (Aa j)).mono ?_;rintro e w2 ⟨rfl,u⟩;have y:=Ab (Ad (Aa j) u);have C:=(Aa Y).below u;have r0:=C.at 0 rfl;have r1:=C.at 1 rfl;have r2:=C.at 2 rfl;have r3:=C.at 3 rfl;have r4:=C.at 4 rfl;have r5:=C.at 5 rfl;have r6:=C.at 6 rfl;clear u C q0 q1 q2 q3 q4 q5 q6)
    |(go_at_call 124;refine(Aa V _ (Aa y)).mono ?_;rintro e w3 ⟨rfl,Q⟩;have J:=Ab (Ad (Aa y) Q);clear Q)
    |(go_at_call 123;refine(Aa P _ (Aa J)).mono ?_;rintro e w4 ⟨rfl,R,S⟩;have W:=Ab R;have aa:=Ab (show Tu (F2 g b) w w4 from Tu.after (Aa J) S);clear R S)
    |fail)
   go_ret;exact⟨rfl,Aa W,Aa aa⟩
  ·rw[(TN B m).1,(TN B m).2]
   rw[B]at H;unfold PKV.val at H⊢;clear h I f B A V P Z q;go_enter func83,ntmps83
   go_wp2_with (first
    |(go_at_call 121;refine(Aa T).mono ?_;rintro e w1 ⟨rfl,d⟩;have j:=Ab (Ad (Aa E) d);have i:=(Aa O).below d;have q0:=i.at 0 rfl;have q1:=i.at 1 rfl;have q2:=i.at 2 rfl;have q3:=i.at 3 rfl;have q4:=i.at 4 rfl;have q5:=i.at 5 rfl;have q6:=i.at 6 rfl;clear d i)
    |(go_at_call 122;refine(Aa H _ (Aa j)).mono ?_;rintro e w2 ⟨rfl,u⟩;have y:=Ab (Ad (Aa j) u);clear u q0 q1 q2 q3 q4 q5 q6)
    |fail)
   go_ret;exact⟨rfl,(Aa K _ (Aa y)).mono (ν _),Tu.of_below (Aa y)⟩
variable {s:ByteArray}{g en:Nat}{w:ζ}
def A2.hear{T:Int}{Z:List Int}(h:A2 w g T Z){n:Nat}{i t:Int}(e:n<8)(d:DM Z (n:Int) i t=true):
  A2 ((w.setCell ⟨g,1+n*2,η⟩ (.int U i)).setCell ⟨g,1+n*2+1,η⟩ (.int U (t+1))) g T (EC Z (n:Int) i t):=by
 refine⟨?_,h.inv.hear _ _ _,h.tm⟩;have a:=h.blk.set (1+n*2) (.int U i);rw[WX]at a;have c:=a.set (1+n*2+1) (.int U (t+1));rw[Nat.add_assoc,WX]at c;rw[TS d,Nat.add_assoc];exact c
def pv{Z:List Int}{x i t:Int}(a:Dt x=true)(ht:E0 t=true):DM Z x i t=decide ((CG Z x).1<=i):=by
 unfold DM;rw[a,ht];rfl
def bF{w1:ζ}{a b:Nat}{u v:Value}(h:γ w.heap.size w w1):Tu (fun j=>j=g) w ((w1.setCell ⟨g,a,η⟩ u).setCell ⟨g,b,η⟩ v):=
 Tu.after h ((A8 w1 g a u).trans (A8 _ g b v) fun _ _ e=>e)
def jW(g:Nat)(T:Int)(Z:List Int)(x i t:Int)(w:ζ)(h:A2 w g T Z):
  ι β 82 #[.pointer (δ ⟨g,0,η⟩),.int U x,.int U i,.int U t] w fun e w'=>e=ε (.bool (DM Z x i t))/\A2 w' g T (EC Z x i t)/\Tu (fun j=>j=g) w w':=by
 by_cases q:Dt x=true
 case neg=>
  have z:Dt x=false:=by simpa using q
  have k:DM Z x i t=false:=by unfold DM;rw[z];rfl
  rw[MB k,k];have H:=Ab h;clear h;go_enter func82,ntmps82;go_wp2_with (go_at_call 117;refine(JB _ _).mono ?_;rintro e w1 ⟨rfl,c⟩;obtain rfl:=c.symm;clear c;rw[z]);go_ret;exact⟨rfl,Aa H,Tu.refl _ _⟩
 by_cases ht:E0 t=true
 case neg=>
  have v:E0 t=false:=by simpa using ht
  have k:DM Z x i t=false:=by unfold DM;rw[v,Bool.and_false];rfl
  rw[MB k,k];have H:=Ab h;clear h;go_enter func82,ntmps82
  go_wp2_with (first
   |(go_at_call 117;refine(JB _ _).mono ?_;rintro e w1 ⟨rfl,c⟩;obtain rfl:=c.symm;clear c;rw[q])
   |(go_at_call 118;refine(JC _ _).mono ?_;rintro e w1 ⟨rfl,c⟩;obtain rfl:=c.symm;clear c;rw[v]))
  go_ret;exact⟨rfl,Aa H,Tu.refl _ _⟩
 have k:=pv (Z:=Z) (i:=i) q ht;obtain⟨n,C,rfl⟩:=K1 q;have B:=JX Z C;obtain⟨c0,c1⟩:=h.at C;have N:(n:Int)<8:=by omega
 have H:=Ab h;by_cases A:(CG Z (n:Int)).1<=i
 case neg=>
  have d:DM Z (n:Int) i t=false:=by rw[k];exact decide_eq_false A
  rw[MB d,d];have m:i<(CG Z (n:Int)).1:=by omega
  rw[B]at m;clear h k B A d;simp only at m;generalize Z.getD (n*2) 0=a at*;generalize Z.getD (n*2+1) 0=b at*;have E:decide (i<a)=true:=decide_eq_true m;go_enter func82,ntmps82
  go_wp2_with (first
   |(go_at_call 117;refine(JB _ _).mono ?_;rintro e w1 ⟨rfl,c⟩;obtain rfl:=c.symm;clear c;rw[q])
   |(go_at_call 118;refine(JC _ _).mono ?_;rintro e w1 ⟨rfl,c⟩;obtain rfl:=c.symm;clear c;rw[ht])
   |(go_at_call 119;refine(Wl a b _).mono ?_;rintro e w1 ⟨rfl,f⟩;have l:=Ab f;clear f))
  go_ret;exact⟨rfl,(Aa H).below (Aa l),Tu.of_below (Aa l)⟩
 have d:DM Z (n:Int) i t=true:=by rw[k];exact decide_eq_true A
 have m:¬i<(CG Z (n:Int)).1:=by omega
 rw[B]at m;simp only at m;have J:=Ab (fun(wx:ζ) (r:γ w.heap.size w wx)=>(h.below r).hear C d);rw[d]
 have I:=Ab (fun(wx:ζ) (r:γ w.heap.size w wx)=>(show(wx.cell? ⟨g,1+n*2,η⟩=δ (.int U (Z.getD (n*2) 0))/\wx.cell? ⟨g,1+n*2+1,η⟩=δ (.int U (Z.getD (n*2+1) 0)))/\wx.frozen? ⟨g,1+n*2,η⟩=false/\wx.frozen? ⟨g,1+n*2+1,η⟩=false from
  ⟨(h.below r).at C,(h.below r).blk.frz _,(h.below r).blk.frz _⟩))
 generalize EC Z (n:Int) i t=O at*;clear h k B A d H;generalize Z.getD (n*2) 0=a at*;generalize Z.getD (n*2+1) 0=b at*;have E:decide (i<a)=false:=decide_eq_false m;have y:=O4.1 ht;have K:=Ab (fun wx=>nF i t y wx);clear y m;go_enter func82,ntmps82
 go_wp2_with (first
  |(go_at_call 117;refine(JB _ _).mono ?_;rintro e w1 ⟨rfl,c⟩;obtain rfl:=c.symm;clear c;rw[q])
  |(go_at_call 118;refine(JC _ _).mono ?_;rintro e w1 ⟨rfl,c⟩;obtain rfl:=c.symm;clear c;rw[ht])
  |(go_at_call 119;refine(Wl a b _).mono ?_;rintro e w1 ⟨rfl,f⟩;have l:=Ab f;clear f)
  |fail)
 clear c0 c1
 go_region_held3 (fun _=>True) (trivial) (first
  |(go_at_call 120;refine(Aa K _).mono ?_;rintro e w2 ⟨rfl,u⟩;have o:=Ab (Ad (Aa l).drew u);obtain⟨⟨c0,c1⟩,f0,f1⟩:=Aa I _ (Aa o);clear u)
  |fail)
 go_wp2;go_ret;exact⟨rfl,Aa J _ (Aa o),bF (Aa o)⟩
def Jm(w:ζ)(s:ByteArray)(e:Ending)(w':ζ):Prop:=
 ∃(kd fr ic o l k z h:Int) (a:Option Addr) (n c:Nat) (xs:List Nat) (t:ByteArray) (en:Nat),e=ε (κ #[.agg #[.int U kd,.int U fr,.int U ic,.int U o,.int U l,.int U k,.int U z,.int U h,α a n c,.string t],.int U ((en:Nat):Int)])/\
  RowAt w' a n xs/\DF w a n/\Fs s kd fr ic o l k z h xs t en/\γ w.heap.size w w'
def K7:FZ 0 0 0 0 0 0 0 0 [] ⟨#[]⟩:=⟨⟨rfl,rfl,rfl⟩,JH⟩
def KI{w':ζ}(h:Fs s 0 0 0 0 0 0 0 0 [] ⟨#[]⟩ en)(a:γ w.heap.size w w'):
  Jm w s (ε (κ #[.agg #[.int U 0,.int U 0,.int U 0,.int U 0,.int U 0,.int U 0,.int U 0,.int U 0,α none 0 0,.string ⟨#[]⟩],.int U ((en:Nat):Int)])) w':=
 ⟨0,0,0,0,0,0,0,0,η,0,0,[],⟨#[]⟩,en,rfl,C8 _,OU _ _,h,a⟩
def Mp{T:ByteArray}{kd fr ic o l k z h:Int}{xs:List Nat}{t:ByteArray}(a:openE s=0)(c:openT s=T)(d:IG T kd fr ic o l k z h xs t en):Fs s kd fr ic o l k z h xs t en:=
 ⟨fun h=>absurd a h,fun _=>by rw[c];exact d⟩
def ik(s:ByteArray):openE s=0\/openE s=2\/openE s=4:=by
 unfold openE;split
 ·exact .inr (.inl rfl)
 ·split
  ·exact .inl rfl
  ·exact .inr (.inr rfl)
def sI(s:ByteArray):(openT s).size<=s.size:=by
 unfold openT;split
 ·unfold Cn
  rw[ByteArray.size_extract];omega
 ·exact Nat.zero_le _
def Zs{kd:Int}{o l k z h:Int}{xs:List Nat}{t:ByteArray}(hp:Ll kd s o l k z h xs t en):en=0\/en=2\/en=3:=by
 by_cases a:kd=1
 ·by_cases c:s.size=0
  ·exact .inl ((hp.1 a).2 c).1
  ·exact .inr (.inr ((hp.1 a).1 c).1)
 ·by_cases d:kd=2
  ·rcases hp.2.1 d with h|h|h
   ·exact .inr (.inl h.2.1)
   ·exact .inr (.inr h.2.2.1)
   ·exact .inl h.2.2.1
  ·exact .inr (.inr (hp.2.2 a d).1)
def YL{T:ByteArray}(c:¬T.size<6)(m:¬8<=hdF T){o l k z h:Int}{xs:List Nat}{t:ByteArray}{en:Nat}(hp:Ll (hdK T:Int) (EA T) o l k z h xs t en):
  (en≠0->IG T 0 0 0 0 0 0 0 0 [] ⟨#[]⟩ en)/\(en=0->IG T (hdK T) (hdF T) (hdI T) o l k z h xs t 0):=by
 have u:(EA T).size=T.size-6:=by unfold EA;rw[ByteArray.size_extract];omega
 by_cases a:hdK T=1
 ·by_cases d:(EA T).size=0
  ·obtain⟨e,j⟩:=(hp.1 (by rw[a];rfl)).2 d
   refine⟨fun h=>absurd e h,fun _=>qY c ?_ a rfl ⟨rfl,rfl,rfl⟩ j⟩;rintro(h|h|h)
   ·exact m h
   ·exact h.1 a
   ·omega
  ·obtain⟨e,j⟩:=(hp.1 (by rw[a];rfl)).1 d
   exact⟨fun _=>Qk c (.inr (.inr ⟨a,by omega⟩)) e K7,fun h=>by omega⟩
 ·by_cases f:hdK T=2
  ·have i:=hp.2.1 (by rw[f];rfl)
   have q:¬H6 T:=by
    rintro(h|h|h)
    ·exact m h
    ·exact h.2 f
    ·exact a h.1
   refine⟨fun r=>WL c q a ?_ (fun _=>⟨rfl,rfl,rfl⟩) (fun h=>absurd h r),fun d=>WL c q a (by rw[d]at i;exact i) (fun h=>absurd rfl h) (fun _=>⟨rfl,rfl,rfl⟩)⟩;rcases i with h|h|h
   ·exact .inl ⟨h.1,h.2.1,JH⟩
   ·exact .inr (.inl ⟨h.1,h.2.1,h.2.2.1,JH⟩)
   ·exact absurd h.2.2.1 r
  ·obtain⟨e,j⟩:=hp.2.2 (by omega) (by omega)
   exact⟨fun _=>Qk c (.inr (.inl ⟨a,f⟩)) e K7,fun h=>by omega⟩
def Jw{tmps:Array Value}{W:ζ}{x:Int}{u0 u1 u2 u3 u4 u5 u6 u7 u8 u9:Value}(d:tmps.getD 2 undef=.pointer (δ ⟨g,0,η⟩))(e:tmps.getD 3 undef=.int U x)(f:AP W g u0 u1 u2 u3 u4 u5 u6 u7 u8 u9):
  (results Tryz.f81 tmps).run β W=.ok (κ #[.agg #[u0,u1,u2,u3,u4,u5,u6,u7,u8,u9],.int U x]) W:=by
 obtain⟨⟨h,i,j⟩,k,l,m,o,q,r,u⟩:=f.at;have a:tmps[2]?.getD undef=.pointer (δ ⟨g,0,η⟩):=by simpa using d
 have c:tmps[3]?.getD undef=.int U x:=by simpa using e
 simp[results,Tryz.results81,go_sem,a,c,h,i,j,k,l,m,o,q,r,u]
def TF(E:Nat)(o:E=2\/E=4)(s:ByteArray)(w:ζ)(l:s.size<=1048576)(h:openE s=E):ι β 81 #[.string s] w (Jm w s):=by
 have d:=fun wx=>Uh s wx l;rw[h]at d;have m:=Ab (show Fs s 0 0 0 0 0 0 0 0 [] ⟨#[]⟩ E from YK (by omega) h.symm K7);have j:=Ab d;have k:=Ab (JT w (.int U 0) (.int U 0) (.int U 0) (.int U 0) (.int U 0) (.int U 0) (.int U 0) (.int U 0) (α none 0 0) (.string ⟨#[]⟩));have i:=Ab (Bn w (.cells #[.int U 0,.int U 0,.int U 0,.int U 0,.int U 0,.int U 0,.int U 0,.int U 0,α none 0 0,.string ⟨#[]⟩] 157));generalize openT s=T at*;clear l h d;rcases o with rfl|rfl
 all_goals
  go_enter func81,ntmps81;go_wp2_with fail;refine(Aa j _).mono ?_;rintro e w1 ⟨rfl,a⟩;have c:=Ab ((Aa k).below a);have B1:=Ab (Ad (Aa i) a);clear a k i j;obtain⟨⟨r,u,v⟩,y,z,A,B,C,H,I⟩:=(Aa c).at;have f:=(Aa c).frz;go_wp2;have q:=Ab ((Aa c).sets (.int U 0) (.int U 0) (.int U 0) (.int U 0) (.int U 0) (.int U 0) (.int U 0) (.int U 0) (α none 0 0) (.string ⟨#[]⟩));have b:=Ab (JR (Aa B1) (θ _) (.int U 0) (.int U 0) (.int U 0) (.int U 0) (.int U 0) (.int U 0) (.int U 0) (.int U 0) (α none 0 0) (.string ⟨#[]⟩));exact bodyPost_ret (Jw rfl rfl (Aa q)) rfl (KI (Aa m) (Aa b))
def gW(s T:ByteArray)(w:ζ)(j:∀wx,ι β 113 #[.string s] wx fun e w'=>e=ε (κ #[.string T,.int U ((0:Nat):Int)])/\γ wx.heap.size wx w')(m:T.size<6)(k:Fs s 0 0 0 0 0 0 0 0 [] ⟨#[]⟩ 2):
  ι β 81 #[.string s] w (Jm w s):=by
 have h:=Ab j;have i:=Ab (JT w (.int U 0) (.int U 0) (.int U 0) (.int U 0) (.int U 0) (.int U 0) (.int U 0) (.int U 0) (α none 0 0) (.string ⟨#[]⟩));have d:=Ab (Bn w (.cells #[.int U 0,.int U 0,.int U 0,.int U 0,.int U 0,.int U 0,.int U 0,.int U 0,α none 0 0,.string ⟨#[]⟩] 157));have o:(T.size:Int)<6:=by omega
 have l:=Ab k;clear m j k;go_enter func81,ntmps81;go_wp2_with fail;refine(Aa h _).mono ?_;rintro e w1 ⟨rfl,a⟩;have c:=Ab ((Aa i).below a);have B1:=Ab (Ad (Aa d) a);clear a i d h;obtain⟨⟨r,u,v⟩,y,z,A,B,C,E,H⟩:=(Aa c).at;have f:=(Aa c).frz;go_wp2;have q:=Ab ((Aa c).sets (.int U 0) (.int U 0) (.int U 0) (.int U 0) (.int U 0) (.int U 0) (.int U 0) (.int U 0) (α none 0 0) (.string ⟨#[]⟩));have b:=Ab (JR (Aa B1) (θ _) (.int U 0) (.int U 0) (.int U 0) (.int U 0) (.int U 0) (.int U 0) (.int U 0) (.int U 0) (α none 0 0) (.string ⟨#[]⟩));exact bodyPost_ret (Jw rfl rfl (Aa q)) rfl (KI (en:=2) (Aa l) (Aa b))
def qa(s T:ByteArray)(h d i:Nat)(w:ζ)(z:∀wx,ι β 113 #[.string s] wx fun e w'=>e=ε (κ #[.string T,.int U ((0:Nat):Int)])/\γ wx.heap.size wx w')(H:¬T.size<6)
  (y:∀wx,ι β 114 #[.string T] wx fun e w'=>e=ε (.agg #[.int U (h:Int),.int U (d:Int),.int U (i:Int),.int U 0,.int U 0,.int U 0,.int U 0,.int U 0,α none 0 0,.string ⟨#[]⟩])/\γ wx.heap.size wx w') (J:8<=d) (A:Fs s 0 0 0 0 0 0 0 0 [] ⟨#[]⟩ 3):
  ι β 81 #[.string s] w (Jm w s):=by
 have r:=Ab z;have o:=Ab y;have u:=Ab (JT w (.int U 0) (.int U 0) (.int U 0) (.int U 0) (.int U 0) (.int U 0) (.int U 0) (.int U 0) (α none 0 0) (.string ⟨#[]⟩));have l:=Ab (Bn w (.cells #[.int U 0,.int U 0,.int U 0,.int U 0,.int U 0,.int U 0,.int U 0,.int U 0,α none 0 0,.string ⟨#[]⟩] 157));have I:¬((T.size:Int)<6):=by omega
 have K:(8:Int)<=(d:Int):=by omega
 have C:=Ab A;clear H J z y A;go_enter func81,ntmps81;go_wp2_with fail;refine(Aa r _).mono ?_;rintro e w1 ⟨rfl,a⟩;have v:=Ab ((Aa u).below a);have B1:=Ab (Ad (Aa l) a);clear a u l r;go_wp2_with fail;refine(Aa o _).mono ?_;rintro e w2 ⟨rfl,c⟩;have j:=Ab ((Aa v).below c);have m:=Ab (Ad (Aa B1) c);have N:=(Aa j).lt;clear c v B1 o;have k:=Ab ((Aa j).below (Bn w2 (.cells #[.int U (h:Int),.int U (d:Int),.int U (i:Int),.int U 0,.int U 0,.int U 0,.int U 0,.int U 0,α none 0 0,.string ⟨#[]⟩] 157)));have B:=Ab (Ad (Aa m) (Bn w2 (.cells #[.int U (h:Int),.int U (d:Int),.int U (i:Int),.int U 0,.int U 0,.int U 0,.int U 0,.int U 0,α none 0 0,.string ⟨#[]⟩] 157)));have E:=Ab (JT w2 (.int U (h:Int)) (.int U (d:Int)) (.int U (i:Int)) (.int U 0) (.int U 0) (.int U 0) (.int U 0) (.int U 0) (α none 0 0) (.string ⟨#[]⟩));clear j m
 iterate 7 (first|go_values|go_skip|go_guarded|go_step|go_upon|go_back|go_simp)
 generalize w2.alloc (.cells #[.int U (h:Int),.int U (d:Int),.int U (i:Int),.int U 0,.int U 0,.int U 0,.int U 0,.int U 0,α none 0 0,.string ⟨#[]⟩] 157)=w3 at*;generalize w2.heap.size=g at*;have m1:=(Aa E).at.1.2.1;obtain⟨⟨O,P,Q⟩,R,S,V,W,X,Y,Z⟩:=(Aa k).at;have f:=(Aa k).frz;go_wp2;have q:=Ab ((Aa k).sets (.int U 0) (.int U 0) (.int U 0) (.int U 0) (.int U 0) (.int U 0) (.int U 0) (.int U 0) (α none 0 0) (.string ⟨#[]⟩));have b:=Ab (JR (Aa B) (θ _) (.int U 0) (.int U 0) (.int U 0) (.int U 0) (.int U 0) (.int U 0) (.int U 0) (.int U 0) (α none 0 0) (.string ⟨#[]⟩));exact bodyPost_ret (Jw rfl rfl (Aa q)) rfl (KI (en:=3) (Aa C) (Aa b))
def kX(s T:ByteArray)(j m y:Nat)(w:ζ)(hs:T.size<=1048576)(hO:∀wx,ι β 113 #[.string s] wx fun e w'=>e=ε (κ #[.string T,.int U ((0:Nat):Int)])/\γ wx.heap.size wx w')(h6:¬T.size<6)
  (hH:∀wx,ι β 114 #[.string T] wx fun e w'=>e=ε (.agg #[.int U (j:Int),.int U (m:Int),.int U (y:Int),.int U 0,.int U 0,.int U 0,.int U 0,.int U 0,α none 0 0,.string ⟨#[]⟩])/\γ wx.heap.size wx w') (h8:¬8<=m)
  (hF:∀(o l k z h:Int) (xs:List Nat) (t:ByteArray) (en:Nat),Ll (j:Int) (EA T) o l k z h xs t en->(en≠0->Fs s 0 0 0 0 0 0 0 0 [] ⟨#[]⟩ en)/\(en=0->Fs s (j:Int) (m:Int) (y:Int) o l k z h xs t 0)):
  ι β 81 #[.string s] w (Jm w s):=by
 have HO:=Ab hO;have HH:=Ab hH;have X0:=Ab (JT w (.int U 0) (.int U 0) (.int U 0) (.int U 0) (.int U 0) (.int U 0) (.int U 0) (.int U 0) (α none 0 0) (.string ⟨#[]⟩));have B0:=Ab (Bn w (.cells #[.int U 0,.int U 0,.int U 0,.int U 0,.int U 0,.int U 0,.int U 0,.int U 0,α none 0 0,.string ⟨#[]⟩] 157));have ab:¬((T.size:Int)<6):=by omega
 have ac:¬((8:Int)<=(m:Int)):=by omega
 have ad:(6:Int)<=(T.size:Int):=by omega
 have HF:=Ab hF;have HB:=Ab (fun wx=>Ph (j:Int) (.int U (m:Int)) (.int U (y:Int)) (.int U 0) (.int U 0) (.int U 0) (.int U 0) (.int U 0) (α none 0 0) (.string ⟨#[]⟩) wx);have HR:=Ab (fun wx=>rT (j:Int) (.int U 0) (.int U 0) (.int U 0) (.int U 0) (.int U 0) (α none 0 0) (.string ⟨#[]⟩) (EA T) wx (by unfold EA;rw[ByteArray.size_extract];omega));have aa:T.extract 6 T.size=EA T:=rfl;clear h6 h8 hH hF hO hs;generalize EA T=R at*;generalize Gv (j:Int) (.int U 0) (.int U 0) (.int U 0) (.int U 0) (.int U 0) (α none 0 0) (.string ⟨#[]⟩)=V at*;go_enter func81,ntmps81;go_wp2_with fail;refine(Aa HO _).mono ?_;rintro e w1 ⟨rfl,E⟩;have X1:=Ab ((Aa X0).below E);have B1:=Ab (Ad (Aa B0) E);clear E X0 B0 HO;go_wp2_with fail;refine(Aa HH _).mono ?_;rintro e w2 ⟨rfl,H⟩;have X2:=Ab ((Aa X1).below H);have B2:=Ab (Ad (Aa B1) H);have Q:=(Aa X2).lt;clear H X1 B1 HH;have X3:=Ab ((Aa X2).below (Bn w2 (.cells #[.int U (j:Int),.int U (m:Int),.int U (y:Int),.int U 0,.int U 0,.int U 0,.int U 0,.int U 0,α none 0 0,.string ⟨#[]⟩] 157)));have B3:=Ab (Ad (Aa B2) (Bn w2 (.cells #[.int U (j:Int),.int U (m:Int),.int U (y:Int),.int U 0,.int U 0,.int U 0,.int U 0,.int U 0,α none 0 0,.string ⟨#[]⟩] 157)));have Y3:=Ab (JT w2 (.int U (j:Int)) (.int U (m:Int)) (.int U (y:Int)) (.int U 0) (.int U 0) (.int U 0) (.int U 0) (.int U 0) (α none 0 0) (.string ⟨#[]⟩));clear X2 B2
 iterate 7 (first|go_values|go_skip|go_guarded|go_step|go_upon|go_back|go_simp)
 generalize w2.alloc (.cells #[.int U (j:Int),.int U (m:Int),.int U (y:Int),.int U 0,.int U 0,.int U 0,.int U 0,.int U 0,α none 0 0,.string ⟨#[]⟩] 157)=w3 at*;generalize w2.heap.size=g at*;obtain⟨⟨k0,k1,k2⟩,k3,k4,k5,k6,k7,k8,k9⟩:=(Aa Y3).at;go_wp2_with fail;refine wp_region_any (by kernel_rfl) ?_;change wpAny _ _ _ _ _ _ _ (World.drew _);refine wpAny_take (i:=2) (v:=?_) rfl (by kernel_rfl) (by kernel_rfl) (by kernel_rfl) (fun _ _ _ h=>h) (Or.inl ⟨by rfl,?f2⟩) ?_
 case f2=>(intro w;go_simp;try with_reducible rfl)
 refine wpAny_take (i:=3) (v:=?_) rfl (by kernel_rfl) (by kernel_rfl) (by kernel_rfl) (fun _ _ _ h=>h) (Or.inl ⟨by rfl,?f3⟩) ?_
 case f3=>(intro w;go_simp;try with_reducible rfl)
 refine wpAny_ready (rs:=[0]) (by kernel_rfl) (by simp) ?_;refine AllReady.cons rfl (fun K u=>?_) AllReady.nil;go_simp;refine u _ _ ?_;clear u K k0 k1 k2 k3 k4 k5 k6 k7 k8 k9;refine wpAny_ready (rs:=[1]) (by kernel_rfl) (by simp) ?_;refine AllReady.cons rfl (fun K u=>?_) AllReady.nil;go_simp;refine(Aa HB _).mono ?_;rintro e w4 ⟨rfl,P⟩;have B:γ w3.heap.size w3 w4:=(Below.refl _ _).drew.trans P;have X4:=Ab ((Aa X3).below B);have Y4:=Ab ((Aa Y3).below B);have W:=Ab (Ad (Aa B3) B);clear P B X3 Y3 B3 HB;refine u _ _ ?_;clear u K;refine wpAny_ready (rs:=[4]) (by kernel_rfl) (by simp) ?_;refine AllReady.cons rfl (fun K u=>?_) AllReady.nil;go_simp;refine(Aa HR _).mono ?_;rintro e w5 ⟨o,l,k,z,h,a,n,c,xs,t,en,rfl,hr,S,I,C⟩;have Y:=Ab (S.mono (Aa W).size);have X5:=Ab ((Aa X4).below C);have O:=Ab ((Aa Y4).below C);have B5:=Ab (Ad (Aa W) C);have Z:=Ab hr;have A:=Ab (Zs I);have d:=Ab (Aa HF _ _ _ _ _ _ _ _ I);clear C X4 Y4 W HR hr S I HF;refine u _ _ ?_;clear u K;refine wpAny_take (i:=5) (v:=?_) rfl (by kernel_rfl) (by kernel_rfl) (by kernel_rfl) (fun _ _ _ h=>h) (Or.inl ⟨by rfl,?f5⟩) ?_
 case f5=>(intro w;go_simp;try with_reducible rfl)
 refine wpAny_take (i:=6) (v:=?_) rfl (by kernel_rfl) (by kernel_rfl) (by kernel_rfl) (fun _ _ _ h=>h) (Or.inl ⟨by rfl,?f6⟩) ?_
 case f6=>(intro w;go_simp;try with_reducible rfl)
 refine wpAny_take (i:=7) (v:=?_) rfl (by kernel_rfl) (by kernel_rfl) (by kernel_rfl) (fun _ _ _ h=>h) (Or.inl ⟨by rfl,?f7⟩) ?_
 case f7=>(intro w;go_simp;try with_reducible rfl)
 refine wpAny_take (i:=8) (v:=?_) rfl (by kernel_rfl) (by kernel_rfl) (by kernel_rfl) (fun _ _ _ h=>h) (Or.inl ⟨by rfl,?f8⟩) ?_
 case f8=>(intro w;go_simp;try with_reducible rfl)
 obtain⟨⟨m0,m1,m2⟩,m3,m4,m5,m6,m7,m8,m9⟩:=(Aa O).at;have mf:=(Aa O).frz;refine wpAny_ready (rs:=[9]) (by kernel_rfl) (by simp) ?_;refine AllReady.cons rfl (fun K u=>?_) AllReady.nil;go_simp;refine u _ _ ?_;clear u K;refine wpAny_take (i:=10) (v:=?_) rfl (by kernel_rfl) (by kernel_rfl) (by kernel_rfl) (fun _ _ _ h=>h) (Or.inl ⟨by rfl,?f10⟩) ?_
 case f10=>(intro w;go_simp;try with_reducible rfl)
 refine wpAny_done (by kernel_rfl) ?_ _;clear m0 m1 m2 m3 m4 m5 m6 m7 m8 m9 mf;have Y6:=Ab ((Aa O).setp (.int U o) (.int U l) (.int U k) (.int U z) (.int U h) (α a n c) (.string t));have J:=Ab ((Aa X5).otherp (Nat.ne_of_lt Q) (.int U o) (.int U l) (.int U k) (.int U z) (.int U h) (α a n c) (.string t));have X:=Ab (aV (Aa B5) (Nat.le_of_lt Q) (.int U o) (.int U l) (.int U k) (.int U z) (.int U h) (α a n c) (.string t));have R6:=Ab ((Aa Z).otherP ((Aa O).apart (Aa Z)) (.int U o) (.int U l) (.int U k) (.int U z) (.int U h) (α a n c) (.string t));clear X5 O B5 Z;change Exit.then _ _ _ _ (Jr w5 g (.int U o) (.int U l) (.int U k) (.int U z) (.int U h) (α a n c) (.string t));generalize Jr w5 g (.int U o) (.int U l) (.int U k) (.int U z) (.int U h) (α a n c) (.string t)=w6 at*;obtain⟨⟨k0,k1,k2⟩,k3,k4,k5,k6,k7,k8,k9⟩:=(Aa J).at;have f:=(Aa J).frz;rcases(Aa A)with rfl|rfl|rfl
 ·obtain⟨⟨m0,m1,m2⟩,m3,m4,m5,m6,m7,m8,m9⟩:=(Aa Y6).at
  have N:=Ab ((Aa d).2 rfl);clear d A;go_wp2;have q:=Ab ((Aa J).sets (.int U (j:Int)) (.int U (m:Int)) (.int U (y:Int)) (.int U o) (.int U l) (.int U k) (.int U z) (.int U h) (α a n c) (.string t));have b:=Ab (JR (Aa X) (θ _) (.int U (j:Int)) (.int U (m:Int)) (.int U (y:Int)) (.int U o) (.int U l) (.int U k) (.int U z) (.int U h) (α a n c) (.string t));have r:=Ab ((Aa R6).other10 ((Aa J).apart (Aa R6)) (.int U (j:Int)) (.int U (m:Int)) (.int U (y:Int)) (.int U o) (.int U l) (.int U k) (.int U z) (.int U h) (α a n c) (.string t));exact bodyPost_ret (Jw rfl rfl (Aa q)) rfl ⟨_,_,_,o,l,k,z,h,a,n,c,xs,t,0,rfl,Aa r,Aa Y,Aa N,Aa b⟩
 ·have N:=Ab ((Aa d).1 (by decide))
  clear d A;go_wp2;have q:=Ab ((Aa J).sets (.int U 0) (.int U 0) (.int U 0) (.int U 0) (.int U 0) (.int U 0) (.int U 0) (.int U 0) (α none 0 0) (.string ⟨#[]⟩));have b:=Ab (JR (Aa X) (θ _) (.int U 0) (.int U 0) (.int U 0) (.int U 0) (.int U 0) (.int U 0) (.int U 0) (.int U 0) (α none 0 0) (.string ⟨#[]⟩));exact bodyPost_ret (Jw rfl rfl (Aa q)) rfl (KI (en:=2) (Aa N) (Aa b))
 ·have N:=Ab ((Aa d).1 (by decide))
  clear d A;go_wp2;have q:=Ab ((Aa J).sets (.int U 0) (.int U 0) (.int U 0) (.int U 0) (.int U 0) (.int U 0) (.int U 0) (.int U 0) (α none 0 0) (.string ⟨#[]⟩));have b:=Ab (JR (Aa X) (θ _) (.int U 0) (.int U 0) (.int U 0) (.int U 0) (.int U 0) (.int U 0) (.int U 0) (.int U 0) (α none 0 0) (.string ⟨#[]⟩));exact bodyPost_ret (Jw rfl rfl (Aa q)) rfl (KI (en:=3) (Aa N) (Aa b))
def lw(s:ByteArray)(w:ζ)(j:s.size<=1048576):ι β 81 #[.string s] w (Jm w s):=by
 rcases ik s with a|a|a
 ·have f:=fun wx=>Uh s wx j
  have i:=sI s;obtain⟨T,d⟩:∃T,openT s=T:=⟨_,rfl⟩;rw[a,d]at f;rw[d]at i;by_cases c:T.size<6
  ·exact gW s T w f c (Mp a d (qZ c rfl K7))
  ·have m:=fun wx=>mA T (by omega) wx
   by_cases e:8<=hdF T
   ·exact qa s T _ _ _ w f c m e (Mp a d (Qk c (.inl e) rfl K7))
   ·refine kX s T _ _ _ w (by omega) f c m e fun o l k z h xs t en hp=>?_
    have:=YL c e hp;exact⟨fun h=>Mp a d (this.1 h),fun h=>Mp a d (this.2 h)⟩
 ·exact TF 2 (.inl rfl) s w j a
 ·exact TF 4 (.inr rfl) s w j a
end Go.Proofs.YtfpmnekaockodaaGreatDoor
