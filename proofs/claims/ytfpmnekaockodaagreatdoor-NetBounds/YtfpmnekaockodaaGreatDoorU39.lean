/- Laws for the proof. -/
import Derived.Test.YtfpmnekaockodaaGreatDoorU38
namespace Go.Proofs.YtfpmnekaockodaaGreatDoor
open Go.RowKit Go.Sort Go.Maps
set_option linter.all false
set_option maxRecDepth 4000
set_option maxHeartbeats 8000000
variable {D:DataW Unit}{L:List Nat}{b n x:Nat}{p:PD}{w:World}
theorem bQ{nx:Nat}(h:A1 w b n D)(d:n<=1048576)(c:x<4294967296)(a:nx<=1099511627776):
  ∃w',(Instr.mapUpdate 191 (.map (some b)) (.int .u32 (x:Int)) (.int .i64 (nx:Int))).run Tryz.prog w=.ok () w'/\A1 w' b (n+1) (D.put (.int .u32 (x:Int)) (.lit (.int .i64 (nx:Int))))/\w.mapTurned w' b:=
 World.ownsMap.store h J8 Tryz.underlying191 (by unfold maxLen;omega) (Nn c) (plainElem_int Tryz.underlying3 (WalkArith.wf_i64 (by omega)))
theorem bG(h:A1 w b n D)(d:x<4294967296):
  ∃w',(∀c,(Builtin.delete_ #[191,112] c #[.map (some b),.int .u32 (x:Int)]).run Tryz.prog w=.ok (.tuple #[]) w')/\A1 w' b n (D.del (.int .u32 (x:Int)))/\w.mapTurned w' b:=by
 obtain⟨w',a,r⟩:=World.ownsMap.drop h J8 Tryz.underlying191 (Nn d) 0;exact⟨w',fun c=>a,r⟩
theorem bI{y:Nat}(h:A1 w b n D)(d:Maps.has D (.int .u32 (y:Int))=true):y<4294967296:=by
 obtain⟨j,a,k,F,_,rfl⟩:=h;rw[has_eq,List.any_eq_true]at d;obtain⟨p,hp,e⟩:=d;obtain⟨v,f⟩:=fit_keys F p (mem_sorted.1 hp);rw[WideAt.sameKey_eq e]at f;obtain⟨x,_,c,i⟩:=Maps.keyOf_int_inv Tryz.underlying112 f;simp only[Lit.int.injEq,true_and]at c;subst c;have:=bounds_u32 i;omega
theorem OQ{w1 w2:World}{g:Nat}(h:Tu (Fe g b) w w1)(k:Tu (Fe g b) w1 w2):Tu (Fe g b) w w2:=h.trans k fun _ _ h=>h
theorem Tu.wide'{F G:Nat->Prop}{w':World}(h:Tu F w w')(e:∀j,F j->G j):Tu G w w':=⟨h.os,h.tape,h.output,h.size,fun k c d=>h.block k c fun a=>d (e k a)⟩
theorem TV{g m nx N:Nat}{c:List (Nat×Nat)}(v:BkA 193 w g [.int .i64 (m:Int),.map (some b),.int .i64 (nx:Int)])(k:A1 w b n D)(u:Et D nx c)
  (A:x<4294967296) (r:x∉c.map Prod.fst) (C:c.length<m) (z:m<=256) (B:nx<=N) (y:N<1099511627776):
  ∃a,(Instr.mapUpdate 191 (.map (some b)) (.int .u32 (x:Int)) (.int .i64 (nx:Int))).run Tryz.prog w.drew=.ok () a/\BkA 193 a g [.int .i64 (m:Int),.map (some b),.int .i64 (nx:Int)]/\
   AP (a.setCell ⟨g,2,none⟩ (.int .i64 ((nx+1:Nat):Int))) g b m (N+1) (c.map Prod.fst++[x])/\Tu (Fe g b) w (a.setCell ⟨g,2,none⟩ (.int .i64 ((nx+1:Nat):Int))):=by
 have l:A1 w.drew b c.length D:=by have:=(k.tu (F:=fun _=>False) (IE _ w) id).exact;rw[u.size]at this;exact this
 have d:g≠b:=fun e=>k.nocells _ _ _ (e▸v);obtain⟨a,h,o,q⟩:=bQ l (by omega) A (nx:=nx) (by omega);have ht:=Qu q;have f:BkA 193 a g [.int .i64 (m:Int),.map (some b),.int .i64 (nx:Int)]:=(show BkA 193 w.drew g _ from v).tu ht d;have i:=u.put k.tidy r;refine⟨a,h,f,⟨⟨nx+1,c++[(x,nx)],_,by omega,f.set 2 _,?_,i,by simp⟩,by simp;omega,z⟩,?_⟩
 ·have:=o.tu (Be a g 2 (.int .i64 ((nx+1:Nat):Int))) (fun e=>d e.symm)
  simpa using this
 ·exact(OQ (IE _ w) (ht.wide' fun j e=>.inr e)).trans (Be a g 2 _) fun j _ e=>.inl e
theorem iK(g b m N x:Nat)(L:List Nat)(w:World)(h:AP w g b m N L)(hx:x<4294967296)(C:x∉L)(hN:N<1099511627776):
  Calls Tryz.prog 123 #[.pointer (some ⟨g,0,none⟩),.int .u32 (x:Int)] w fun e w'=>e=.returned (.tuple #[])/\AP w' g b m (N+1) (G0 m L x)/\Tu (Fe g b) w w':=by
 obtain⟨nx,es,D,hn,E,H,A,i⟩:=h.it;have u:=h.len;have f:=h.most;have k0:=E.at 0 rfl;have k1:=E.at 1 rfl;have k2:=E.at 2 rfl;have d:L.length=es.length:=by rw[i,List.length_map]
 by_cases k:m=0
 ·subst k
  have HF:=Ab (show AP w g b 0 (N+1) (G0 0 L x) from h.mono (Nat.le_succ _));clear h E H A i u f d;go_enter Tryz.func123,Tryz.ntmps123;go_wp2;exact bodyPost_ret (v:=.tuple #[]) (by simp[results,Tryz.results123,go_sem]) rfl ⟨rfl,Aa HF,Tu.refl _ _⟩
 ·have af:((m:Int)==0)=false:=by simp;omega
  have hl:=World.ownsMap.len (A1.tu (F:=fun _=>False) H (IE _ w) id) Tryz.underlying191 3;rw[A.size,<-d]at hl;by_cases a:L.length=m
  ·have R:L≠ []:=fun e=>k (by rw[<-a,e];rfl)
   rw[a]at hl;have X:=Ab (show G0 m L x=L.tail++[x] by unfold G0;rw[if_neg k,if_pos a])
   match es,A,i,d with
   |[],_,i,_=>exact absurd i R
   |(y,s)::r,A,i,d=>
    have W:L.headD 0=y:=by rw[i];rfl
    have T:L.tail=r.map Prod.fst:=by rw[i];rfl
    have V:x∉r.map Prod.fst:=fun hh=>C (by rw[i];exact List.mem_cons_of_mem _ hh);have Y:=Ab (h.tu (F:=fun _=>False) ((IE _ w).trans (IE _ w.drew) fun _ _ h=>h) id id);have ad:y<4294967296:=by
     have h1:=A.has y;rw[show DF (((y,s)::r).map Prod.fst) y=true from by simp[DF]]at h1;exact bI H h1
    have HO:=Ab H;have HK:=Ab E;have HM:=Ab (A.del H.tidy);rw[T]at X;have HX:=Ab V;have aa:=Ab (show r.length<m by simp only[List.length_cons]at d;omega);have Z:=Ab R;have ab:=Ab W;clear h E H A i u a d C W T V k;go_enter Tryz.func123,Tryz.ntmps123;go_wp2_with fail;go_region_held (fun w'=>w'.cell? ⟨g,0,none⟩=some (.int .i64 (m:Int))/\w'.cell? ⟨g,1,none⟩=some (.map (some b))) (go_keep) (fail);go_wp2_with fail
    go_region_held (fun w'=>w'.cell? ⟨g,1,none⟩=some (.map (some b))) (go_keep) (first
     |(go_at_call 155;refine(ej g b m N L _ (Aa Y) (Aa Z)).mono ?_;rintro e w2 ⟨rfl,B⟩;rw[Aa ab];obtain⟨w3,ae,S,K⟩:=bG (A1.tu (F:=fun _=>False) (Aa HO) (Tu.of_below (show Below w.heap.size w w2 from((Below.refl _ _).drew.drew).trans B)) id) ad;have O:=Ab ((Aa HK).below (show Below w.heap.size w w2 from((Below.refl _ _).drew.drew).trans B));have q1:=(Aa O).at 1 rfl;have P:=Ab S;have Q:=Ab (show Tu (Fe g b) w w3 from Tu.after (show Below w.heap.size w w2 from((Below.refl _ _).drew.drew).trans B) ((Qu K).wide' fun j e=>.inr e));have z:=Ab (show BkA 193 w3 g _ from(Aa O).tu (Qu K) (fun e=>(Aa HO).nocells _ _ _ (e▸Aa HK)));have y1:=(Aa z).at 1 rfl;clear B S K))
    have y2:=(Aa z).at 2 rfl;obtain⟨w4,ac,c,l,o⟩:=TV (Aa z) (Aa P) (Aa HM) hx (Aa HX) (Aa aa) f hn hN;have z1:=c.at 1 rfl;have z2:=c.at 2 rfl;have z3:=c.frz 2;have I:=Ab l;have J:=Ab (OQ (Aa Q) o);clear l o c z P HM Q;go_wp2_with fail;go_region_held (fun w'=>w'.cell? ⟨g,1,none⟩=some (.map (some b))/\w'.cell? ⟨g,2,none⟩=some (.int .i64 (nx:Int))) (go_keep) (fail);go_wp2;go_end0;refine⟨rfl,?_,Aa J⟩;rw[Aa X];exact Aa I
  ·have X:=Ab (show G0 m L x=es.map Prod.fst++[x] by unfold G0;rw[if_neg k,if_neg a,i])
   have ag:((L.length:Int)==(m:Int))=false:=by simp;omega
   obtain⟨w4,ac,c,l,o⟩:=TV (w:=w.drew) E (H.tu (F:=fun _=>False) (IE _ w) id) A hx (by rw[<-i];exact C) (by omega) f hn hN;have z1:=c.at 1 rfl;have z2:=c.at 2 rfl;have z3:=c.frz 2;have I:=Ab l;have J:=Ab (OQ (IE _ w) o);generalize G0 m L x=SL at*;generalize L.length=q at*;clear h E H A i u a d C k l o c;go_enter Tryz.func123,Tryz.ntmps123;go_wp2_with fail;go_region_held (fun w'=>w'.cell? ⟨g,0,none⟩=some (.int .i64 (m:Int))/\w'.cell? ⟨g,1,none⟩=some (.map (some b))) (go_keep) (fail);go_wp2_with fail;go_region_held (fun w'=>w'.cell? ⟨g,1,none⟩=some (.map (some b))/\w'.cell? ⟨g,2,none⟩=some (.int .i64 (nx:Int))) (go_keep) (fail);go_wp2;go_end0;refine⟨rfl,?_,Aa J⟩;rw[Aa X];exact Aa I
theorem U9(h:BT p=false)(m:Nat):Dx L p=false/\Ht m L p=L:=by
 have a:Dx L p=false:=by unfold Dx;rw[h];rfl
 exact⟨a,by unfold Ht;rw[a];rfl⟩
theorem TO(h:DF L (Dq p)=true)(m:Nat):Dx L p=false/\Ht m L p=L:=by
 have a:Dx L p=false:=by unfold Dx;rw[h];simp
 exact⟨a,by unfold Ht;rw[a];rfl⟩
theorem TP(h:BT p=true)(c:DF L (Dq p)=false)(m:Nat):Dx L p=true/\Ht m L p=G0 m L (Dq p):=by
 have a:Dx L p=true:=by unfold Dx;rw[h,c];rfl
 exact⟨a,by unfold Ht;rw[a];rfl⟩
theorem ew(g b m N:Nat)(L:List Nat)(p:PKV)(w:World)(h:AP w g b m N L)(I:RowAt w p.r.a p.r.n p.r.xs)(hN:N<1099511627776):
  Calls Tryz.prog 83 #[.pointer (some ⟨g,0,none⟩),p.val] w fun e w'=>e=.returned (.bool (Dx L p.pd))/\AP w' g b m (N+1) (Ht m L p.pd)/\Tu (Fe g b) w w':=by
 have q:Below w.heap.size w (w.alloc (.cells #[.int .i64 p.o,.int .i64 p.l,.int .i64 p.k,.int .i64 p.z,.int .i64 p.h,.slice p.r.a p.r.n p.r.c,.string p.r.s] 75)):=Bv w _;have E:=Ab q;have O:=Ab (AN 75 w [.int .i64 p.o,.int .i64 p.l,.int .i64 p.k,.int .i64 p.z,.int .i64 p.h,.slice p.r.a p.r.n p.r.c,.string p.r.s]);have K:=Ab (fun w1 (v:Below w.heap.size w w1)=>h.below v);have Z:=Ab (fun w1 (v:Below w.heap.size w w1)=>I.below v);have A:=Ab (fun en ab w1 (v:Below w.heap.size w w1)=>EV p.o p.l p.k p.z p.h p.r.a p.r.n p.r.c p.r.xs p.r.s w1 (I.below v) en ab);have H:=Ab (fun w1 (v:Below w.heap.size w w1)=>mc g b m N L p w1 (h.below v) (I.below v));have V:=Ab (fun w1 (v:Below w.heap.size w w1)=>QX p w1 (I.below v));have P:=Ab (fun(h3:DF L (Dq p.pd)=false) w1 (v:Below w.heap.size w w1)=>iK g b m N (Dq p.pd) L w1 (h.below v) (QW _) (MS.1 h3) hN);cases f:BT p.pd
 ·have T:=Ab (Aa A 1 (Qn f) _ q)
  rw[(U9 f m).1,(U9 f m).2];unfold PKV.val;clear h I f A H V P Z q;go_enter Tryz.func83,Tryz.ntmps83;go_wp2_with (first|(go_at_call 121;refine(Aa T).mono ?_;rintro e w1 ⟨rfl,d⟩;have j:=Ab (Ad (Aa E) d);clear d)|fail);go_ret;exact⟨rfl,(Aa K _ (Aa j)).mono (Nat.le_succ _),Tu.of_below (Aa j)⟩
 ·have T:=Ab (Aa A 0 (MJ f) _ q)
  cases B:DF L (Dq p.pd)
  ·rw[(TP f B m).1,(TP f B m).2]
   rw[B]at H;have P:=Ab (Aa P B);generalize G0 m L (Dq p.pd)=SL at*;generalize Dq p.pd=X at*;unfold PKV.val at H V⊢;clear h I f B A Z q;go_enter Tryz.func83,Tryz.ntmps83
   go_wp2_with (first
    |(go_at_call 121;refine(Aa T).mono ?_;rintro e w1 ⟨rfl,d⟩;have j:=Ab (Ad (Aa E) d);have i:=(Aa O).below d;have Y:=Ab i;have q0:=i.at 0 rfl;have q1:=i.at 1 rfl;have q2:=i.at 2 rfl;have q3:=i.at 3 rfl;have q4:=i.at 4 rfl;have q5:=i.at 5 rfl;have q6:=i.at 6 rfl;clear d i)
    |(go_at_call 122;refine(Aa H _ (Aa j)).mono ?_;rintro e w2 ⟨rfl,u⟩;have y:=Ab (Ad (Aa j) u);have C:=(Aa Y).below u;have r0:=C.at 0 rfl;have r1:=C.at 1 rfl;have r2:=C.at 2 rfl;have r3:=C.at 3 rfl;have r4:=C.at 4 rfl;have r5:=C.at 5 rfl;have r6:=C.at 6 rfl;clear u C q0 q1 q2 q3 q4 q5 q6)
    |(go_at_call 124;refine(Aa V _ (Aa y)).mono ?_;rintro e w3 ⟨rfl,Q⟩;have J:=Ab (Ad (Aa y) Q);clear Q)
    |(go_at_call 123;refine(Aa P _ (Aa J)).mono ?_;rintro e w4 ⟨rfl,R,S⟩;have W:=Ab R;have aa:=Ab (show Tu (Fe g b) w w4 from Tu.after (Aa J) S);clear R S)
    |fail)
   go_ret;exact⟨rfl,Aa W,Aa aa⟩
  ·rw[(TO B m).1,(TO B m).2]
   rw[B]at H;unfold PKV.val at H⊢;clear h I f B A V P Z q;go_enter Tryz.func83,Tryz.ntmps83
   go_wp2_with (first
    |(go_at_call 121;refine(Aa T).mono ?_;rintro e w1 ⟨rfl,d⟩;have j:=Ab (Ad (Aa E) d);have i:=(Aa O).below d;have q0:=i.at 0 rfl;have q1:=i.at 1 rfl;have q2:=i.at 2 rfl;have q3:=i.at 3 rfl;have q4:=i.at 4 rfl;have q5:=i.at 5 rfl;have q6:=i.at 6 rfl;clear d i)
    |(go_at_call 122;refine(Aa H _ (Aa j)).mono ?_;rintro e w2 ⟨rfl,u⟩;have y:=Ab (Ad (Aa j) u);clear u q0 q1 q2 q3 q4 q5 q6)
    |fail)
   go_ret;exact⟨rfl,(Aa K _ (Aa y)).mono (Nat.le_succ _),Tu.of_below (Aa y)⟩
variable {s:ByteArray}{g en:Nat}{w:World}
theorem A6.hear{T:Int}{Z:List Int}(h:A6 w g T Z){n:Nat}{i t:Int}(e:n<8)(d:DR Z (n:Int) i t=true):
  A6 ((w.setCell ⟨g,1+n*2,none⟩ (.int .i64 i)).setCell ⟨g,1+n*2+1,none⟩ (.int .i64 (t+1))) g T (EH Z (n:Int) i t):=by
 refine⟨?_,h.inv.hear _ _ _,h.tm⟩;have a:=h.blk.set (1+n*2) (.int .i64 i);rw[W3]at a;have c:=a.set (1+n*2+1) (.int .i64 (t+1));rw[Nat.add_assoc,W3]at c;rw[TS d,Nat.add_assoc];exact c
theorem qY{Z:List Int}{x i t:Int}(a:DC x=true)(ht:E4 t=true):DR Z x i t=decide ((C7 Z x).1<=i):=by
 unfold DR;rw[a,ht];rfl
theorem cA{w1:World}{a b:Nat}{u v:Value}(h:Below w.heap.size w w1):Tu (fun j=>j=g) w ((w1.setCell ⟨g,a,none⟩ u).setCell ⟨g,b,none⟩ v):=
 Tu.after h ((Be w1 g a u).trans (Be _ g b v) fun _ _ e=>e)
theorem jE(g:Nat)(T:Int)(Z:List Int)(x i t:Int)(w:World)(h:A6 w g T Z):
  Calls Tryz.prog 82 #[.pointer (some ⟨g,0,none⟩),.int .i64 x,.int .i64 i,.int .i64 t] w fun e w'=>e=.returned (.bool (DR Z x i t))/\A6 w' g T (EH Z x i t)/\Tu (fun j=>j=g) w w':=by
 by_cases q:DC x=true
 case neg=>
  have z:DC x=false:=by simpa using q
  have k:DR Z x i t=false:=by unfold DR;rw[z];rfl
  rw[MC k,k];have H:=Ab h;clear h;go_enter Tryz.func82,Tryz.ntmps82;go_wp2_with (go_at_call 117;refine(Jz _ _).mono ?_;rintro e w1 ⟨rfl,c⟩;obtain rfl:=c.symm;clear c;rw[z]);go_ret;exact⟨rfl,Aa H,Tu.refl _ _⟩
 by_cases ht:E4 t=true
 case neg=>
  have v:E4 t=false:=by simpa using ht
  have k:DR Z x i t=false:=by unfold DR;rw[v,Bool.and_false];rfl
  rw[MC k,k];have H:=Ab h;clear h;go_enter Tryz.func82,Tryz.ntmps82
  go_wp2_with (first
   |(go_at_call 117;refine(Jz _ _).mono ?_;rintro e w1 ⟨rfl,c⟩;obtain rfl:=c.symm;clear c;rw[q])
   |(go_at_call 118;refine(JA _ _).mono ?_;rintro e w1 ⟨rfl,c⟩;obtain rfl:=c.symm;clear c;rw[v]))
  go_ret;exact⟨rfl,Aa H,Tu.refl _ _⟩
 have k:=qY (Z:=Z) (i:=i) q ht;obtain⟨n,C,rfl⟩:=K0 q;have B:=JV Z C;obtain⟨c0,c1⟩:=h.at C;have N:(n:Int)<8:=by omega
 have H:=Ab h;by_cases A:(C7 Z (n:Int)).1<=i
 case neg=>
  have d:DR Z (n:Int) i t=false:=by rw[k];exact decide_eq_false A
  rw[MC d,d];have m:i<(C7 Z (n:Int)).1:=by omega
  rw[B]at m;clear h k B A d;simp only at m;generalize Z.getD (n*2) 0=a at*;generalize Z.getD (n*2+1) 0=b at*;have E:decide (i<a)=true:=decide_eq_true m;go_enter Tryz.func82,Tryz.ntmps82
  go_wp2_with (first
   |(go_at_call 117;refine(Jz _ _).mono ?_;rintro e w1 ⟨rfl,c⟩;obtain rfl:=c.symm;clear c;rw[q])
   |(go_at_call 118;refine(JA _ _).mono ?_;rintro e w1 ⟨rfl,c⟩;obtain rfl:=c.symm;clear c;rw[ht])
   |(go_at_call 119;refine(U1 a b _).mono ?_;rintro e w1 ⟨rfl,f⟩;have l:=Ab f;clear f))
  go_ret;exact⟨rfl,(Aa H).below (Aa l),Tu.of_below (Aa l)⟩
 have d:DR Z (n:Int) i t=true:=by rw[k];exact decide_eq_true A
 have m:¬i<(C7 Z (n:Int)).1:=by omega
 rw[B]at m;simp only at m;have J:=Ab (fun(wx:World) (r:Below w.heap.size w wx)=>(h.below r).hear C d);rw[d]
 have I:=Ab (fun(wx:World) (r:Below w.heap.size w wx)=>(show(wx.cell? ⟨g,1+n*2,none⟩=some (.int .i64 (Z.getD (n*2) 0))/\wx.cell? ⟨g,1+n*2+1,none⟩=some (.int .i64 (Z.getD (n*2+1) 0)))/\wx.frozen? ⟨g,1+n*2,none⟩=false/\wx.frozen? ⟨g,1+n*2+1,none⟩=false from
  ⟨(h.below r).at C,(h.below r).blk.frz _,(h.below r).blk.frz _⟩))
 generalize EH Z (n:Int) i t=O at*;clear h k B A d H;generalize Z.getD (n*2) 0=a at*;generalize Z.getD (n*2+1) 0=b at*;have E:decide (i<a)=false:=decide_eq_false m;have y:=OX.1 ht;have K:=Ab (fun wx=>me i t y wx);clear y m;go_enter Tryz.func82,Tryz.ntmps82
 go_wp2_with (first
  |(go_at_call 117;refine(Jz _ _).mono ?_;rintro e w1 ⟨rfl,c⟩;obtain rfl:=c.symm;clear c;rw[q])
  |(go_at_call 118;refine(JA _ _).mono ?_;rintro e w1 ⟨rfl,c⟩;obtain rfl:=c.symm;clear c;rw[ht])
  |(go_at_call 119;refine(U1 a b _).mono ?_;rintro e w1 ⟨rfl,f⟩;have l:=Ab f;clear f)
  |fail)
 clear c0 c1
 go_region_held3 (fun _=>True) (trivial) (first
  |(go_at_call 120;refine(Aa K _).mono ?_;rintro e w2 ⟨rfl,u⟩;have o:=Ab (Ad (Aa l).drew u);obtain⟨⟨c0,c1⟩,f0,f1⟩:=Aa I _ (Aa o);clear u)
  |fail)
 go_wp2;go_ret;exact⟨rfl,Aa J _ (Aa o),cA (Aa o)⟩
def Jm(w:World)(s:ByteArray)(e:Ending)(w':World):Prop:=
 ∃(kd fr ic o l k z h:Int) (a:Option Addr) (n c:Nat) (xs:List Nat) (t:ByteArray) (en:Nat),e=.returned (.tuple #[.agg #[.int .i64 kd,.int .i64 fr,.int .i64 ic,.int .i64 o,.int .i64 l,.int .i64 k,.int .i64 z,.int .i64 h,.slice a n c,.string t],.int .i64 ((en:Nat):Int)])/\
  RowAt w' a n xs/\DI w a n/\AQ s kd fr ic o l k z h xs t en/\Below w.heap.size w w'
theorem K7:FZ 0 0 0 0 0 0 0 0 [] ⟨#[]⟩:=⟨⟨rfl,rfl,rfl⟩,JI⟩
theorem Ky{w':World}(h:AQ s 0 0 0 0 0 0 0 0 [] ⟨#[]⟩ en)(a:Below w.heap.size w w'):
  Jm w s (.returned (.tuple #[.agg #[.int .i64 0,.int .i64 0,.int .i64 0,.int .i64 0,.int .i64 0,.int .i64 0,.int .i64 0,.int .i64 0,.slice none 0 0,.string ⟨#[]⟩],.int .i64 ((en:Nat):Int)])) w':=
 ⟨0,0,0,0,0,0,0,0,none,0,0,[],⟨#[]⟩,en,rfl,Dv _,OA _ _,h,a⟩
theorem Mr{T:ByteArray}{kd fr ic o l k z h:Int}{xs:List Nat}{t:ByteArray}(a:openE s=0)(c:openT s=T)(d:IF T kd fr ic o l k z h xs t en):AQ s kd fr ic o l k z h xs t en:=
 ⟨fun h=>absurd a h,fun _=>by rw[c];exact d⟩
theorem iO(s:ByteArray):openE s=0\/openE s=2\/openE s=4:=by
 unfold openE;split
 ·exact .inr (.inl rfl)
 ·split
  ·exact .inl rfl
  ·exact .inr (.inr rfl)
theorem rY(s:ByteArray):(openT s).size<=s.size:=by
 unfold openT;split
 ·unfold Cs
  rw[ByteArray.size_extract];omega
 ·exact Nat.zero_le _
theorem YX{kd:Int}{o l k z h:Int}{xs:List Nat}{t:ByteArray}(hp:Lm kd s o l k z h xs t en):en=0\/en=2\/en=3:=by
 by_cases a:kd=1
 ·by_cases c:s.size=0
  ·exact .inl ((hp.1 a).2 c).1
  ·exact .inr (.inr ((hp.1 a).1 c).1)
 ·by_cases d:kd=2
  ·rcases hp.2.1 d with h|h|h
   ·exact .inr (.inl h.2.1)
   ·exact .inr (.inr h.2.2.1)
   ·exact .inl h.2.2.1
  ·exact .inr (.inr (hp.2.2 a d).1)
theorem Yi{T:ByteArray}(c:¬T.size<6)(m:¬8<=hdF T){o l k z h:Int}{xs:List Nat}{t:ByteArray}{en:Nat}(hp:Lm (hdK T:Int) (EE T) o l k z h xs t en):
  (en≠0->IF T 0 0 0 0 0 0 0 0 [] ⟨#[]⟩ en)/\(en=0->IF T (hdK T) (hdF T) (hdI T) o l k z h xs t 0):=by
 have u:(EE T).size=T.size-6:=by unfold EE;rw[ByteArray.size_extract];omega
 by_cases a:hdK T=1
 ·by_cases d:(EE T).size=0
  ·obtain⟨e,j⟩:=(hp.1 (by rw[a];rfl)).2 d
   refine⟨fun h=>absurd e h,fun _=>oH c ?_ a rfl ⟨rfl,rfl,rfl⟩ j⟩;rintro(h|h|h)
   ·exact m h
   ·exact h.1 a
   ·omega
  ·obtain⟨e,j⟩:=(hp.1 (by rw[a];rfl)).1 d
   exact⟨fun _=>Qj c (.inr (.inr ⟨a,by omega⟩)) e K7,fun h=>by omega⟩
 ·by_cases f:hdK T=2
  ·have i:=hp.2.1 (by rw[f];rfl)
   have q:¬F3 T:=by
    rintro(h|h|h)
    ·exact m h
    ·exact h.2 f
    ·exact a h.1
   refine⟨fun r=>WK c q a ?_ (fun _=>⟨rfl,rfl,rfl⟩) (fun h=>absurd h r),fun d=>WK c q a (by rw[d]at i;exact i) (fun h=>absurd rfl h) (fun _=>⟨rfl,rfl,rfl⟩)⟩;rcases i with h|h|h
   ·exact .inl ⟨h.1,h.2.1,JI⟩
   ·exact .inr (.inl ⟨h.1,h.2.1,h.2.2.1,JI⟩)
   ·exact absurd h.2.2.1 r
  ·obtain⟨e,j⟩:=hp.2.2 (by omega) (by omega)
   exact⟨fun _=>Qj c (.inr (.inl ⟨a,f⟩)) e K7,fun h=>by omega⟩
theorem Jv{tmps:Array Value}{W:World}{x:Int}{u0 u1 u2 u3 u4 u5 u6 u7 u8 u9:Value}(d:tmps.getD 2 undef=.pointer (some ⟨g,0,none⟩))(e:tmps.getD 3 undef=.int .i64 x)(f:AR W g u0 u1 u2 u3 u4 u5 u6 u7 u8 u9):
  (results Tryz.f81 tmps).run Tryz.prog W=.ok (.tuple #[.agg #[u0,u1,u2,u3,u4,u5,u6,u7,u8,u9],.int .i64 x]) W:=by
 obtain⟨⟨h,i,j⟩,k,l,m,o,q,r,u⟩:=f.at;have a:tmps[2]?.getD undef=.pointer (some ⟨g,0,none⟩):=by simpa using d
 have c:tmps[3]?.getD undef=.int .i64 x:=by simpa using e
 simp[results,Tryz.results81,go_sem,a,c,h,i,j,k,l,m,o,q,r,u]
theorem Up(E:Nat)(o:E=2\/E=4)(s:ByteArray)(w:World)(l:s.size<=1048576)(h:openE s=E):Calls Tryz.prog 81 #[.string s] w (Jm w s):=by
 have d:=fun wx=>Ug s wx l;rw[h]at d;have m:=Ab (show AQ s 0 0 0 0 0 0 0 0 [] ⟨#[]⟩ E from Yh (by omega) h.symm K7);have j:=Ab d;have k:=Ab (JR w (.int .i64 0) (.int .i64 0) (.int .i64 0) (.int .i64 0) (.int .i64 0) (.int .i64 0) (.int .i64 0) (.int .i64 0) (.slice none 0 0) (.string ⟨#[]⟩));have i:=Ab (Bv w (.cells #[.int .i64 0,.int .i64 0,.int .i64 0,.int .i64 0,.int .i64 0,.int .i64 0,.int .i64 0,.int .i64 0,.slice none 0 0,.string ⟨#[]⟩] 157));generalize openT s=T at*;clear l h d;rcases o with rfl|rfl
 all_goals
  go_enter Tryz.func81,Tryz.ntmps81;go_wp2_with fail;refine(Aa j _).mono ?_;rintro e w1 ⟨rfl,a⟩;have c:=Ab ((Aa k).below a);have B1:=Ab (Ad (Aa i) a);clear a k i j;obtain⟨⟨r,u,v⟩,y,z,A,B,C,H,I⟩:=(Aa c).at;have f:=(Aa c).frz;go_wp2;have q:=Ab ((Aa c).sets (.int .i64 0) (.int .i64 0) (.int .i64 0) (.int .i64 0) (.int .i64 0) (.int .i64 0) (.int .i64 0) (.int .i64 0) (.slice none 0 0) (.string ⟨#[]⟩));have b:=Ab (JP (Aa B1) (Nat.le_refl _) (.int .i64 0) (.int .i64 0) (.int .i64 0) (.int .i64 0) (.int .i64 0) (.int .i64 0) (.int .i64 0) (.int .i64 0) (.slice none 0 0) (.string ⟨#[]⟩));exact bodyPost_ret (Jv rfl rfl (Aa q)) rfl (Ky (Aa m) (Aa b))
theorem gA(s T:ByteArray)(w:World)(j:∀wx,Calls Tryz.prog 113 #[.string s] wx fun e w'=>e=.returned (.tuple #[.string T,.int .i64 ((0:Nat):Int)])/\Below wx.heap.size wx w')(m:T.size<6)(k:AQ s 0 0 0 0 0 0 0 0 [] ⟨#[]⟩ 2):
  Calls Tryz.prog 81 #[.string s] w (Jm w s):=by
 have h:=Ab j;have i:=Ab (JR w (.int .i64 0) (.int .i64 0) (.int .i64 0) (.int .i64 0) (.int .i64 0) (.int .i64 0) (.int .i64 0) (.int .i64 0) (.slice none 0 0) (.string ⟨#[]⟩));have d:=Ab (Bv w (.cells #[.int .i64 0,.int .i64 0,.int .i64 0,.int .i64 0,.int .i64 0,.int .i64 0,.int .i64 0,.int .i64 0,.slice none 0 0,.string ⟨#[]⟩] 157));have o:(T.size:Int)<6:=by omega
 have l:=Ab k;clear m j k;go_enter Tryz.func81,Tryz.ntmps81;go_wp2_with fail;refine(Aa h _).mono ?_;rintro e w1 ⟨rfl,a⟩;have c:=Ab ((Aa i).below a);have B1:=Ab (Ad (Aa d) a);clear a i d h;obtain⟨⟨r,u,v⟩,y,z,A,B,C,E,H⟩:=(Aa c).at;have f:=(Aa c).frz;go_wp2;have q:=Ab ((Aa c).sets (.int .i64 0) (.int .i64 0) (.int .i64 0) (.int .i64 0) (.int .i64 0) (.int .i64 0) (.int .i64 0) (.int .i64 0) (.slice none 0 0) (.string ⟨#[]⟩));have b:=Ab (JP (Aa B1) (Nat.le_refl _) (.int .i64 0) (.int .i64 0) (.int .i64 0) (.int .i64 0) (.int .i64 0) (.int .i64 0) (.int .i64 0) (.int .i64 0) (.slice none 0 0) (.string ⟨#[]⟩));exact bodyPost_ret (Jv rfl rfl (Aa q)) rfl (Ky (en:=2) (Aa l) (Aa b))
theorem oJ(s T:ByteArray)(h d i:Nat)(w:World)(z:∀wx,Calls Tryz.prog 113 #[.string s] wx fun e w'=>e=.returned (.tuple #[.string T,.int .i64 ((0:Nat):Int)])/\Below wx.heap.size wx w')(H:¬T.size<6)
  (y:∀wx,Calls Tryz.prog 114 #[.string T] wx fun e w'=>e=.returned (.agg #[.int .i64 (h:Int),.int .i64 (d:Int),.int .i64 (i:Int),.int .i64 0,.int .i64 0,.int .i64 0,.int .i64 0,.int .i64 0,.slice none 0 0,.string ⟨#[]⟩])/\Below wx.heap.size wx w') (J:8<=d) (A:AQ s 0 0 0 0 0 0 0 0 [] ⟨#[]⟩ 3):
  Calls Tryz.prog 81 #[.string s] w (Jm w s):=by
 have r:=Ab z;have o:=Ab y;have u:=Ab (JR w (.int .i64 0) (.int .i64 0) (.int .i64 0) (.int .i64 0) (.int .i64 0) (.int .i64 0) (.int .i64 0) (.int .i64 0) (.slice none 0 0) (.string ⟨#[]⟩));have l:=Ab (Bv w (.cells #[.int .i64 0,.int .i64 0,.int .i64 0,.int .i64 0,.int .i64 0,.int .i64 0,.int .i64 0,.int .i64 0,.slice none 0 0,.string ⟨#[]⟩] 157));have I:¬((T.size:Int)<6):=by omega
 have K:(8:Int)<=(d:Int):=by omega
 have C:=Ab A;clear H J z y A;go_enter Tryz.func81,Tryz.ntmps81;go_wp2_with fail;refine(Aa r _).mono ?_;rintro e w1 ⟨rfl,a⟩;have v:=Ab ((Aa u).below a);have B1:=Ab (Ad (Aa l) a);clear a u l r;go_wp2_with fail;refine(Aa o _).mono ?_;rintro e w2 ⟨rfl,c⟩;have j:=Ab ((Aa v).below c);have m:=Ab (Ad (Aa B1) c);have N:=(Aa j).lt;clear c v B1 o;have k:=Ab ((Aa j).below (Bv w2 (.cells #[.int .i64 (h:Int),.int .i64 (d:Int),.int .i64 (i:Int),.int .i64 0,.int .i64 0,.int .i64 0,.int .i64 0,.int .i64 0,.slice none 0 0,.string ⟨#[]⟩] 157)));have B:=Ab (Ad (Aa m) (Bv w2 (.cells #[.int .i64 (h:Int),.int .i64 (d:Int),.int .i64 (i:Int),.int .i64 0,.int .i64 0,.int .i64 0,.int .i64 0,.int .i64 0,.slice none 0 0,.string ⟨#[]⟩] 157)));have E:=Ab (JR w2 (.int .i64 (h:Int)) (.int .i64 (d:Int)) (.int .i64 (i:Int)) (.int .i64 0) (.int .i64 0) (.int .i64 0) (.int .i64 0) (.int .i64 0) (.slice none 0 0) (.string ⟨#[]⟩));clear j m
 iterate 7 (first|go_values|go_skip|go_guarded|go_step|go_upon|go_back|go_simp)
 generalize w2.alloc (.cells #[.int .i64 (h:Int),.int .i64 (d:Int),.int .i64 (i:Int),.int .i64 0,.int .i64 0,.int .i64 0,.int .i64 0,.int .i64 0,.slice none 0 0,.string ⟨#[]⟩] 157)=w3 at*;generalize w2.heap.size=g at*;have m1:=(Aa E).at.1.2.1;obtain⟨⟨O,P,Q⟩,R,S,V,W,X,Y,Z⟩:=(Aa k).at;have f:=(Aa k).frz;go_wp2;have q:=Ab ((Aa k).sets (.int .i64 0) (.int .i64 0) (.int .i64 0) (.int .i64 0) (.int .i64 0) (.int .i64 0) (.int .i64 0) (.int .i64 0) (.slice none 0 0) (.string ⟨#[]⟩));have b:=Ab (JP (Aa B) (Nat.le_refl _) (.int .i64 0) (.int .i64 0) (.int .i64 0) (.int .i64 0) (.int .i64 0) (.int .i64 0) (.int .i64 0) (.int .i64 0) (.slice none 0 0) (.string ⟨#[]⟩));exact bodyPost_ret (Jv rfl rfl (Aa q)) rfl (Ky (en:=3) (Aa C) (Aa b))
theorem kC(s T:ByteArray)(j m y:Nat)(w:World)(hs:T.size<=1048576)(hO:∀wx,Calls Tryz.prog 113 #[.string s] wx fun e w'=>e=.returned (.tuple #[.string T,.int .i64 ((0:Nat):Int)])/\Below wx.heap.size wx w')(h6:¬T.size<6)
  (hH:∀wx,Calls Tryz.prog 114 #[.string T] wx fun e w'=>e=.returned (.agg #[.int .i64 (j:Int),.int .i64 (m:Int),.int .i64 (y:Int),.int .i64 0,.int .i64 0,.int .i64 0,.int .i64 0,.int .i64 0,.slice none 0 0,.string ⟨#[]⟩])/\Below wx.heap.size wx w') (h8:¬8<=m)
  (hF:∀(o l k z h:Int) (xs:List Nat) (t:ByteArray) (en:Nat),Lm (j:Int) (EE T) o l k z h xs t en->(en≠0->AQ s 0 0 0 0 0 0 0 0 [] ⟨#[]⟩ en)/\(en=0->AQ s (j:Int) (m:Int) (y:Int) o l k z h xs t 0)):
  Calls Tryz.prog 81 #[.string s] w (Jm w s):=by
 have HO:=Ab hO;have HH:=Ab hH;have X0:=Ab (JR w (.int .i64 0) (.int .i64 0) (.int .i64 0) (.int .i64 0) (.int .i64 0) (.int .i64 0) (.int .i64 0) (.int .i64 0) (.slice none 0 0) (.string ⟨#[]⟩));have B0:=Ab (Bv w (.cells #[.int .i64 0,.int .i64 0,.int .i64 0,.int .i64 0,.int .i64 0,.int .i64 0,.int .i64 0,.int .i64 0,.slice none 0 0,.string ⟨#[]⟩] 157));have ab:¬((T.size:Int)<6):=by omega
 have ac:¬((8:Int)<=(m:Int)):=by omega
 have ad:(6:Int)<=(T.size:Int):=by omega
 have HF:=Ab hF;have HB:=Ab (fun wx=>Pe (j:Int) (.int .i64 (m:Int)) (.int .i64 (y:Int)) (.int .i64 0) (.int .i64 0) (.int .i64 0) (.int .i64 0) (.int .i64 0) (.slice none 0 0) (.string ⟨#[]⟩) wx);have HR:=Ab (fun wx=>rz (j:Int) (.int .i64 0) (.int .i64 0) (.int .i64 0) (.int .i64 0) (.int .i64 0) (.slice none 0 0) (.string ⟨#[]⟩) (EE T) wx (by unfold EE;rw[ByteArray.size_extract];omega));have aa:T.extract 6 T.size=EE T:=rfl;clear h6 h8 hH hF hO hs;generalize EE T=R at*;generalize Gw (j:Int) (.int .i64 0) (.int .i64 0) (.int .i64 0) (.int .i64 0) (.int .i64 0) (.slice none 0 0) (.string ⟨#[]⟩)=V at*;go_enter Tryz.func81,Tryz.ntmps81;go_wp2_with fail;refine(Aa HO _).mono ?_;rintro e w1 ⟨rfl,E⟩;have X1:=Ab ((Aa X0).below E);have B1:=Ab (Ad (Aa B0) E);clear E X0 B0 HO;go_wp2_with fail;refine(Aa HH _).mono ?_;rintro e w2 ⟨rfl,H⟩;have X2:=Ab ((Aa X1).below H);have B2:=Ab (Ad (Aa B1) H);have Q:=(Aa X2).lt;clear H X1 B1 HH;have X3:=Ab ((Aa X2).below (Bv w2 (.cells #[.int .i64 (j:Int),.int .i64 (m:Int),.int .i64 (y:Int),.int .i64 0,.int .i64 0,.int .i64 0,.int .i64 0,.int .i64 0,.slice none 0 0,.string ⟨#[]⟩] 157)));have B3:=Ab (Ad (Aa B2) (Bv w2 (.cells #[.int .i64 (j:Int),.int .i64 (m:Int),.int .i64 (y:Int),.int .i64 0,.int .i64 0,.int .i64 0,.int .i64 0,.int .i64 0,.slice none 0 0,.string ⟨#[]⟩] 157)));have Y3:=Ab (JR w2 (.int .i64 (j:Int)) (.int .i64 (m:Int)) (.int .i64 (y:Int)) (.int .i64 0) (.int .i64 0) (.int .i64 0) (.int .i64 0) (.int .i64 0) (.slice none 0 0) (.string ⟨#[]⟩));clear X2 B2
 iterate 7 (first|go_values|go_skip|go_guarded|go_step|go_upon|go_back|go_simp)
 generalize w2.alloc (.cells #[.int .i64 (j:Int),.int .i64 (m:Int),.int .i64 (y:Int),.int .i64 0,.int .i64 0,.int .i64 0,.int .i64 0,.int .i64 0,.slice none 0 0,.string ⟨#[]⟩] 157)=w3 at*;generalize w2.heap.size=g at*;obtain⟨⟨k0,k1,k2⟩,k3,k4,k5,k6,k7,k8,k9⟩:=(Aa Y3).at;go_wp2_with fail;refine wp_region_any (by kernel_rfl) ?_;change wpAny _ _ _ _ _ _ _ (World.drew _);refine wpAny_take (i:=2) (v:=?_) rfl (by kernel_rfl) (by kernel_rfl) (by kernel_rfl) (fun _ _ _ h=>h) (Or.inl ⟨by rfl,?f2⟩) ?_
 case f2=>(intro w;go_simp;try with_reducible rfl)
 refine wpAny_take (i:=3) (v:=?_) rfl (by kernel_rfl) (by kernel_rfl) (by kernel_rfl) (fun _ _ _ h=>h) (Or.inl ⟨by rfl,?f3⟩) ?_
 case f3=>(intro w;go_simp;try with_reducible rfl)
 refine wpAny_ready (rs:=[0]) (by kernel_rfl) (by simp) ?_;refine AllReady.cons rfl (fun K u=>?_) AllReady.nil;go_simp;refine u _ _ ?_;clear u K k0 k1 k2 k3 k4 k5 k6 k7 k8 k9;refine wpAny_ready (rs:=[1]) (by kernel_rfl) (by simp) ?_;refine AllReady.cons rfl (fun K u=>?_) AllReady.nil;go_simp;refine(Aa HB _).mono ?_;rintro e w4 ⟨rfl,P⟩;have B:Below w3.heap.size w3 w4:=(Below.refl _ _).drew.trans P;have X4:=Ab ((Aa X3).below B);have Y4:=Ab ((Aa Y3).below B);have W:=Ab (Ad (Aa B3) B);clear P B X3 Y3 B3 HB;refine u _ _ ?_;clear u K;refine wpAny_ready (rs:=[4]) (by kernel_rfl) (by simp) ?_;refine AllReady.cons rfl (fun K u=>?_) AllReady.nil;go_simp;refine(Aa HR _).mono ?_;rintro e w5 ⟨o,l,k,z,h,a,n,c,xs,t,en,rfl,hr,S,I,C⟩;have Y:=Ab (S.mono (Aa W).size);have X5:=Ab ((Aa X4).below C);have O:=Ab ((Aa Y4).below C);have B5:=Ab (Ad (Aa W) C);have Z:=Ab hr;have A:=Ab (YX I);have d:=Ab (Aa HF _ _ _ _ _ _ _ _ I);clear C X4 Y4 W HR hr S I HF;refine u _ _ ?_;clear u K;refine wpAny_take (i:=5) (v:=?_) rfl (by kernel_rfl) (by kernel_rfl) (by kernel_rfl) (fun _ _ _ h=>h) (Or.inl ⟨by rfl,?f5⟩) ?_
 case f5=>(intro w;go_simp;try with_reducible rfl)
 refine wpAny_take (i:=6) (v:=?_) rfl (by kernel_rfl) (by kernel_rfl) (by kernel_rfl) (fun _ _ _ h=>h) (Or.inl ⟨by rfl,?f6⟩) ?_
 case f6=>(intro w;go_simp;try with_reducible rfl)
 refine wpAny_take (i:=7) (v:=?_) rfl (by kernel_rfl) (by kernel_rfl) (by kernel_rfl) (fun _ _ _ h=>h) (Or.inl ⟨by rfl,?f7⟩) ?_
 case f7=>(intro w;go_simp;try with_reducible rfl)
 refine wpAny_take (i:=8) (v:=?_) rfl (by kernel_rfl) (by kernel_rfl) (by kernel_rfl) (fun _ _ _ h=>h) (Or.inl ⟨by rfl,?f8⟩) ?_
 case f8=>(intro w;go_simp;try with_reducible rfl)
 obtain⟨⟨m0,m1,m2⟩,m3,m4,m5,m6,m7,m8,m9⟩:=(Aa O).at;have mf:=(Aa O).frz;refine wpAny_ready (rs:=[9]) (by kernel_rfl) (by simp) ?_;refine AllReady.cons rfl (fun K u=>?_) AllReady.nil;go_simp;refine u _ _ ?_;clear u K;refine wpAny_take (i:=10) (v:=?_) rfl (by kernel_rfl) (by kernel_rfl) (by kernel_rfl) (fun _ _ _ h=>h) (Or.inl ⟨by rfl,?f10⟩) ?_
 case f10=>(intro w;go_simp;try with_reducible rfl)
 refine wpAny_done (by kernel_rfl) ?_ _;clear m0 m1 m2 m3 m4 m5 m6 m7 m8 m9 mf;have Y6:=Ab ((Aa O).setp (.int .i64 o) (.int .i64 l) (.int .i64 k) (.int .i64 z) (.int .i64 h) (.slice a n c) (.string t));have J:=Ab ((Aa X5).otherp (Nat.ne_of_lt Q) (.int .i64 o) (.int .i64 l) (.int .i64 k) (.int .i64 z) (.int .i64 h) (.slice a n c) (.string t));have X:=Ab (aH (Aa B5) (Nat.le_of_lt Q) (.int .i64 o) (.int .i64 l) (.int .i64 k) (.int .i64 z) (.int .i64 h) (.slice a n c) (.string t));have R6:=Ab ((Aa Z).otherP ((Aa O).apart (Aa Z)) (.int .i64 o) (.int .i64 l) (.int .i64 k) (.int .i64 z) (.int .i64 h) (.slice a n c) (.string t));clear X5 O B5 Z;change Exit.then _ _ _ _ (Jq w5 g (.int .i64 o) (.int .i64 l) (.int .i64 k) (.int .i64 z) (.int .i64 h) (.slice a n c) (.string t));generalize Jq w5 g (.int .i64 o) (.int .i64 l) (.int .i64 k) (.int .i64 z) (.int .i64 h) (.slice a n c) (.string t)=w6 at*;obtain⟨⟨k0,k1,k2⟩,k3,k4,k5,k6,k7,k8,k9⟩:=(Aa J).at;have f:=(Aa J).frz;rcases(Aa A)with rfl|rfl|rfl
 ·obtain⟨⟨m0,m1,m2⟩,m3,m4,m5,m6,m7,m8,m9⟩:=(Aa Y6).at
  have N:=Ab ((Aa d).2 rfl);clear d A;go_wp2;have q:=Ab ((Aa J).sets (.int .i64 (j:Int)) (.int .i64 (m:Int)) (.int .i64 (y:Int)) (.int .i64 o) (.int .i64 l) (.int .i64 k) (.int .i64 z) (.int .i64 h) (.slice a n c) (.string t));have b:=Ab (JP (Aa X) (Nat.le_refl _) (.int .i64 (j:Int)) (.int .i64 (m:Int)) (.int .i64 (y:Int)) (.int .i64 o) (.int .i64 l) (.int .i64 k) (.int .i64 z) (.int .i64 h) (.slice a n c) (.string t));have r:=Ab ((Aa R6).other10 ((Aa J).apart (Aa R6)) (.int .i64 (j:Int)) (.int .i64 (m:Int)) (.int .i64 (y:Int)) (.int .i64 o) (.int .i64 l) (.int .i64 k) (.int .i64 z) (.int .i64 h) (.slice a n c) (.string t));exact bodyPost_ret (Jv rfl rfl (Aa q)) rfl ⟨_,_,_,o,l,k,z,h,a,n,c,xs,t,0,rfl,Aa r,Aa Y,Aa N,Aa b⟩
 ·have N:=Ab ((Aa d).1 (by decide))
  clear d A;go_wp2;have q:=Ab ((Aa J).sets (.int .i64 0) (.int .i64 0) (.int .i64 0) (.int .i64 0) (.int .i64 0) (.int .i64 0) (.int .i64 0) (.int .i64 0) (.slice none 0 0) (.string ⟨#[]⟩));have b:=Ab (JP (Aa X) (Nat.le_refl _) (.int .i64 0) (.int .i64 0) (.int .i64 0) (.int .i64 0) (.int .i64 0) (.int .i64 0) (.int .i64 0) (.int .i64 0) (.slice none 0 0) (.string ⟨#[]⟩));exact bodyPost_ret (Jv rfl rfl (Aa q)) rfl (Ky (en:=2) (Aa N) (Aa b))
 ·have N:=Ab ((Aa d).1 (by decide))
  clear d A;go_wp2;have q:=Ab ((Aa J).sets (.int .i64 0) (.int .i64 0) (.int .i64 0) (.int .i64 0) (.int .i64 0) (.int .i64 0) (.int .i64 0) (.int .i64 0) (.slice none 0 0) (.string ⟨#[]⟩));have b:=Ab (JP (Aa X) (Nat.le_refl _) (.int .i64 0) (.int .i64 0) (.int .i64 0) (.int .i64 0) (.int .i64 0) (.int .i64 0) (.int .i64 0) (.int .i64 0) (.slice none 0 0) (.string ⟨#[]⟩));exact bodyPost_ret (Jv rfl rfl (Aa q)) rfl (Ky (en:=3) (Aa N) (Aa b))
theorem kE(s:ByteArray)(w:World)(j:s.size<=1048576):Calls Tryz.prog 81 #[.string s] w (Jm w s):=by
 rcases iO s with a|a|a
 ·have f:=fun wx=>Ug s wx j
  have i:=rY s;obtain⟨T,d⟩:∃T,openT s=T:=⟨_,rfl⟩;rw[a,d]at f;rw[d]at i;by_cases c:T.size<6
  ·exact gA s T w f c (Mr a d (oI c rfl K7))
  ·have m:=fun wx=>kH T (by omega) wx
   by_cases e:8<=hdF T
   ·exact oJ s T _ _ _ w f c m e (Mr a d (Qj c (.inl e) rfl K7))
   ·refine kC s T _ _ _ w (by omega) f c m e fun o l k z h xs t en hp=>?_
    have:=Yi c e hp;exact⟨fun h=>Mr a d (this.1 h),fun h=>Mr a d (this.2 h)⟩
 ·exact Up 2 (.inl rfl) s w j a
 ·exact Up 4 (.inr rfl) s w j a
end Go.Proofs.YtfpmnekaockodaaGreatDoor
