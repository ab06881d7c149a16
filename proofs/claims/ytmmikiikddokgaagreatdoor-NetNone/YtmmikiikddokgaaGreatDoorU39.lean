/-
  Laws that the proof stands on.
-/
import Derived.Test.YtmmikiikddokgaaGreatDoorU38
namespace Go.Proofs.YtmmikiikddokgaaGreatDoor
open Go.RowKit Go.Sort Go.Maps
set_option linter.unusedVariables false
set_option linter.unusedSimpArgs false
set_option maxRecDepth 4000
set_option maxHeartbeats 8000000
variable {D:DataW Unit}{L:List Nat}{b n x:Nat}{p:PD}{w:World}
theorem bL{nx:Nat}(h:A0 w b n D)(d:n<=1048576)(c:x<4294967296)(a:nx<=1099511627776):
  ∃w',(Instr.mapUpdate 191 (.map (some b)) (.int .u32 (x:Int)) (.int .i64 (nx:Int))).run Tryz.prog w=.ok () w'/\A0 w' b (n+1) (D.put (.int .u32 (x:Int)) (.lit (.int .i64 (nx:Int))))/\w.mapTurned w' b:=
 World.ownsMap.store h JT Tryz.underlying191 (by unfold maxLen;omega) (M9 c) (plainElem_int Tryz.underlying3 (WalkArith.wf_i64 (by omega)))
theorem bB(h:A0 w b n D)(d:x<4294967296):
  ∃w',(∀c,(Builtin.delete_ #[191,112] c #[.map (some b),.int .u32 (x:Int)]).run Tryz.prog w=.ok (.tuple #[]) w')/\A0 w' b n (D.del (.int .u32 (x:Int)))/\w.mapTurned w' b:=by
 obtain⟨w',a,r⟩:=World.ownsMap.drop h JT Tryz.underlying191 (M9 d) 0;exact⟨w',fun c=>a,r⟩
theorem bE{y:Nat}(h:A0 w b n D)(d:Maps.has D (.int .u32 (y:Int))=true):y<4294967296:=by
 obtain⟨j,a,k,F,_,rfl⟩:=h;rw[has_eq,List.any_eq_true]at d;obtain⟨p,hp,e⟩:=d;obtain⟨v,f⟩:=fit_keys F p (mem_sorted.1 hp);rw[WideAt.sameKey_eq e]at f;obtain⟨x,_,c,i⟩:=Maps.keyOf_int_inv Tryz.underlying112 f;simp only[Lit.int.injEq,true_and]at c;subst c;have:=bounds_u32 i;omega
theorem OB{w1 w2:World}{g:Nat}(h:Tu (E2 g b) w w1)(k:Tu (E2 g b) w1 w2):Tu (E2 g b) w w2:=h.trans k fun _ _ h=>h
theorem Tu.wide'{F G:Nat->Prop}{w':World}(h:Tu F w w')(e:∀j,F j->G j):Tu G w w':=⟨h.os,h.tape,h.output,h.size,fun k c d=>h.block k c fun a=>d (e k a)⟩
theorem Ue{g m nx N:Nat}{c:List (Nat×Nat)}(v:BkA 193 w g [.int .i64 (m:Int),.map (some b),.int .i64 (nx:Int)])(k:A0 w b n D)(u:En D nx c)
  (A:x<4294967296) (r:x∉c.map Prod.fst) (C:c.length<m) (z:m<=256) (B:nx<=N) (y:N<1099511627776):
  ∃a,(Instr.mapUpdate 191 (.map (some b)) (.int .u32 (x:Int)) (.int .i64 (nx:Int))).run Tryz.prog w.drew=.ok () a/\BkA 193 a g [.int .i64 (m:Int),.map (some b),.int .i64 (nx:Int)]/\
   AP (a.setCell ⟨g,2,none⟩ (.int .i64 ((nx+1:Nat):Int))) g b m (N+1) (c.map Prod.fst++[x])/\Tu (E2 g b) w (a.setCell ⟨g,2,none⟩ (.int .i64 ((nx+1:Nat):Int))):=by
 have l:A0 w.drew b c.length D:=by have:=(k.tu (F:=fun _=>False) (It _ w) id).exact;rw[u.size]at this;exact this
 have d:g≠b:=fun e=>k.nocells _ _ _ (e▸v);obtain⟨a,h,o,q⟩:=bL l (by omega) A (nx:=nx) (by omega);have ht:=Qg q;have f:BkA 193 a g [.int .i64 (m:Int),.map (some b),.int .i64 (nx:Int)]:=(show BkA 193 w.drew g _ from v).tu ht d;have i:=u.put k.tidy r;refine⟨a,h,f,⟨⟨nx+1,c++[(x,nx)],_,by omega,f.set 2 _,?_,i,by simp⟩,by simp;omega,z⟩,?_⟩
 ·have:=o.tu (Be a g 2 (.int .i64 ((nx+1:Nat):Int))) (fun e=>d e.symm)
  simpa using this
 ·exact(OB (It _ w) (ht.wide' fun j e=>.inr e)).trans (Be a g 2 _) fun j _ e=>.inl e
theorem iD(g b m N x:Nat)(L:List Nat)(w:World)(h:AP w g b m N L)(hx:x<4294967296)(C:x∉L)(hN:N<1099511627776):
  Calls Tryz.prog 123 #[.pointer (some ⟨g,0,none⟩),.int .u32 (x:Int)] w fun e w'=>e=.returned (.tuple #[])/\AP w' g b m (N+1) (GM m L x)/\Tu (E2 g b) w w':=by
 obtain⟨nx,es,D,hn,E,G,A,i⟩:=h.it;have u:=h.len;have f:=h.most;have k0:=E.at 0 rfl;have k1:=E.at 1 rfl;have k2:=E.at 2 rfl;have d:L.length=es.length:=by rw[i,List.length_map]
 by_cases k:m=0
 ·subst k
  have HF:=Ab (show AP w g b 0 (N+1) (GM 0 L x) from h.mono (Nat.le_succ _));clear h E G A i u f d;go_enter Tryz.func123,Tryz.ntmps123;go_wp2;exact bodyPost_ret (v:=.tuple #[]) (by simp[results,Tryz.results123,go_sem]) rfl ⟨rfl,Aa HF,Tu.refl _ _⟩
 ·have ae:((m:Int)==0)=false:=by simp;omega
  have hl:=World.ownsMap.len (A0.tu (F:=fun _=>False) G (It _ w) id) Tryz.underlying191 3;rw[A.size,<-d]at hl;by_cases a:L.length=m
  ·have Q:L≠ []:=fun e=>k (by rw[<-a,e];rfl)
   rw[a]at hl;have W:=Ab (show GM m L x=L.tail++[x] by unfold GM;rw[if_neg k,if_pos a])
   match es,A,i,d with
   |[],_,i,_=>exact absurd i Q
   |(y,s)::r,A,i,d=>
    have V:L.headD 0=y:=by rw[i];rfl
    have S:L.tail=r.map Prod.fst:=by rw[i];rfl
    have T:x∉r.map Prod.fst:=fun hh=>C (by rw[i];exact List.mem_cons_of_mem _ hh);have X:=Ab (h.tu (F:=fun _=>False) ((It _ w).trans (It _ w.drew) fun _ _ h=>h) id id);have ac:y<4294967296:=by
     have h1:=A.has y;rw[show DC (((y,s)::r).map Prod.fst) y=true from by simp[DC]]at h1;exact bE G h1
    have HO:=Ab G;have HK:=Ab E;have HM:=Ab (A.del G.tidy);rw[S]at W;have HX:=Ab T;have Z:=Ab (show r.length<m by simp only[List.length_cons]at d;omega);have Y:=Ab Q;have aa:=Ab V;clear h E G A i u a d C V S T k;go_enter Tryz.func123,Tryz.ntmps123;go_wp2_with fail;go_region_held (fun w'=>w'.cell? ⟨g,0,none⟩=some (.int .i64 (m:Int))/\w'.cell? ⟨g,1,none⟩=some (.map (some b))) (go_keep) (fail);go_wp2_with fail
    go_region_held (fun w'=>w'.cell? ⟨g,1,none⟩=some (.map (some b))) (go_keep) (first
     |(go_at_call 155;refine(cV g b m N L _ (Aa X) (Aa Y)).mono ?_;rintro e w2 ⟨rfl,B⟩;rw[Aa aa];obtain⟨w3,ad,R,J⟩:=bB (A0.tu (F:=fun _=>False) (Aa HO) (Tu.of_below (show Below w.heap.size w w2 from((Below.refl _ _).drew.drew).trans B)) id) ac;have K:=Ab ((Aa HK).below (show Below w.heap.size w w2 from((Below.refl _ _).drew.drew).trans B));have q1:=(Aa K).at 1 rfl;have O:=Ab R;have P:=Ab (show Tu (E2 g b) w w3 from Tu.after (show Below w.heap.size w w2 from((Below.refl _ _).drew.drew).trans B) ((Qg J).wide' fun j e=>.inr e));have z:=Ab (show BkA 193 w3 g _ from(Aa K).tu (Qg J) (fun e=>(Aa HO).nocells _ _ _ (e▸Aa HK)));have y1:=(Aa z).at 1 rfl;clear B R J))
    have y2:=(Aa z).at 2 rfl;obtain⟨w4,ab,c,l,o⟩:=Ue (Aa z) (Aa O) (Aa HM) hx (Aa HX) (Aa Z) f hn hN;have z1:=c.at 1 rfl;have z2:=c.at 2 rfl;have z3:=c.frz 2;have H:=Ab l;have I:=Ab (OB (Aa P) o);clear l o c z O HM P;go_wp2_with fail;go_region_held (fun w'=>w'.cell? ⟨g,1,none⟩=some (.map (some b))/\w'.cell? ⟨g,2,none⟩=some (.int .i64 (nx:Int))) (go_keep) (fail);go_wp2;go_end0;refine⟨rfl,?_,Aa I⟩;rw[Aa W];exact Aa H
  ·have W:=Ab (show GM m L x=es.map Prod.fst++[x] by unfold GM;rw[if_neg k,if_neg a,i])
   have af:((L.length:Int)==(m:Int))=false:=by simp;omega
   obtain⟨w4,ab,c,l,o⟩:=Ue (w:=w.drew) E (G.tu (F:=fun _=>False) (It _ w) id) A hx (by rw[<-i];exact C) (by omega) f hn hN;have z1:=c.at 1 rfl;have z2:=c.at 2 rfl;have z3:=c.frz 2;have H:=Ab l;have I:=Ab (OB (It _ w) o);generalize GM m L x=SL at*;generalize L.length=q at*;clear h E G A i u a d C k l o c;go_enter Tryz.func123,Tryz.ntmps123;go_wp2_with fail;go_region_held (fun w'=>w'.cell? ⟨g,0,none⟩=some (.int .i64 (m:Int))/\w'.cell? ⟨g,1,none⟩=some (.map (some b))) (go_keep) (fail);go_wp2_with fail;go_region_held (fun w'=>w'.cell? ⟨g,1,none⟩=some (.map (some b))/\w'.cell? ⟨g,2,none⟩=some (.int .i64 (nx:Int))) (go_keep) (fail);go_wp2;go_end0;refine⟨rfl,?_,Aa I⟩;rw[Aa W];exact Aa H
theorem Vv(h:BO p=false)(m:Nat):Dw L p=false/\Hg m L p=L:=by
 have a:Dw L p=false:=by unfold Dw;rw[h];rfl
 exact⟨a,by unfold Hg;rw[a];rfl⟩
theorem TY(h:DC L (Dq p)=true)(m:Nat):Dw L p=false/\Hg m L p=L:=by
 have a:Dw L p=false:=by unfold Dw;rw[h];simp
 exact⟨a,by unfold Hg;rw[a];rfl⟩
theorem TZ(h:BO p=true)(c:DC L (Dq p)=false)(m:Nat):Dw L p=true/\Hg m L p=GM m L (Dq p):=by
 have a:Dw L p=true:=by unfold Dw;rw[h,c];rfl
 exact⟨a,by unfold Hg;rw[a];rfl⟩
theorem eb(g b m N:Nat)(L:List Nat)(p:PKV)(w:World)(h:AP w g b m N L)(H:RowAt w p.r.a p.r.n p.r.xs)(hN:N<1099511627776):
  Calls Tryz.prog 83 #[.pointer (some ⟨g,0,none⟩),p.val] w fun e w'=>e=.returned (.bool (Dw L p.pd))/\AP w' g b m (N+1) (Hg m L p.pd)/\Tu (E2 g b) w w':=by
 have q:Below w.heap.size w (w.alloc (.cells #[.int .i64 p.o,.int .i64 p.l,.int .i64 p.k,.int .i64 p.z,.int .i64 p.h,.slice p.r.a p.r.n p.r.c,.string p.r.s] 75)):=Bt w _;have E:=Ab q;have K:=Ab (AO 75 w [.int .i64 p.o,.int .i64 p.l,.int .i64 p.k,.int .i64 p.z,.int .i64 p.h,.slice p.r.a p.r.n p.r.c,.string p.r.s]);have J:=Ab (fun w1 (v:Below w.heap.size w w1)=>h.below v);have Y:=Ab (fun w1 (v:Below w.heap.size w w1)=>H.below v);have A:=Ab (fun en aa w1 (v:Below w.heap.size w w1)=>EL p.o p.l p.k p.z p.h p.r.a p.r.n p.r.c p.r.xs p.r.s w1 (H.below v) en aa);have G:=Ab (fun w1 (v:Below w.heap.size w w1)=>lh g b m N L p w1 (h.below v) (H.below v));have T:=Ab (fun w1 (v:Below w.heap.size w w1)=>Ql p w1 (H.below v));have O:=Ab (fun(h3:DC L (Dq p.pd)=false) w1 (v:Below w.heap.size w w1)=>iD g b m N (Dq p.pd) L w1 (h.below v) (Qk _) (Mt.1 h3) hN);cases f:BO p.pd
 ·have S:=Ab (Aa A 1 (PQ f) _ q)
  rw[(Vv f m).1,(Vv f m).2];unfold PKV.val;clear h H f A G T O Y q;go_enter Tryz.func83,Tryz.ntmps83;go_wp2_with (first|(go_at_call 121;refine(Aa S).mono ?_;rintro e w1 ⟨rfl,d⟩;have j:=Ab (Ad (Aa E) d);clear d)|fail);go_ret;exact⟨rfl,(Aa J _ (Aa j)).mono (Nat.le_succ _),Tu.of_below (Aa j)⟩
 ·have S:=Ab (Aa A 0 (My f) _ q)
  cases B:DC L (Dq p.pd)
  ·rw[(TZ f B m).1,(TZ f B m).2]
   rw[B]at G;have O:=Ab (Aa O B);generalize GM m L (Dq p.pd)=SL at*;generalize Dq p.pd=X at*;unfold PKV.val at G T⊢;clear h H f B A Y q;go_enter Tryz.func83,Tryz.ntmps83
   go_wp2_with (first
    |(go_at_call 121;refine(Aa S).mono ?_;rintro e w1 ⟨rfl,d⟩;have j:=Ab (Ad (Aa E) d);have i:=(Aa K).below d;have W:=Ab i;have q0:=i.at 0 rfl;have q1:=i.at 1 rfl;have q2:=i.at 2 rfl;have q3:=i.at 3 rfl;have q4:=i.at 4 rfl;have q5:=i.at 5 rfl;have q6:=i.at 6 rfl;clear d i)
    |(go_at_call 122;refine(Aa G _ (Aa j)).mono ?_;rintro e w2 ⟨rfl,u⟩;have y:=Ab (Ad (Aa j) u);have C:=(Aa W).below u;have r0:=C.at 0 rfl;have r1:=C.at 1 rfl;have r2:=C.at 2 rfl;have r3:=C.at 3 rfl;have r4:=C.at 4 rfl;have r5:=C.at 5 rfl;have r6:=C.at 6 rfl;clear u C q0 q1 q2 q3 q4 q5 q6)
    |(go_at_call 124;refine(Aa T _ (Aa y)).mono ?_;rintro e w3 ⟨rfl,P⟩;have I:=Ab (Ad (Aa y) P);clear P)
    |(go_at_call 123;refine(Aa O _ (Aa I)).mono ?_;rintro e w4 ⟨rfl,Q,R⟩;have V:=Ab Q;have Z:=Ab (show Tu (E2 g b) w w4 from Tu.after (Aa I) R);clear Q R)
    |fail)
   go_ret;exact⟨rfl,Aa V,Aa Z⟩
  ·rw[(TY B m).1,(TY B m).2]
   rw[B]at G;unfold PKV.val at G⊢;clear h H f B A T O Y q;go_enter Tryz.func83,Tryz.ntmps83
   go_wp2_with (first
    |(go_at_call 121;refine(Aa S).mono ?_;rintro e w1 ⟨rfl,d⟩;have j:=Ab (Ad (Aa E) d);have i:=(Aa K).below d;have q0:=i.at 0 rfl;have q1:=i.at 1 rfl;have q2:=i.at 2 rfl;have q3:=i.at 3 rfl;have q4:=i.at 4 rfl;have q5:=i.at 5 rfl;have q6:=i.at 6 rfl;clear d i)
    |(go_at_call 122;refine(Aa G _ (Aa j)).mono ?_;rintro e w2 ⟨rfl,u⟩;have y:=Ab (Ad (Aa j) u);clear u q0 q1 q2 q3 q4 q5 q6)
    |fail)
   go_ret;exact⟨rfl,(Aa J _ (Aa y)).mono (Nat.le_succ _),Tu.of_below (Aa y)⟩
variable {s:ByteArray}{g en:Nat}{w:World}
theorem A5.hear{T:Int}{Z:List Int}(h:A5 w g T Z){n:Nat}{i t:Int}(e:n<8)(d:DM Z (n:Int) i t=true):
  A5 ((w.setCell ⟨g,1+n*2,none⟩ (.int .i64 i)).setCell ⟨g,1+n*2+1,none⟩ (.int .i64 (t+1))) g T (EA Z (n:Int) i t):=by
 refine⟨?_,h.inv.hear _ _ _,h.tm⟩;have a:=h.blk.set (1+n*2) (.int .i64 i);rw[WP]at a;have c:=a.set (1+n*2+1) (.int .i64 (t+1));rw[Nat.add_assoc,WP]at c;rw[Ub d,Nat.add_assoc];exact c
theorem na{Z:List Int}{x i t:Int}(a:Dz x=true)(ht:EU t=true):DM Z x i t=decide ((C6 Z x).1<=i):=by
 unfold DM;rw[a,ht];rfl
theorem ZJ{w1:World}{a b:Nat}{u v:Value}(h:Below w.heap.size w w1):Tu (fun j=>j=g) w ((w1.setCell ⟨g,a,none⟩ u).setCell ⟨g,b,none⟩ v):=
 Tu.after h ((Be w1 g a u).trans (Be _ g b v) fun _ _ e=>e)
theorem fL(g:Nat)(T:Int)(Z:List Int)(x i t:Int)(w:World)(h:A5 w g T Z):
  Calls Tryz.prog 82 #[.pointer (some ⟨g,0,none⟩),.int .i64 x,.int .i64 i,.int .i64 t] w fun e w'=>e=.returned (.bool (DM Z x i t))/\A5 w' g T (EA Z x i t)/\Tu (fun j=>j=g) w w':=by
 by_cases q:Dz x=true
 case neg=>
  have z:Dz x=false:=by simpa using q
  have k:DM Z x i t=false:=by unfold DM;rw[z];rfl
  rw[Ml k,k];have H:=Ab h;clear h;go_enter Tryz.func82,Tryz.ntmps82;go_wp2_with (go_at_call 117;refine(Jr _ _).mono ?_;rintro e w1 ⟨rfl,c⟩;obtain rfl:=c.symm;clear c;rw[z]);go_ret;exact⟨rfl,Aa H,Tu.refl _ _⟩
 by_cases ht:EU t=true
 case neg=>
  have v:EU t=false:=by simpa using ht
  have k:DM Z x i t=false:=by unfold DM;rw[v,Bool.and_false];rfl
  rw[Ml k,k];have H:=Ab h;clear h;go_enter Tryz.func82,Tryz.ntmps82
  go_wp2_with (first
   |(go_at_call 117;refine(Jr _ _).mono ?_;rintro e w1 ⟨rfl,c⟩;obtain rfl:=c.symm;clear c;rw[q])
   |(go_at_call 118;refine(Js _ _).mono ?_;rintro e w1 ⟨rfl,c⟩;obtain rfl:=c.symm;clear c;rw[v]))
  go_ret;exact⟨rfl,Aa H,Tu.refl _ _⟩
 have k:=na (Z:=Z) (i:=i) q ht;obtain⟨n,C,rfl⟩:=KK q;have B:=JL Z C;obtain⟨c0,c1⟩:=h.at C;have K:(n:Int)<8:=by omega
 have H:=Ab h;by_cases A:(C6 Z (n:Int)).1<=i
 case neg=>
  have d:DM Z (n:Int) i t=false:=by rw[k];exact decide_eq_false A
  rw[Ml d,d];have m:i<(C6 Z (n:Int)).1:=by omega
  rw[B]at m;clear h k B A d;simp only at m;generalize Z.getD (n*2) 0=a at*;generalize Z.getD (n*2+1) 0=b at*;have E:decide (i<a)=true:=decide_eq_true m;go_enter Tryz.func82,Tryz.ntmps82
  go_wp2_with (first
   |(go_at_call 117;refine(Jr _ _).mono ?_;rintro e w1 ⟨rfl,c⟩;obtain rfl:=c.symm;clear c;rw[q])
   |(go_at_call 118;refine(Js _ _).mono ?_;rintro e w1 ⟨rfl,c⟩;obtain rfl:=c.symm;clear c;rw[ht])
   |(go_at_call 119;refine(Vb a b _).mono ?_;rintro e w1 ⟨rfl,f⟩;have l:=Ab f;clear f))
  go_ret;exact⟨rfl,(Aa H).below (Aa l),Tu.of_below (Aa l)⟩
 have d:DM Z (n:Int) i t=true:=by rw[k];exact decide_eq_true A
 have m:¬i<(C6 Z (n:Int)).1:=by omega
 rw[B]at m;simp only at m;have I:=Ab (fun(wx:World) (r:Below w.heap.size w wx)=>(h.below r).hear C d);rw[d]
 have G:=Ab (fun(wx:World) (r:Below w.heap.size w wx)=>(show(wx.cell? ⟨g,1+n*2,none⟩=some (.int .i64 (Z.getD (n*2) 0))/\wx.cell? ⟨g,1+n*2+1,none⟩=some (.int .i64 (Z.getD (n*2+1) 0)))/\wx.frozen? ⟨g,1+n*2,none⟩=false/\wx.frozen? ⟨g,1+n*2+1,none⟩=false from
  ⟨(h.below r).at C,(h.below r).blk.frz _,(h.below r).blk.frz _⟩))
 generalize EA Z (n:Int) i t=N at*;clear h k B A d H;generalize Z.getD (n*2) 0=a at*;generalize Z.getD (n*2+1) 0=b at*;have E:decide (i<a)=false:=decide_eq_false m;have y:=OH.1 ht;have J:=Ab (fun wx=>km i t y wx);clear y m;go_enter Tryz.func82,Tryz.ntmps82
 go_wp2_with (first
  |(go_at_call 117;refine(Jr _ _).mono ?_;rintro e w1 ⟨rfl,c⟩;obtain rfl:=c.symm;clear c;rw[q])
  |(go_at_call 118;refine(Js _ _).mono ?_;rintro e w1 ⟨rfl,c⟩;obtain rfl:=c.symm;clear c;rw[ht])
  |(go_at_call 119;refine(Vb a b _).mono ?_;rintro e w1 ⟨rfl,f⟩;have l:=Ab f;clear f)
  |fail)
 clear c0 c1
 go_region_held3 (fun _=>True) (trivial) (first
  |(go_at_call 120;refine(Aa J _).mono ?_;rintro e w2 ⟨rfl,u⟩;have o:=Ab (Ad (Aa l).drew u);obtain⟨⟨c0,c1⟩,f0,f1⟩:=Aa G _ (Aa o);clear u)
  |fail)
 go_wp2;go_ret;exact⟨rfl,Aa I _ (Aa o),ZJ (Aa o)⟩
def Jc(w:World)(s:ByteArray)(e:Ending)(w':World):Prop:=
 ∃(kd fr ic o l k z h:Int) (a:Option Addr) (n c:Nat) (xs:List Nat) (t:ByteArray) (en:Nat),e=.returned (.tuple #[.agg #[.int .i64 kd,.int .i64 fr,.int .i64 ic,.int .i64 o,.int .i64 l,.int .i64 k,.int .i64 z,.int .i64 h,.slice a n c,.string t],.int .i64 ((en:Nat):Int)])/\
  RowAt w' a n xs/\DE w a n/\AQ s kd fr ic o l k z h xs t en/\Below w.heap.size w w'
theorem KU:FZ 0 0 0 0 0 0 0 0 [] ⟨#[]⟩:=⟨⟨rfl,rfl,rfl⟩,Jy⟩
theorem Kt{w':World}(h:AQ s 0 0 0 0 0 0 0 0 [] ⟨#[]⟩ en)(a:Below w.heap.size w w'):
  Jc w s (.returned (.tuple #[.agg #[.int .i64 0,.int .i64 0,.int .i64 0,.int .i64 0,.int .i64 0,.int .i64 0,.int .i64 0,.int .i64 0,.slice none 0 0,.string ⟨#[]⟩],.int .i64 ((en:Nat):Int)])) w':=
 ⟨0,0,0,0,0,0,0,0,none,0,0,[],⟨#[]⟩,en,rfl,Dv _,Ow _ _,h,a⟩
theorem L7{T:ByteArray}{kd fr ic o l k z h:Int}{xs:List Nat}{t:ByteArray}(a:openE s=0)(c:openT s=T)(d:Iu T kd fr ic o l k z h xs t en):AQ s kd fr ic o l k z h xs t en:=
 ⟨fun h=>absurd a h,fun _=>by rw[c];exact d⟩
theorem iW(s:ByteArray):openE s=0\/openE s=2\/openE s=4:=by
 unfold openE;split
 ·exact .inr (.inl rfl)
 ·split
  ·exact .inl rfl
  ·exact .inr (.inr rfl)
theorem pc(s:ByteArray):(openT s).size<=s.size:=by
 unfold openT;split
 ·unfold Cr
  rw[ByteArray.size_extract];omega
 ·exact Nat.zero_le _
theorem Y5{kd:Int}{o l k z h:Int}{xs:List Nat}{t:ByteArray}(hp:K9 kd s o l k z h xs t en):en=0\/en=2\/en=3:=by
 by_cases a:kd=1
 ·by_cases c:s.size=0
  ·exact .inl ((hp.1 a).2 c).1
  ·exact .inr (.inr ((hp.1 a).1 c).1)
 ·by_cases d:kd=2
  ·rcases hp.2.1 d with h|h|h
   ·exact .inr (.inl h.2.1)
   ·exact .inr (.inr h.2.2.1)
   ·exact .inl h.2.2.1
  ·exact .inr (.inr (hp.2.2 a d).1)
theorem Yr{T:ByteArray}(c:¬T.size<6)(m:¬8<=hdF T){o l k z h:Int}{xs:List Nat}{t:ByteArray}{en:Nat}(hp:K9 (hdK T:Int) (Ex T) o l k z h xs t en):
  (en≠0->Iu T 0 0 0 0 0 0 0 0 [] ⟨#[]⟩ en)/\(en=0->Iu T (hdK T) (hdF T) (hdI T) o l k z h xs t 0):=by
 have u:(Ex T).size=T.size-6:=by unfold Ex;rw[ByteArray.size_extract];omega
 by_cases a:hdK T=1
 ·by_cases d:(Ex T).size=0
  ·obtain⟨e,j⟩:=(hp.1 (by rw[a];rfl)).2 d
   refine⟨fun h=>absurd e h,fun _=>oC c ?_ a rfl ⟨rfl,rfl,rfl⟩ j⟩;rintro(h|h|h)
   ·exact m h
   ·exact h.1 a
   ·omega
  ·obtain⟨e,j⟩:=(hp.1 (by rw[a];rfl)).1 d
   exact⟨fun _=>P0 c (.inr (.inr ⟨a,by omega⟩)) e KU,fun h=>by omega⟩
 ·by_cases f:hdK T=2
  ·have i:=hp.2.1 (by rw[f];rfl)
   have q:¬Fw T:=by
    rintro(h|h|h)
    ·exact m h
    ·exact h.2 f
    ·exact a h.1
   refine⟨fun r=>Wv c q a ?_ (fun _=>⟨rfl,rfl,rfl⟩) (fun h=>absurd h r),fun d=>Wv c q a (by rw[d]at i;exact i) (fun h=>absurd rfl h) (fun _=>⟨rfl,rfl,rfl⟩)⟩;rcases i with h|h|h
   ·exact .inl ⟨h.1,h.2.1,Jy⟩
   ·exact .inr (.inl ⟨h.1,h.2.1,h.2.2.1,Jy⟩)
   ·exact absurd h.2.2.1 r
  ·obtain⟨e,j⟩:=hp.2.2 (by omega) (by omega)
   exact⟨fun _=>P0 c (.inr (.inl ⟨a,f⟩)) e KU,fun h=>by omega⟩
theorem Jl{tmps:Array Value}{W:World}{x:Int}{u0 u1 u2 u3 u4 u5 u6 u7 u8 u9:Value}(d:tmps.getD 2 undef=.pointer (some ⟨g,0,none⟩))(e:tmps.getD 3 undef=.int .i64 x)(f:AR W g u0 u1 u2 u3 u4 u5 u6 u7 u8 u9):
  (results Tryz.f81 tmps).run Tryz.prog W=.ok (.tuple #[.agg #[u0,u1,u2,u3,u4,u5,u6,u7,u8,u9],.int .i64 x]) W:=by
 obtain⟨⟨h,i,j⟩,k,l,m,o,q,r,u⟩:=f.at;have a:tmps[2]?.getD undef=.pointer (some ⟨g,0,none⟩):=by simpa using d
 have c:tmps[3]?.getD undef=.int .i64 x:=by simpa using e
 simp[results,Tryz.results81,go_sem,a,c,h,i,j,k,l,m,o,q,r,u]
theorem TO(E:Nat)(o:E=2\/E=4)(s:ByteArray)(w:World)(l:s.size<=1048576)(h:openE s=E):Calls Tryz.prog 81 #[.string s] w (Jc w s):=by
 have d:=fun wx=>S5 s wx l;rw[h]at d;have m:=Ab (show AQ s 0 0 0 0 0 0 0 0 [] ⟨#[]⟩ E from Yq (by omega) h.symm KU);have j:=Ab d;have k:=Ab (JH w (.int .i64 0) (.int .i64 0) (.int .i64 0) (.int .i64 0) (.int .i64 0) (.int .i64 0) (.int .i64 0) (.int .i64 0) (.slice none 0 0) (.string ⟨#[]⟩));have i:=Ab (Bt w (.cells #[.int .i64 0,.int .i64 0,.int .i64 0,.int .i64 0,.int .i64 0,.int .i64 0,.int .i64 0,.int .i64 0,.slice none 0 0,.string ⟨#[]⟩] 157));generalize openT s=T at*;clear l h d;rcases o with rfl|rfl
 all_goals
  go_enter Tryz.func81,Tryz.ntmps81;go_wp2_with fail;refine(Aa j _).mono ?_;rintro e w1 ⟨rfl,a⟩;have c:=Ab ((Aa k).below a);have B1:=Ab (Ad (Aa i) a);clear a k i j;obtain⟨⟨r,u,v⟩,y,z,A,B,C,G,H⟩:=(Aa c).at;have f:=(Aa c).frz;go_wp2;have q:=Ab ((Aa c).sets (.int .i64 0) (.int .i64 0) (.int .i64 0) (.int .i64 0) (.int .i64 0) (.int .i64 0) (.int .i64 0) (.int .i64 0) (.slice none 0 0) (.string ⟨#[]⟩));have b:=Ab (JF (Aa B1) (Nat.le_refl _) (.int .i64 0) (.int .i64 0) (.int .i64 0) (.int .i64 0) (.int .i64 0) (.int .i64 0) (.int .i64 0) (.int .i64 0) (.slice none 0 0) (.string ⟨#[]⟩));exact bodyPost_ret (Jl rfl rfl (Aa q)) rfl (Kt (Aa m) (Aa b))
theorem gM(s T:ByteArray)(w:World)(j:∀wx,Calls Tryz.prog 113 #[.string s] wx fun e w'=>e=.returned (.tuple #[.string T,.int .i64 ((0:Nat):Int)])/\Below wx.heap.size wx w')(m:T.size<6)(k:AQ s 0 0 0 0 0 0 0 0 [] ⟨#[]⟩ 2):
  Calls Tryz.prog 81 #[.string s] w (Jc w s):=by
 have h:=Ab j;have i:=Ab (JH w (.int .i64 0) (.int .i64 0) (.int .i64 0) (.int .i64 0) (.int .i64 0) (.int .i64 0) (.int .i64 0) (.int .i64 0) (.slice none 0 0) (.string ⟨#[]⟩));have d:=Ab (Bt w (.cells #[.int .i64 0,.int .i64 0,.int .i64 0,.int .i64 0,.int .i64 0,.int .i64 0,.int .i64 0,.int .i64 0,.slice none 0 0,.string ⟨#[]⟩] 157));have o:(T.size:Int)<6:=by omega
 have l:=Ab k;clear m j k;go_enter Tryz.func81,Tryz.ntmps81;go_wp2_with fail;refine(Aa h _).mono ?_;rintro e w1 ⟨rfl,a⟩;have c:=Ab ((Aa i).below a);have B1:=Ab (Ad (Aa d) a);clear a i d h;obtain⟨⟨r,u,v⟩,y,z,A,B,C,E,G⟩:=(Aa c).at;have f:=(Aa c).frz;go_wp2;have q:=Ab ((Aa c).sets (.int .i64 0) (.int .i64 0) (.int .i64 0) (.int .i64 0) (.int .i64 0) (.int .i64 0) (.int .i64 0) (.int .i64 0) (.slice none 0 0) (.string ⟨#[]⟩));have b:=Ab (JF (Aa B1) (Nat.le_refl _) (.int .i64 0) (.int .i64 0) (.int .i64 0) (.int .i64 0) (.int .i64 0) (.int .i64 0) (.int .i64 0) (.int .i64 0) (.slice none 0 0) (.string ⟨#[]⟩));exact bodyPost_ret (Jl rfl rfl (Aa q)) rfl (Kt (en:=2) (Aa l) (Aa b))
theorem oE(s T:ByteArray)(h d i:Nat)(w:World)(z:∀wx,Calls Tryz.prog 113 #[.string s] wx fun e w'=>e=.returned (.tuple #[.string T,.int .i64 ((0:Nat):Int)])/\Below wx.heap.size wx w')(G:¬T.size<6)
  (y:∀wx,Calls Tryz.prog 114 #[.string T] wx fun e w'=>e=.returned (.agg #[.int .i64 (h:Int),.int .i64 (d:Int),.int .i64 (i:Int),.int .i64 0,.int .i64 0,.int .i64 0,.int .i64 0,.int .i64 0,.slice none 0 0,.string ⟨#[]⟩])/\Below wx.heap.size wx w') (I:8<=d) (A:AQ s 0 0 0 0 0 0 0 0 [] ⟨#[]⟩ 3):
  Calls Tryz.prog 81 #[.string s] w (Jc w s):=by
 have r:=Ab z;have o:=Ab y;have u:=Ab (JH w (.int .i64 0) (.int .i64 0) (.int .i64 0) (.int .i64 0) (.int .i64 0) (.int .i64 0) (.int .i64 0) (.int .i64 0) (.slice none 0 0) (.string ⟨#[]⟩));have l:=Ab (Bt w (.cells #[.int .i64 0,.int .i64 0,.int .i64 0,.int .i64 0,.int .i64 0,.int .i64 0,.int .i64 0,.int .i64 0,.slice none 0 0,.string ⟨#[]⟩] 157));have H:¬((T.size:Int)<6):=by omega
 have J:(8:Int)<=(d:Int):=by omega
 have C:=Ab A;clear G I z y A;go_enter Tryz.func81,Tryz.ntmps81;go_wp2_with fail;refine(Aa r _).mono ?_;rintro e w1 ⟨rfl,a⟩;have v:=Ab ((Aa u).below a);have B1:=Ab (Ad (Aa l) a);clear a u l r;go_wp2_with fail;refine(Aa o _).mono ?_;rintro e w2 ⟨rfl,c⟩;have j:=Ab ((Aa v).below c);have m:=Ab (Ad (Aa B1) c);have K:=(Aa j).lt;clear c v B1 o;have k:=Ab ((Aa j).below (Bt w2 (.cells #[.int .i64 (h:Int),.int .i64 (d:Int),.int .i64 (i:Int),.int .i64 0,.int .i64 0,.int .i64 0,.int .i64 0,.int .i64 0,.slice none 0 0,.string ⟨#[]⟩] 157)));have B:=Ab (Ad (Aa m) (Bt w2 (.cells #[.int .i64 (h:Int),.int .i64 (d:Int),.int .i64 (i:Int),.int .i64 0,.int .i64 0,.int .i64 0,.int .i64 0,.int .i64 0,.slice none 0 0,.string ⟨#[]⟩] 157)));have E:=Ab (JH w2 (.int .i64 (h:Int)) (.int .i64 (d:Int)) (.int .i64 (i:Int)) (.int .i64 0) (.int .i64 0) (.int .i64 0) (.int .i64 0) (.int .i64 0) (.slice none 0 0) (.string ⟨#[]⟩));clear j m
 iterate 7 (first|go_values|go_skip|go_guarded|go_step|go_upon|go_back|go_simp)
 generalize w2.alloc (.cells #[.int .i64 (h:Int),.int .i64 (d:Int),.int .i64 (i:Int),.int .i64 0,.int .i64 0,.int .i64 0,.int .i64 0,.int .i64 0,.slice none 0 0,.string ⟨#[]⟩] 157)=w3 at*;generalize w2.heap.size=g at*;have Z:=(Aa E).at.1.2.1;obtain⟨⟨N,O,P⟩,Q,R,S,V,W,X,Y⟩:=(Aa k).at;have f:=(Aa k).frz;go_wp2;have q:=Ab ((Aa k).sets (.int .i64 0) (.int .i64 0) (.int .i64 0) (.int .i64 0) (.int .i64 0) (.int .i64 0) (.int .i64 0) (.int .i64 0) (.slice none 0 0) (.string ⟨#[]⟩));have b:=Ab (JF (Aa B) (Nat.le_refl _) (.int .i64 0) (.int .i64 0) (.int .i64 0) (.int .i64 0) (.int .i64 0) (.int .i64 0) (.int .i64 0) (.int .i64 0) (.slice none 0 0) (.string ⟨#[]⟩));exact bodyPost_ret (Jl rfl rfl (Aa q)) rfl (Kt (en:=3) (Aa C) (Aa b))
theorem jl(s T:ByteArray)(j m y:Nat)(w:World)(hs:T.size<=1048576)(hO:∀wx,Calls Tryz.prog 113 #[.string s] wx fun e w'=>e=.returned (.tuple #[.string T,.int .i64 ((0:Nat):Int)])/\Below wx.heap.size wx w')(h6:¬T.size<6)
  (hH:∀wx,Calls Tryz.prog 114 #[.string T] wx fun e w'=>e=.returned (.agg #[.int .i64 (j:Int),.int .i64 (m:Int),.int .i64 (y:Int),.int .i64 0,.int .i64 0,.int .i64 0,.int .i64 0,.int .i64 0,.slice none 0 0,.string ⟨#[]⟩])/\Below wx.heap.size wx w') (h8:¬8<=m)
  (hF:∀(o l k z h:Int) (xs:List Nat) (t:ByteArray) (en:Nat),K9 (j:Int) (Ex T) o l k z h xs t en->(en≠0->AQ s 0 0 0 0 0 0 0 0 [] ⟨#[]⟩ en)/\(en=0->AQ s (j:Int) (m:Int) (y:Int) o l k z h xs t 0)):
  Calls Tryz.prog 81 #[.string s] w (Jc w s):=by
 have HO:=Ab hO;have HH:=Ab hH;have X0:=Ab (JH w (.int .i64 0) (.int .i64 0) (.int .i64 0) (.int .i64 0) (.int .i64 0) (.int .i64 0) (.int .i64 0) (.int .i64 0) (.slice none 0 0) (.string ⟨#[]⟩));have B0:=Ab (Bt w (.cells #[.int .i64 0,.int .i64 0,.int .i64 0,.int .i64 0,.int .i64 0,.int .i64 0,.int .i64 0,.int .i64 0,.slice none 0 0,.string ⟨#[]⟩] 157));have ab:¬((T.size:Int)<6):=by omega
 have ac:¬((8:Int)<=(m:Int)):=by omega
 have ad:(6:Int)<=(T.size:Int):=by omega
 have HF:=Ab hF;have HB:=Ab (fun wx=>OY (j:Int) (.int .i64 (m:Int)) (.int .i64 (y:Int)) (.int .i64 0) (.int .i64 0) (.int .i64 0) (.int .i64 0) (.int .i64 0) (.slice none 0 0) (.string ⟨#[]⟩) wx);have HR:=Ab (fun wx=>qr (j:Int) (.int .i64 0) (.int .i64 0) (.int .i64 0) (.int .i64 0) (.int .i64 0) (.slice none 0 0) (.string ⟨#[]⟩) (Ex T) wx (by unfold Ex;rw[ByteArray.size_extract];omega));have aa:T.extract 6 T.size=Ex T:=rfl;clear h6 h8 hH hF hO hs;generalize Ex T=R at*;generalize Gm (j:Int) (.int .i64 0) (.int .i64 0) (.int .i64 0) (.int .i64 0) (.int .i64 0) (.slice none 0 0) (.string ⟨#[]⟩)=V at*;go_enter Tryz.func81,Tryz.ntmps81;go_wp2_with fail;refine(Aa HO _).mono ?_;rintro e w1 ⟨rfl,E⟩;have X1:=Ab ((Aa X0).below E);have B1:=Ab (Ad (Aa B0) E);clear E X0 B0 HO;go_wp2_with fail;refine(Aa HH _).mono ?_;rintro e w2 ⟨rfl,G⟩;have Z:=Ab ((Aa X1).below G);have B2:=Ab (Ad (Aa B1) G);have P:=(Aa Z).lt;clear G X1 B1 HH;have X3:=Ab ((Aa Z).below (Bt w2 (.cells #[.int .i64 (j:Int),.int .i64 (m:Int),.int .i64 (y:Int),.int .i64 0,.int .i64 0,.int .i64 0,.int .i64 0,.int .i64 0,.slice none 0 0,.string ⟨#[]⟩] 157)));have B3:=Ab (Ad (Aa B2) (Bt w2 (.cells #[.int .i64 (j:Int),.int .i64 (m:Int),.int .i64 (y:Int),.int .i64 0,.int .i64 0,.int .i64 0,.int .i64 0,.int .i64 0,.slice none 0 0,.string ⟨#[]⟩] 157)));have Y3:=Ab (JH w2 (.int .i64 (j:Int)) (.int .i64 (m:Int)) (.int .i64 (y:Int)) (.int .i64 0) (.int .i64 0) (.int .i64 0) (.int .i64 0) (.int .i64 0) (.slice none 0 0) (.string ⟨#[]⟩));clear Z B2
 iterate 7 (first|go_values|go_skip|go_guarded|go_step|go_upon|go_back|go_simp)
 generalize w2.alloc (.cells #[.int .i64 (j:Int),.int .i64 (m:Int),.int .i64 (y:Int),.int .i64 0,.int .i64 0,.int .i64 0,.int .i64 0,.int .i64 0,.slice none 0 0,.string ⟨#[]⟩] 157)=w3 at*;generalize w2.heap.size=g at*;obtain⟨⟨k0,k1,k2⟩,k3,k4,k5,k6,k7,k8,k9⟩:=(Aa Y3).at;go_wp2_with fail;refine wp_region_any (by kernel_rfl) ?_;change wpAny _ _ _ _ _ _ _ (World.drew _);refine wpAny_take (i:=2) (v:=?_) rfl (by kernel_rfl) (by kernel_rfl) (by kernel_rfl) (fun _ _ _ h=>h) (Or.inl ⟨by rfl,?f2⟩) ?_
 case f2=>(intro w;go_simp;try with_reducible rfl)
 refine wpAny_take (i:=3) (v:=?_) rfl (by kernel_rfl) (by kernel_rfl) (by kernel_rfl) (fun _ _ _ h=>h) (Or.inl ⟨by rfl,?f3⟩) ?_
 case f3=>(intro w;go_simp;try with_reducible rfl)
 refine wpAny_ready (rs:=[0]) (by kernel_rfl) (by simp) ?_;refine AllReady.cons rfl (fun K u=>?_) AllReady.nil;go_simp;refine u _ _ ?_;clear u K k0 k1 k2 k3 k4 k5 k6 k7 k8 k9;refine wpAny_ready (rs:=[1]) (by kernel_rfl) (by simp) ?_;refine AllReady.cons rfl (fun K u=>?_) AllReady.nil;go_simp;refine(Aa HB _).mono ?_;rintro e w4 ⟨rfl,O⟩;have B:Below w3.heap.size w3 w4:=(Below.refl _ _).drew.trans O;have X4:=Ab ((Aa X3).below B);have Y4:=Ab ((Aa Y3).below B);have S:=Ab (Ad (Aa B3) B);clear O B X3 Y3 B3 HB;refine u _ _ ?_;clear u K;refine wpAny_ready (rs:=[4]) (by kernel_rfl) (by simp) ?_;refine AllReady.cons rfl (fun K u=>?_) AllReady.nil;go_simp;refine(Aa HR _).mono ?_;rintro e w5 ⟨o,l,k,z,h,a,n,c,xs,t,en,rfl,hr,Q,H,C⟩;have X:=Ab (Q.mono (Aa S).size);have X5:=Ab ((Aa X4).below C);have N:=Ab ((Aa Y4).below C);have B5:=Ab (Ad (Aa S) C);have Y:=Ab hr;have A:=Ab (Y5 H);have d:=Ab (Aa HF _ _ _ _ _ _ _ _ H);clear C X4 Y4 S HR hr Q H HF;refine u _ _ ?_;clear u K;refine wpAny_take (i:=5) (v:=?_) rfl (by kernel_rfl) (by kernel_rfl) (by kernel_rfl) (fun _ _ _ h=>h) (Or.inl ⟨by rfl,?f5⟩) ?_
 case f5=>(intro w;go_simp;try with_reducible rfl)
 refine wpAny_take (i:=6) (v:=?_) rfl (by kernel_rfl) (by kernel_rfl) (by kernel_rfl) (fun _ _ _ h=>h) (Or.inl ⟨by rfl,?f6⟩) ?_
 case f6=>(intro w;go_simp;try with_reducible rfl)
 refine wpAny_take (i:=7) (v:=?_) rfl (by kernel_rfl) (by kernel_rfl) (by kernel_rfl) (fun _ _ _ h=>h) (Or.inl ⟨by rfl,?f7⟩) ?_
 case f7=>(intro w;go_simp;try with_reducible rfl)
 refine wpAny_take (i:=8) (v:=?_) rfl (by kernel_rfl) (by kernel_rfl) (by kernel_rfl) (fun _ _ _ h=>h) (Or.inl ⟨by rfl,?f8⟩) ?_
 case f8=>(intro w;go_simp;try with_reducible rfl)
 obtain⟨⟨m0,m1,m2⟩,m3,m4,m5,m6,m7,m8,m9⟩:=(Aa N).at;have mf:=(Aa N).frz;refine wpAny_ready (rs:=[9]) (by kernel_rfl) (by simp) ?_;refine AllReady.cons rfl (fun K u=>?_) AllReady.nil;go_simp;refine u _ _ ?_;clear u K;refine wpAny_take (i:=10) (v:=?_) rfl (by kernel_rfl) (by kernel_rfl) (by kernel_rfl) (fun _ _ _ h=>h) (Or.inl ⟨by rfl,?f10⟩) ?_
 case f10=>(intro w;go_simp;try with_reducible rfl)
 refine wpAny_done (by kernel_rfl) ?_ _;clear m0 m1 m2 m3 m4 m5 m6 m7 m8 m9 mf;have Y6:=Ab ((Aa N).setp (.int .i64 o) (.int .i64 l) (.int .i64 k) (.int .i64 z) (.int .i64 h) (.slice a n c) (.string t));have I:=Ab ((Aa X5).otherp (Nat.ne_of_lt P) (.int .i64 o) (.int .i64 l) (.int .i64 k) (.int .i64 z) (.int .i64 h) (.slice a n c) (.string t));have W:=Ab (YV (Aa B5) (Nat.le_of_lt P) (.int .i64 o) (.int .i64 l) (.int .i64 k) (.int .i64 z) (.int .i64 h) (.slice a n c) (.string t));have R6:=Ab ((Aa Y).otherP ((Aa N).apart (Aa Y)) (.int .i64 o) (.int .i64 l) (.int .i64 k) (.int .i64 z) (.int .i64 h) (.slice a n c) (.string t));clear X5 N B5 Y;change Exit.then _ _ _ _ (Jg w5 g (.int .i64 o) (.int .i64 l) (.int .i64 k) (.int .i64 z) (.int .i64 h) (.slice a n c) (.string t));generalize Jg w5 g (.int .i64 o) (.int .i64 l) (.int .i64 k) (.int .i64 z) (.int .i64 h) (.slice a n c) (.string t)=w6 at*;obtain⟨⟨k0,k1,k2⟩,k3,k4,k5,k6,k7,k8,k9⟩:=(Aa I).at;have f:=(Aa I).frz;rcases(Aa A)with rfl|rfl|rfl
 ·obtain⟨⟨m0,m1,m2⟩,m3,m4,m5,m6,m7,m8,m9⟩:=(Aa Y6).at
  have J:=Ab ((Aa d).2 rfl);clear d A;go_wp2;have q:=Ab ((Aa I).sets (.int .i64 (j:Int)) (.int .i64 (m:Int)) (.int .i64 (y:Int)) (.int .i64 o) (.int .i64 l) (.int .i64 k) (.int .i64 z) (.int .i64 h) (.slice a n c) (.string t));have b:=Ab (JF (Aa W) (Nat.le_refl _) (.int .i64 (j:Int)) (.int .i64 (m:Int)) (.int .i64 (y:Int)) (.int .i64 o) (.int .i64 l) (.int .i64 k) (.int .i64 z) (.int .i64 h) (.slice a n c) (.string t));have r:=Ab ((Aa R6).other10 ((Aa I).apart (Aa R6)) (.int .i64 (j:Int)) (.int .i64 (m:Int)) (.int .i64 (y:Int)) (.int .i64 o) (.int .i64 l) (.int .i64 k) (.int .i64 z) (.int .i64 h) (.slice a n c) (.string t));exact bodyPost_ret (Jl rfl rfl (Aa q)) rfl ⟨_,_,_,o,l,k,z,h,a,n,c,xs,t,0,rfl,Aa r,Aa X,Aa J,Aa b⟩
 ·have J:=Ab ((Aa d).1 (by decide))
  clear d A;go_wp2;have q:=Ab ((Aa I).sets (.int .i64 0) (.int .i64 0) (.int .i64 0) (.int .i64 0) (.int .i64 0) (.int .i64 0) (.int .i64 0) (.int .i64 0) (.slice none 0 0) (.string ⟨#[]⟩));have b:=Ab (JF (Aa W) (Nat.le_refl _) (.int .i64 0) (.int .i64 0) (.int .i64 0) (.int .i64 0) (.int .i64 0) (.int .i64 0) (.int .i64 0) (.int .i64 0) (.slice none 0 0) (.string ⟨#[]⟩));exact bodyPost_ret (Jl rfl rfl (Aa q)) rfl (Kt (en:=2) (Aa J) (Aa b))
 ·have J:=Ab ((Aa d).1 (by decide))
  clear d A;go_wp2;have q:=Ab ((Aa I).sets (.int .i64 0) (.int .i64 0) (.int .i64 0) (.int .i64 0) (.int .i64 0) (.int .i64 0) (.int .i64 0) (.int .i64 0) (.slice none 0 0) (.string ⟨#[]⟩));have b:=Ab (JF (Aa W) (Nat.le_refl _) (.int .i64 0) (.int .i64 0) (.int .i64 0) (.int .i64 0) (.int .i64 0) (.int .i64 0) (.int .i64 0) (.int .i64 0) (.slice none 0 0) (.string ⟨#[]⟩));exact bodyPost_ret (Jl rfl rfl (Aa q)) rfl (Kt (en:=3) (Aa J) (Aa b))
theorem jm(s:ByteArray)(w:World)(j:s.size<=1048576):Calls Tryz.prog 81 #[.string s] w (Jc w s):=by
 rcases iW s with a|a|a
 ·have f:=fun wx=>S5 s wx j
  have i:=pc s;obtain⟨T,d⟩:∃T,openT s=T:=⟨_,rfl⟩;rw[a,d]at f;rw[d]at i;by_cases c:T.size<6
  ·exact gM s T w f c (L7 a d (oD c rfl KU))
  ·have m:=fun wx=>jo T (by omega) wx
   by_cases e:8<=hdF T
   ·exact oE s T _ _ _ w f c m e (L7 a d (P0 c (.inl e) rfl KU))
   ·refine jl s T _ _ _ w (by omega) f c m e fun o l k z h xs t en hp=>?_
    have:=Yr c e hp;exact⟨fun h=>L7 a d (this.1 h),fun h=>L7 a d (this.2 h)⟩
 ·exact TO 2 (.inl rfl) s w j a
 ·exact TO 4 (.inr rfl) s w j a
end Go.Proofs.YtmmikiikddokgaaGreatDoor
