/-
  Laws that the proof stands on.
-/
import Derived.Test.YtmmikiikddokgaaGreatDoorU37
import Derived.ChangeShapes
namespace Go.Proofs.YtmmikiikddokgaaGreatDoor
open Go.RowKit Go.Sort Go.Maps Go.ChangeShapes
set_option linter.unusedVariables false
set_option linter.unusedSimpArgs false
set_option maxRecDepth 4000
set_option maxHeartbeats 8000000
variable {s:DS}{M:Int}{g gs:Nat}{v:Value}{w w':World}
def M3(w w':World)(g B:Nat)(M:Int)(s:DS)(gs:Nat)(v:Value)(x:List Nat×ByteArray)(e:Ending):Prop:=
 ∃v' a ob,e=.returned (.int .i64 (Fr M s))/\AS M s x ob/\An w' g B M (DN M s x ob) gs v' a/\Tu (CG g gs v) w w'/\Mv w gs v gs v'
theorem Q3(h:Tu (C0 gs v) w w'):Tu (CG g gs v) w w':=⟨h.os,h.tape,h.output,h.size,fun k a b=>h.block k a fun e=>b (.inr e)⟩
theorem Q2(h:Tu (fun j=>j=g) w w'):Tu (CG g gs v) w w':=⟨h.os,h.tape,h.output,h.size,fun k a b=>h.block k a fun e=>b (.inl e)⟩
theorem gC(g B:Nat)(M:Int)(s:DS)(gs:Nat)(v:Value)(rs:List RV)(a:Option Addr)(n c:Nat)(xs:List Nat)(t:ByteArray)(w:World)(h:An w g B M s gs v rs)(O:s.bg=true)(hd:s.dn=false)(hr:RowAt w a n xs)(hn:n<=10)(ab:t.size<=1000)(hf:B8 s.k s.z (xs,t)=true)(hl:¬s.L.length<capN M):
  Calls Tryz.prog 127 #[.pointer (some ⟨g,0,none⟩),.agg #[.slice a n c,.string t]] w fun e w'=>M3 w w' g B M s gs v (xs,t) e:=by
 obtain⟨P,hI⟩:=h.begun O;have d:=Ax w (.cells #[.slice a n c,.string t] 73);have J:=AO 73 w [.slice a n c,.string t];have E:=h.blk.below d;rw[O,show Fz true gs=some ⟨gs,0,none⟩ from rfl]at E
 have G:¬C0 gs v w.heap.size:=fun f=>by
  rcases f with f|f
  ·have:=P.lt;omega
  ·have:=(World.ownsRow.lt P.own _ f).2;omega
 have y:=P.below d;have H:=hr.below d;have HC:=Ab h.co;have V:=Ab h.lo;have hE:w.alloc (.cells [.slice a n c,.string t].toArray 73)=w.alloc (.cells #[.slice a n c,.string t] 73):=rfl;rw[hE]at J;have aa:=E.outSt y (by decide) (by decide);clear hE h hr P;generalize hW:w.alloc (.cells #[.slice a n c,.string t] 73)=W at*;have q0:=J.at 0 rfl;have q1:=J.at 1 rfl;have d5:=E.at 5 rfl;have HP:=Ab (fun wx (hb:Below W.heap.size W wx)=>WY gs B s.k s.z (capN M) v rs s.ov a n c xs t wx (y.below hb) (H.below hb) hn ab);have l:=Ab (UR (m:=capN M) (L:=rs.map core) hf (by rw[Aa HC];exact hl));have HX:=Ab J;have HK:=Ab E;have A:=Ab d;have HI:=Ab hI;have HF:=Ab hf;have i:=Ab (Kc (M:=M) (s:=s) (x:=(xs,t)) (ob:=⟨#[]⟩) hd hl);clear J E d y H hI hf hl hd;go_enter Tryz.func127,Tryz.ntmps127;go_wp2_with fail
 go_region_held3 (fun w'=>w'.cell? ⟨w.heap.size,0,none⟩=some (.slice a n c)/\w'.cell? ⟨w.heap.size,1,none⟩=some (.string t)/\w'.cell? ⟨g,5,none⟩=some (.pointer (some ⟨gs,0,none⟩))) (go_keep) (first
  |(go_at_call 161;refine(Aa HP _ (Below.refl _ _).drew).mono ?_;rintro e w1 ⟨C,v1,ac,u,p,b,I⟩;rw[(Aa l).1]at C;rw[(Aa l).2.1]at p;rw[(Aa l).2.2]at u;obtain rfl:=C;have b:Tu (C0 gs v) W w1:=Tu.after (Below.refl _ _).drew b;have Q:=(Aa HK).tu b aa;have y2:=(Aa HX).tu b G;have r0:=y2.at 0 rfl;have r1:=y2.at 1 rfl;have e5:=Q.at 5 rfl;have e3:=Q.at 3 rfl;have X:=Ab u;have R:=Ab p;have Y:=Ab b;have Z:=Ab (show v1.ownBlock=v.ownBlock\/∀j,v1.ownBlock=some j->W.heap.size<=j from I);have T:=Ab Q;clear u p b I Q y2)
  |fail)
 clear HP l HX HK q0 q1 d5;go_wp2_with fail;refine wp_region_quiet_below (by kernel_rfl) (by kernel_rfl) ?_
 repeat (with_reducible refine wpQuiet_step (fun K hK=>?_);go_simp;with_reducible refine hK _ ?_;clear hK K)
 refine wpQuiet_nil ?_;intro w3 o;obtain⟨⟨dq,N⟩,o⟩:=o;have S:=Ab (show Below w1.heap.size w1 w3 from by rw[o];exact below_regrown _ dq N);clear o dq N;go_wp2;go_ret;have r:=Aa S;refine⟨v1,ac,⟨#[]⟩,by rw[(Aa i).2.1];rfl,fun f=>?_,?_,((Q3 (Aa Y)).after (Aa A)).then r,.inl rfl,?_⟩
 ·rw[(Aa i).2.2]at f;cases f
 ·have hT:AS M s (xs,t) ⟨#[]⟩:=fun f=>by rw[(Aa i).2.2]at f;cases f
  have D:=(Aa HI).keep (Aa HF) hT;rw[(Aa i).1]at D⊢;refine⟨?_,Aa V,fun _=>⟨(Aa X).below r,D⟩,(fun e=>by have e':s.bg=false:=e;rw[O]at e';cases e'),by rw[Aa R];exact Aa HC⟩;show BkA _ _ _ (Je M s (Fz s.bg gs));rw[O];exact(Aa T).below r
 ·rcases Aa Z with q|q
  ·exact .inl q
  ·exact .inr fun j hj=>Nat.le_trans (Aa A).size (q j hj)
theorem oq(g B:Nat)(M:Int)(s:DS)(gs:Nat)(v:Value)(rs:List RV)(a:Option Addr)(n c:Nat)(xs:List Nat)(t:ByteArray)(w:World)(h:An w g B M s gs v rs)(hg:s.bg=true)(hd:s.dn=false)(hr:RowAt w a n xs)(hn:n<=10)(az:t.size<=1000)(hf:B8 s.k s.z (xs,t)=true)(hl:s.L.length<capN M)(ht:∀wx,Below B w wx->Tab wx):
  Calls Tryz.prog 127 #[.pointer (some ⟨g,0,none⟩),.agg #[.slice a n c,.string t]] w fun e w'=>M3 w w' g B M s gs v (xs,t) e:=by
 obtain⟨hs,hI⟩:=h.begun hg;have y:=Ax w (.cells #[.slice a n c,.string t] 73);have p:=AO 73 w [.slice a n c,.string t];have hk:=h.blk.below y;rw[hg,show Fz true gs=some ⟨gs,0,none⟩ from rfl]at hk
 have al:¬C0 gs v w.heap.size:=fun hq=>by
  rcases hq with hq|hq
  ·have:=hs.lt;omega
  ·have:=(World.ownsRow.lt hs.own _ hq).2;omega
 have K:=hs.below y;have am:=hr.below y;have HC:=Ab h.co;have ad:=Ab h.lo;have hE:w.alloc (.cells [.slice a n c,.string t].toArray 73)=w.alloc (.cells #[.slice a n c,.string t] 73):=rfl;rw[hE]at p;have ax:=hk.outSt K (by decide) (by decide);have aa:=Ab hs.lob;clear hE h hr hs;generalize hW:w.alloc (.cells #[.slice a n c,.string t] 73)=W at*;have q0:=p.at 0 rfl;have q1:=p.at 1 rfl;have d5:=hk.at 5 rfl;have HP:=Ab (fun wx (H:Below W.heap.size W wx)=>WY gs B s.k s.z (capN M) v rs s.ov a n c xs t wx (K.below H) (am.below H) hn az);have E:=Ab (Qm (m:=capN M) (L:=rs.map core) hf (by rw[Aa HC];exact hl));have HX:=Ab p;have HK:=Ab hk;have D:=Ab y;have HI:=Ab hI;have HF:=Ab hf;have HD:=Ab hd;have HL:=Ab hl;have HT:=Ab ht;have S:=Ab K;clear p hk y K am hI hf hl hd ht;go_enter Tryz.func127,Tryz.ntmps127;go_wp2_with fail
 go_region_held3 (fun w'=>w'.cell? ⟨w.heap.size,0,none⟩=some (.slice a n c)/\w'.cell? ⟨w.heap.size,1,none⟩=some (.string t)/\w'.cell? ⟨g,5,none⟩=some (.pointer (some ⟨gs,0,none⟩))) (go_keep) (first
  |(go_at_call 161;refine(Aa HP _ (Below.refl _ _).drew).mono ?_;rintro e w1 ⟨ai,v1,b,f,Y,o,an⟩;rw[(Aa E).1]at ai;rw[(Aa E).2.1]at Y;rw[(Aa E).2.2]at f;obtain rfl:=ai;have o:Tu (C0 gs v) W w1:=Tu.after (Below.refl _ _).drew o;have r:=(Aa HK).tu o ax;have y2:=(Aa HX).tu o al;have r0:=y2.at 0 rfl;have r1:=y2.at 1 rfl;have e5:=r.at 5 rfl;have e3:=r.at 3 rfl;have G:=Ab f;have ab:=Ab Y;have T:=Ab o;have ah:=Ab (show v1.ownBlock=v.ownBlock\/∀j,v1.ownBlock=some j->W.heap.size<=j from an);have N:=Ab r;clear f Y o an r y2)
  |fail)
 clear HP E HX HK q0 q1 d5;have f:=Aa G;have X:Below B w w1:=((Aa D).mono (Aa aa)).trans ((Aa S).keeps (Aa T) (Aa S).lob);have ao:=Ab X;have Q:=Ab (fun wx (H:Below w1.heap.size w1 wx)=>UT gs B s.k s.z (capN M) v1 b s.ov wx (Aa HT wx (X.trans (H.mono f.lob))) (f.below H));have HQ:=Ab (fun wx (H:Below w1.heap.size w1 wx)=>(Aa N).below H);have P:=Ab (LF b);have i:=Ab (show b.map core=s.L++[(xs,t)] from by rw[Aa ab,Aa HC])
 have ap:=Ab (show∀x∈b.map core,B8 s.k s.z x=true from fun x p=>by
  rw[Aa i]at p;rcases List.mem_append.1 p with p|p
  ·exact(Aa HI).fit x p
  ·rw[List.mem_singleton.1 p];exact Aa HF)
 have ae:=Ab (show Mv w gs v gs v1 from⟨.inl rfl,(Aa ah).imp id fun q j hj=>Nat.le_trans (Aa D).size (q j hj)⟩);have ag:=Ab (Tu.after (Aa D) (Q3 (g:=g) (Aa T)));clear f X ab ah T S D aa r0 r1;go_wp2_with fail;by_cases V:(rankN b:Int)=s.k
 ·have HR:=Ab V
  have aw:((rankN b:Int)==s.k)=true:=by rw[V];exact beq_self_eq_true _
  have u:=Ab (fun ob=>Jv (M:=M) (s:=s) (x:=(xs,t)) (ob:=ob) (Aa HD) (Aa HL) (by rw[<-Aa i,<-Aa P];exact V));generalize av:rankN b=R at*;clear V
  go_region_held3 (fun w'=>w'.cell? ⟨g,3,none⟩=some (.int .i64 s.k)/\w'.cell? ⟨g,5,none⟩=some (.pointer (some ⟨gs,0,none⟩))) (go_keep) (first
   |(go_at_call 88;refine(Aa Q _ (Below.refl _ _).drew).mono ?_;rintro e w2 ⟨rfl,d⟩;have C:=Ab (show Below w1.heap.size w1 w2 from Ad (Below.refl _ _).drew d);have r:=Aa HQ w2 (Aa C);have e3:=r.at 3 rfl;have e5:=r.at 5 rfl;clear d r)
   |fail)
  have J:=(Aa G).below (Aa C);have Z:=(Aa N).below (Aa C);have d:Below B w w2:=(Aa ao).trans ((Aa C).mono (Aa G).lob);have HJ:=Ab (fg g gs B M s (capN M) v1 b s.ov w2 (fun wx H=>Aa HT wx (d.trans (H.mono J.lob))) Z J (Aa HI) (Aa ap) (by rw[<-Aa P];exact Aa HR));have af:=Ab J;have ac:=Ab Z;clear J Z d Q HQ;go_wp2_with fail;refine(Aa HJ).mono ?_;rintro e w3 ⟨ob,rfl,ak,I⟩;have l:=(Aa ac).below I;have f6:=l.frz 6;have f7:=l.frz 7;have c6:=l.at 6 rfl;have c7:=l.at 7 rfl;have O:=Ab l;have ar:=Ab ((Aa af).below I);have aq:=Ab ak;have au:=Ab (((Aa ag).then (Aa C)).then I);clear l ak I HJ af ac e3 e5;go_wp2;go_ret;have aj:=Aa u ob;have hT:AS M s (xs,t) ob:=fun _=>by rw[<-Aa i];exact Aa aq
  have A:=(Aa HI).keep (Aa HF) hT;have t7:=Be w3 g 7 (.string ob);have t6:=Be (w3.setCell ⟨g,7,none⟩ (.string ob)) g 6 (.bool true);have ay:=((Aa O).set 7 (.string ob)).set 6 (.bool true);refine⟨v1,b,ob,by rw[aj.2.1];rfl,hT,?_,((Aa au).trans (Q2 (gs:=gs) (v:=v) t7) fun _ _ h=>h).trans (Q2 (gs:=gs) (v:=v) t6) fun _ _ h=>h,Aa ae⟩;rw[aj.1]at A⊢;refine⟨?_,Aa ad,fun _=>⟨((Aa ar).sets (Aa O) t7 (by decide) (by decide) (by decide)).sets ((Aa O).set 7 (.string ob)) t6 (by decide) (by decide) (by decide),A⟩,(fun e=>by have e':s.bg=false:=e;rw[hg]at e';cases e'),Aa i⟩;show BkA _ _ _ (Je M {s with L:=s.L++[(xs,t)],dn:=true,ob:=ob} (Fz s.bg gs));rw[hg];exact ay
 ·have aw:((rankN b:Int)==s.k)=false:=by rw[beq_eq_false_iff_ne];exact V
  have u:=Ab (KI (M:=M) (s:=s) (x:=(xs,t)) (ob:=⟨#[]⟩) (Aa HD) (Aa HL) (by rw[<-Aa i,<-Aa P];exact V));generalize av:rankN b=R at*;clear V
  go_region_held3 (fun w'=>w'.cell? ⟨g,3,none⟩=some (.int .i64 s.k)/\w'.cell? ⟨g,5,none⟩=some (.pointer (some ⟨gs,0,none⟩))) (go_keep) (first
   |(go_at_call 88;refine(Aa Q _ (Below.refl _ _).drew).mono ?_;rintro e w2 ⟨rfl,d⟩;have C:=Ab (show Below w1.heap.size w1 w2 from Ad (Below.refl _ _).drew d);have r:=Aa HQ w2 (Aa C);have e3:=r.at 3 rfl;have e5:=r.at 5 rfl;clear d r)
   |fail)
  go_wp2;go_ret;have hT:AS M s (xs,t) ⟨#[]⟩:=fun hq=>by rw[(Aa u).2.2]at hq;cases hq
  have A:=(Aa HI).keep (Aa HF) hT;refine⟨v1,b,⟨#[]⟩,by rw[(Aa u).2.1];rfl,hT,?_,(Aa ag).then (Aa C),Aa ae⟩;rw[(Aa u).1]at A⊢;refine⟨?_,Aa ad,fun _=>⟨(Aa G).below (Aa C),A⟩,(fun e=>by have e':s.bg=false:=e;rw[hg]at e';cases e'),Aa i⟩;show BkA _ _ _ (Je M s (Fz s.bg gs));rw[hg];exact(Aa N).below (Aa C)
theorem kL(g B:Nat)(M:Int)(s:DS)(gs:Nat)(v:Value)(rs:List RV)(a:Option Addr)(n c:Nat)(xs:List Nat)(t:ByteArray)(w:World)(ht:∀wx,Below B w wx->Tab wx)(h:An w g B M s gs v rs)(i:s.bg=true)(d:s.dn=false)(m:RowAt w a n xs)(l:n<=10)(b:t.size<=1000)(f:B8 s.k s.z (xs,t)=true):
  Calls Tryz.prog 127 #[.pointer (some ⟨g,0,none⟩),.agg #[.slice a n c,.string t]] w fun e w'=>M3 w w' g B M s gs v (xs,t) e:=by
 by_cases j:s.L.length<capN M
 ·exact oq g B M s gs v rs a n c xs t w h i d m l b f j ht
 ·exact gC g B M s gs v rs a n c xs t w h i d m l b f j
theorem An.sets{T:TypeId}{q:Nat}{cs:List Value}{B:Nat}{rs:List RV}(h:An w g B M s gs v rs)(a:BkA T w q cs)(ht:Tu (fun j=>j=q) w w')(b:T≠174)(d:T≠225)(c:T≠73)(f:T≠265):An w' g B M s gs v rs:=
 ⟨h.blk.tu ht (fun e=>a.ne h.blk b e.symm),h.lo,fun e=>⟨(h.begun e).1.sets a ht d c f,(h.begun e).2⟩,h.fresh,h.co⟩
def M2(w w':World)(g B:Nat)(M:Int)(s:DS)(gs:Nat)(v:Value)(p:PKV)(e:Ending):Prop:=
 ∃a v' b ob,e=.returned (.int .i64 (Lc M s p))/\(Dk s p=true->AS M (Cx s p) (p.r.xs,p.r.s) ob)/\An w' g B M (Fx M s p ob) a v' b/\Tu (CG g gs v) w w'/\Mv w gs v a v'
theorem WB{p:PKV}{ob:ByteArray}(h:Dk s p=false):Fx M s p ob=s/\Lc M s p=1:=by
 unfold Fx Lc;rw[h];exact⟨rfl,rfl⟩
theorem Vm{p:PKV}{ob:ByteArray}(h:Dk s p=true):Fx M s p ob=DN M (Cx s p) (p.r.xs,p.r.s) ob/\Lc M s p=Fr M (Cx s p):=by
 unfold Fx Lc;rw[h];exact⟨rfl,rfl⟩
theorem P9(a:Fn)(first cap:Array Value)(w:World):(Instr.makeFunc a first cap).run Tryz.prog w=.ok (.func a first cap) w:=rfl
theorem ox(p:PKV)(w:World):
  Calls Tryz.prog 85 #[.pointer none,.agg #[.int .i64 p.o,.int .i64 p.l,.int .i64 p.k,.int .i64 p.z,.int .i64 p.h,.slice p.r.a p.r.n p.r.c,.string p.r.s]] w fun e w'=>e=.returned (.int .i64 1)/\Below w.heap.size w w':=by
 have b:=P9;go_enter_defers Tryz.func85,Tryz.ntmps85;go_wp2;simp only[bodyPostD,Leaves];refine⟨.int .i64 1,by simp[results,Tryz.results85,go_sem],rfl,?_⟩;exact(((Below.refl _ _).alloc (Nat.le_refl _) _).alloc (by simp) _)
theorem TL(p:PKV)(w:World):BkA 75 ((w.alloc (.cells #[.int .i64 p.o,.int .i64 p.l,.int .i64 p.k,.int .i64 p.z,.int .i64 p.h,.slice p.r.a p.r.n p.r.c,.string p.r.s] 75)).alloc (.cells #[.int .i64 0] 31)) w.heap.size [.int .i64 p.o,.int .i64 p.l,.int .i64 p.k,.int .i64 p.z,.int .i64 p.h,.slice p.r.a p.r.n p.r.c,.string p.r.s]/\BkA 31 ((w.alloc (.cells #[.int .i64 p.o,.int .i64 p.l,.int .i64 p.k,.int .i64 p.z,.int .i64 p.h,.slice p.r.a p.r.n p.r.c,.string p.r.s] 75)).alloc (.cells #[.int .i64 0] 31)) (w.heap.size+1) [.int .i64 0]/\Below w.heap.size w ((w.alloc (.cells #[.int .i64 p.o,.int .i64 p.l,.int .i64 p.k,.int .i64 p.z,.int .i64 p.h,.slice p.r.a p.r.n p.r.c,.string p.r.s] 75)).alloc (.cells #[.int .i64 0] 31)):=by
 refine⟨?_,?_,((Below.refl _ _).alloc (Nat.le_refl _) _).alloc (by simp) _⟩
 ·have h:BkA 75 (w.alloc (.cells #[.int .i64 p.o,.int .i64 p.l,.int .i64 p.k,.int .i64 p.z,.int .i64 p.h,.slice p.r.a p.r.n p.r.c,.string p.r.s] 75)) w.heap.size [.int .i64 p.o,.int .i64 p.l,.int .i64 p.k,.int .i64 p.z,.int .i64 p.h,.slice p.r.a p.r.n p.r.c,.string p.r.s]:=AO 75 w [.int .i64 p.o,.int .i64 p.l,.int .i64 p.k,.int .i64 p.z,.int .i64 p.h,.slice p.r.a p.r.n p.r.c,.string p.r.s]
  exact h.below (Ax _ _)
 ·have h:=AO 31 (w.alloc (.cells #[.int .i64 p.o,.int .i64 p.l,.int .i64 p.k,.int .i64 p.z,.int .i64 p.h,.slice p.r.a p.r.n p.r.c,.string p.r.s] 75)) [.int .i64 0]
  rw[Bc]at h;exact h
theorem ow(g B:Nat)(M:Int)(s:DS)(gs:Nat)(v:Value)(rs:List RV)(p:PKV)(w:World)(h:An w g B M s gs v rs)(C:RowAt w p.r.a p.r.n p.r.xs)(u:Dk s p=false):
  Calls Tryz.prog 85 #[.pointer (some ⟨g,0,none⟩),.agg #[.int .i64 p.o,.int .i64 p.l,.int .i64 p.k,.int .i64 p.z,.int .i64 p.h,.slice p.r.a p.r.n p.r.c,.string p.r.s]] w fun e w'=>M2 w w' g B M s gs v p e:=by
 have I:=P9;obtain⟨d,A,b⟩:=TL p w;have D:=Ab (mr g B M s gs v rs p _ (h.below b) (C.below b) u);have E:=Ab h;have j:=Ab (WB (M:=M) (ob:=⟨#[]⟩) u);have x:=Ab u;clear h C u;generalize hW:(w.alloc (.cells #[.int .i64 p.o,.int .i64 p.l,.int .i64 p.k,.int .i64 p.z,.int .i64 p.h,.slice p.r.a p.r.n p.r.c,.string p.r.s] 75)).alloc (.cells #[.int .i64 0] 31)=W at*;have K:=d.at 0 rfl;have L:=d.at 1 rfl;have N:=d.at 2 rfl;have O:=d.at 3 rfl;have P:=d.at 4 rfl;have Q:=d.at 5 rfl;have R:=d.at 6 rfl;have G:=Ab A;have y:=Ab b;clear d A b;go_enter_defers Tryz.func85,Tryz.ntmps85;go_wp2_with (go_at_call 126;refine(Aa D).mono ?_;rintro e w1 ⟨⟨tx,rfl⟩,m⟩);have i:=(Aa G).below m;refine leaves_cons (f:=125) (args:=#[.pointer (some ⟨w.heap.size+1,0,none⟩)]) (by simp) (by simp[go_sem]) ?_;refine(bP ⟨w.heap.size+1,0,none⟩ 0 9 _ [] _ (i.at 0 rfl) (i.frz 0)).mono ?_;rintro e S J ⟨rfl,rfl,rfl⟩;have H:=(i.set 0 (.int .i64 1)).at 0 rfl;show Leaves Tryz.prog Tryz.f85 _ _ [] .returning _;refine⟨.int .i64 1,by simp[results,Tryz.results85,go_sem,H],?_⟩;have q:Below w.heap.size w (w1.setCell ⟨w.heap.size+1,0,none⟩ (.int .i64 1)):=(Ad (Aa y) m).setCell (p:=⟨w.heap.size+1,0,none⟩) (Nat.le_succ _) _;refine⟨gs,v,rs,⟨#[]⟩,by rw[(Aa j).2],(fun e=>by rw[Aa x]at e;cases e),?_,Tu.of_below q,Mv.refl _ _ _⟩;rw[(Aa j).1];exact(Aa E).below q
theorem kM(g B:Nat)(M:Int)(s:DS)(gs:Nat)(v:Value)(rs:List RV)(p:PKV)(w:World)(ht:∀wx,Below B w wx->Tab wx)(h:An w g B M s gs v rs)(hr:∀wx,Tu (CG g gs v) w wx->RowAt wx p.r.a p.r.n p.r.xs)(hn:p.r.n<=10)(hs:p.r.s.size<=1000)(ha:Dk s p=true):
  Calls Tryz.prog 85 #[.pointer (some ⟨g,0,none⟩),.agg #[.int .i64 p.o,.int .i64 p.l,.int .i64 p.k,.int .i64 p.z,.int .i64 p.h,.slice p.r.a p.r.n p.r.c,.string p.r.s]] w fun e w'=>M2 w w' g B M s gs v p e:=by
 have ar:=P9;obtain⟨y,he,E⟩:=TL p w;have G:=h.below E;have HA:=Ab (ms g B M s gs v rs p _ G (hr _ (Tu.of_below E)) ha);have Z:=Ab (G.out y (by decide) (by decide) (by decide));have V:=Ab (G.out he (by decide) (by decide) (by decide));have ah:=Ab (Pw ha);have C:=Ab (fun ob=>Vm (M:=M) (ob:=ob) ha);have HH:=Ab h;have HT:=Ab ht;have HR:=Ab hr;clear h hr ha G ht;generalize hW:(w.alloc (.cells #[.int .i64 p.o,.int .i64 p.l,.int .i64 p.k,.int .i64 p.z,.int .i64 p.h,.slice p.r.a p.r.n p.r.c,.string p.r.s] 75)).alloc (.cells #[.int .i64 0] 31)=W at*;have q0:=y.at 0 rfl;have q1:=y.at 1 rfl;have q2:=y.at 2 rfl;have q3:=y.at 3 rfl;have q4:=y.at 4 rfl;have q5:=y.at 5 rfl;have q6:=y.at 6 rfl;have HE:=Ab he;have HX:=Ab y;have R:=Ab E;clear y he E;go_enter_defers Tryz.func85,Tryz.ntmps85;go_wp2_with fail;refine(Aa HA).mono ?_;rintro e w1 ⟨rfl,D,v1,af,b,J,ad⟩;have i:=(Aa HE).tu J (Aa V);have Q:=(Aa HX).tu J (Aa Z);have u:Tu (CG g gs v) w w1:=Tu.after (Aa R) J;have O:Mv w gs v D v1:=ad.new (Aa R).size;have m:=Aa HR w1 u;obtain⟨-, -, -, -, -, -,c6, -⟩:=b.cells;have ec:=i.at 0 rfl;have ef:=i.frz 0;have x5:=Q.at 5 rfl;have x6:=Q.at 6 rfl;have I:=Aa ah;have N:Below B w w1:=(Aa HH).keeps u;have S:=Ab b;have A:=Ab i;have L:=Ab u;have K:=Ab O;clear q0 q1 q2 q3 q4 q5 q6 HA Z V HE HX Q J ad;cases d:(Cx s p).dn
 ·have X:=Ab (kL g B M (Cx s p) D v1 af p.r.a p.r.n p.r.c p.r.xs p.r.s w1 (fun wx hb=>Aa HT wx (N.trans hb)) b I.2.2 d m hn hs I.2.1)
  rw[d]at c6;clear b i u O m I N;go_wp2_with fail;refine(Aa X).mono ?_;rintro e w2 ⟨v2,am,ob,rfl,hT,aa,P,ae⟩;have ab:=(Aa S).out (Aa A) (by decide) (by decide) (by decide);have H:=(Aa A).tu P ab;have ao:=H.at 0 rfl;have ap:=H.frz 0;have T:=Ab H;have ag:=Ab aa;have al:=Ab hT;have ak:=Ab (qZ (Aa L) P (Aa K));have ai:=Ab ((Aa K).trans ae (Aa L).size);clear H aa hT P ae ab ec ef c6 x5 x6 X;generalize aq:Fr M (Cx s p)=KE at*;go_wp2;refine leaves_cons (f:=125) (args:=#[.pointer (some ⟨w.heap.size+1,0,none⟩)]) (by simp) (by simp[go_sem]) ?_;refine(Sd ⟨w.heap.size+1,0,none⟩ _).mono ?_;rintro e u' an ⟨rfl,rfl,rfl⟩;have hc:=((Aa T).set 0 (.int .i64 KE)).at 0 rfl;show Leaves Tryz.prog Tryz.f85 _ _ [] .returning _;refine⟨.int .i64 KE,by simp[results,Tryz.results85,go_sem,hc],?_⟩;have q:=Be w2 (w.heap.size+1) 0 (.int .i64 KE);refine⟨D,v2,am,ob,by rw[(Aa C ob).2],fun _=>Aa al,?_,(Aa ak).trans q fun j hj e=>absurd e (by omega),Aa ai⟩;rw[(Aa C ob).1];exact(Aa ag).sets (Aa T) q (by decide) (by decide) (by decide) (by decide)
 ·rw[d]at c6
  have ac:=fun ob=>KS (M:=M) (x:=(p.r.xs,p.r.s)) (ob:=ob) d;have Y:=Ab ac;have aj:=Ab (kl (M:=M) (x:=(p.r.xs,p.r.s)) d);clear b i u O m I N ac;go_wp2;refine leaves_cons (f:=125) (args:=#[.pointer (some ⟨w.heap.size+1,0,none⟩)]) (by simp) (by simp[go_sem]) ?_;refine(Sd ⟨w.heap.size+1,0,none⟩ _).mono ?_;rintro e u' an ⟨rfl,rfl,rfl⟩;have hc:=((Aa A).set 0 (.int .i64 0)).at 0 rfl;show Leaves Tryz.prog Tryz.f85 _ _ [] .returning _;refine⟨.int .i64 0,by simp[results,Tryz.results85,go_sem,hc],?_⟩;have q:=Be w1 (w.heap.size+1) 0 (.int .i64 0);refine⟨D,v1,af,⟨#[]⟩,by rw[(Aa C ⟨#[]⟩).2,(Aa Y ⟨#[]⟩).2],(fun _ hq=>by rw[Aa aj]at hq;cases hq),?_,(Aa L).trans q fun j hj e=>absurd e (by omega),Aa K⟩;rw[(Aa C ⟨#[]⟩).1,(Aa Y ⟨#[]⟩).1];exact(Aa S).sets (Aa A) q (by decide) (by decide) (by decide) (by decide)
theorem ou(g B:Nat)(M:Int)(s:DS)(gs:Nat)(v:Value)(rs:List RV)(p:PKV)(w:World)(ht:∀wx,Below B w wx->Tab wx)(h:An w g B M s gs v rs)(d:∀wx,Tu (CG g gs v) w wx->RowAt wx p.r.a p.r.n p.r.xs)(f:p.r.n<=10)(i:p.r.s.size<=1000):
  Calls Tryz.prog 85 #[.pointer (some ⟨g,0,none⟩),.agg #[.int .i64 p.o,.int .i64 p.l,.int .i64 p.k,.int .i64 p.z,.int .i64 p.h,.slice p.r.a p.r.n p.r.c,.string p.r.s]] w fun e w'=>M2 w w' g B M s gs v p e:=by
 cases b:Dk s p
 ·exact ow g B M s gs v rs p w h (d w (Tu.refl _ _)) b
 ·exact kM g B M s gs v rs p w ht h d f i b
structure Hz(w wr:World)(b n nx:Nat)(es:List (Nat×Nat))(D:DataW Unit)(left:Lit->Bool)(c f l:Nat):Prop where
 rg:wr.ranges Tryz.prog 112 (plainElem Tryz.prog 3) b w.heap.size n D left c
 bel:Below w.heap.size w wr
 low:∀p∈es,left (.int .u32 (p.1:Int))=false->l<=p.2
 one:(f,l)∈es\/l=nx
theorem Hz.step{w wr w1:World}{b n nx c c1 f l:Nat}{o:List (Nat×Nat)}{D:DataW Unit}{left:Lit->Bool}{x v:Int}(h:Hz w wr b n nx o D left c f l)(A:En D nx o)
  (C:(Lit.int .u32 x).wf=true) (i:∀zd,D.atKey (.int .u32 x) zd=.lit (.int .i64 v))
  (u:w1.ranges Tryz.prog 112 (plainElem Tryz.prog 3) b w.heap.size n D (fun z=>left z&& !z.sameKey (.int .u32 x)) c1) (J:wr.grownBy w1 (some w.heap.size)):
  ∃k s:Nat,x=(k:Int)/\v=(s:Int)/\(s<l->Hz w w1 b n nx o D (fun z=>left z&& !z.sameKey (.int .u32 x)) c1 k s)/\(¬s<l->Hz w w1 b n nx o D (fun z=>left z&& !z.sameKey (.int .u32 x)) c1 f l):=by
 have L:=bounds_u32 C;obtain⟨k,rfl⟩:∃k:Nat,x=(k:Int):=⟨x.toNat,by omega⟩;have H:=has_true_of_atKey i;rw[A.has,VA]at H;obtain⟨⟨y,s⟩,hp,e⟩:=List.mem_map.1 H;obtain rfl:y=k:=e;have E:=A.at' _ hp (.lit (.int .i64 0));rw[i]at E;have I:v=(s:Int):=by simpa using E
 have r:Below w.heap.size w w1:=h.bel.trans (CJ J h.bel.size fun j K=>by cases K;exact Nat.le_refl _)
 have d:∀p∈o,(left (.int .u32 (p.1:Int))&& !(Lit.int .u32 (p.1:Int)).sameKey (.int .u32 (y:Int)))=false->left (.int .u32 (p.1:Int))=false\/p.2=s:=fun p a m=>by
  rw[ZD]at m;by_cases e:p.1=y
  ·have G:=A.at' p a (.lit (.int .i64 0))
   rw[e,i,I]at G;right;have:(s:Int)=(p.2:Int):=by simpa using G
   omega
  ·left;simpa [e]using m
 refine⟨y,s,rfl,I,fun B=>⟨u,r,fun p a m=>?_,.inl hp⟩,fun B=>⟨u,r,fun p a m=>?_,h.one⟩⟩
 ·rcases d p a m with q|q
  ·have:=h.low p a q;omega
  ·omega
 ·rcases d p a m with q|q
  ·exact h.low p a q
  ·omega
theorem Hz.done{w wr:World}{b n nx c f l:Nat}{a:List (Nat×Nat)}{D:DataW Unit}{left:Lit->Bool}(h:Hz w wr b n nx a D left c f l)(m:En D nx a)(q:∀u,left u=false)(e:a≠ []):f=(a.map Prod.fst).headD 0:=by
 match a,e with
 |(i,s0)::r,_=>
  have j:=h.low (i,s0) List.mem_cons_self (q _);have o:=m.low (i,s0) List.mem_cons_self;have p:=(List.pairwise_cons.1 m.rise).1;show f=i;rcases h.one with k|k
  ·rcases List.mem_cons.1 k with d|d
   ·exact(Prod.mk.inj d).1
   ·have:=p _ d
    simp only at this j;omega
  ·simp only at j o;omega
theorem cV(g b m N:Nat)(L:List Nat)(w:World)(h:AP w g b m N L)(H:L≠ []):
  Calls Tryz.prog 155 #[.pointer (some ⟨g,0,none⟩)] w fun e w'=>e=.returned (.int .u32 ((L.headD 0:Nat):Int))/\Below w.heap.size w w':=by
 obtain⟨nx,J,D,hn,R,ho,Q,P⟩:=h.it;have h1:=R.at 1 rfl;have h2:=R.at 2 rfl;have K:=Ab (A0.tu (F:=fun _=>False) ho (It _ w) id);have Y:=Ab Q;have C:J≠ []:=fun e=>H (by rw[P,e];rfl);have HE:=Ab C
 have O:=Ab (show∀w0,w0.ranges Tryz.prog 112 (plainElem Tryz.prog 3) b w.heap.size L.length D (Maps.has D) (Maps.size D)->w.drew.grownBy w0 none->Hz w w0 b L.length nx J D (Maps.has D) (Maps.size D) 0 nx from
  fun w0 T hg=>⟨T,(Below.refl _ _).drew.trans (CJ hg (Nat.le_refl _) fun j hj=>by cases hj),fun p hp Z=>by rw[Q.has,Mt]at Z;exact absurd (List.mem_map.2 ⟨p,hp,rfl⟩) Z,.inr rfl⟩)
 rw[P]at K O⊢;generalize (J.map Prod.fst).length=n at*;clear R ho Q P C h H;go_enter Tryz.func155,Tryz.ntmps155;go_wp2_with fail;go_region_held (fun w'=>w'.cell? ⟨g,2,none⟩=some (.int .i64 (nx:Int))) (go_keep) (fail);go_wp2_with (first|(at_range;refine wpList_range_own _ rfl _ 191 rfl 112 3 JT Tryz.underlying191 _ b n D rfl (Aa K) ?_;intro w0 o E V;have z:=Ab (Aa O w0 o E);clear o E V O K));go_frame;go_loopw [3,4] (fun t u wr=> ∃(f l c:Nat) (left:Lit->Bool),t=.int .u32 (f:Int)/\u=.int .i64 (l:Int)/\Hid (Hz w wr b n nx J D left c f l)) (fun _ _ wr=>wr.rangeLeft b w.heap.size)
 case atStart=>exact⟨0,nx,_,_,rfl,rfl,z⟩
 case round=>
  obtain⟨f,l,c,left,rfl,rfl,r⟩:=hrel;clear z h1 h2;have a:=Ab (Aa r).rg.left_eq;go_wp2_with (first|(at_next;refine wpList_next_ranges_ii _ rfl _ rfl 112 3 .u32 .i64 JT Tryz.underlying112 Tryz.underlying3 b w.heap.size n D left c rfl (Aa r).rg ?_ ?_))
  ·intro _ hl
   have HD:=Ab ((Aa r).done (Aa Y) hl (Aa HE));have HB:=Ab (Aa r).bel;clear r hl a;go_wp2;go_ret;exact⟨CB (by rw[Aa HD]),Aa HB⟩
  ·intro x v w1 c1 I X S B q ab G W aa
   obtain⟨k,s,rfl,rfl,d,y⟩:=(Aa r).step (Aa Y) I B q G;clear I X S B q G W r;by_cases i:s<l
   ·have A:=Ab (d i)
    have hd:(s:Int)<(l:Int):=by omega
    clear d y i;go_wp2;go_roundw
    case rel=>exact⟨_,_,_,_,_,_,_,_,_,_,_,_,_,_,⟨k,s,c1,_,rfl,rfl,A⟩,rfl⟩
    case measure=>rw[(Aa A).rg.left_eq,Aa a];omega
   ·have A:=Ab (y i)
    have hd:(l:Int)<=(s:Int):=by omega
    clear d y i;go_wp2;go_roundw
    case rel=>exact⟨_,_,_,_,_,_,_,_,_,_,_,_,_,_,⟨f,l,c1,_,rfl,rfl,A⟩,rfl⟩
    case measure=>rw[(Aa A).rg.left_eq,Aa a];omega
end Go.Proofs.YtmmikiikddokgaaGreatDoor
