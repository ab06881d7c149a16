/- Laws for the proof. -/
import Derived.Test.YtfpmnekaockodaaGreatDoorU37
import Derived.ChangeShapes
set_option linter.all false
open Go.Proofs.Tryz
open Go.IntKind renaming i64->U,u32->μ
open Go.Proofs.Tryz renaming prog->α
open Go.Value renaming pointer->β,slice->θ
open Option renaming none->γ,some->ζ
open Go.RowKit.Below renaming refl->δ
open Go.Obj renaming cells->ε
open Go.RowKit renaming Below->η
open Go renaming World->ι,Value->κ,Calls->ν
namespace Go.Proofs.YtfpmnekaockodaaGreatDoor
open Go.RowKit Go.Sort Go.Maps Go.ChangeShapes
set_option maxRecDepth 4000
set_option maxHeartbeats 8000000
variable {s:DS}{M:Int}{g gs:Nat}{v:κ}{w w':ι}
def Nn(w w':ι)(g B:Nat)(M:Int)(s:DS)(gs:Nat)(v:κ)(x:List Nat×ByteArray)(e:Ending):Prop:=
 ∃v' a ob,e=.returned (.int U (Fx M s))/\GV M s x ob/\Ao w' g B M (E3 M s x ob) gs v' a/\Tu (CP g gs v) w w'/\Mv w gs v gs v'
def Ro(h:Tu (Dk gs v) w w'):Tu (CP g gs v) w w':=⟨h.os,h.tape,h.output,h.size,fun k a b=>h.block k a fun e=>b (.inr e)⟩
def Rv(h:Tu (fun j=>j=g) w w'):Tu (CP g gs v) w w':=⟨h.os,h.tape,h.output,h.size,fun k a b=>h.block k a fun e=>b (.inl e)⟩
def gM(g B:Nat)(M:Int)(s:DS)(gs:Nat)(v:κ)(rs:List RV)(a:Option Addr)(n c:Nat)(xs:List Nat)(t:ByteArray)(w:ι)(h:Ao w g B M s gs v rs)(P:s.bg=true)(hd:s.dn=false)(hr:RowAt w a n xs)(hn:n<=10)(ac:t.size<=1000)(hf:BX s.k s.z (xs,t)=true)(hl:¬s.L.length<capN M):
  ν α 127 #[β (ζ ⟨g,0,γ⟩),.agg #[θ a n c,.string t]] w fun e w'=>Nn w w' g B M s gs v (xs,t) e:=by
 obtain⟨Q,hI⟩:=h.begun P;have d:=As w (ε #[θ a n c,.string t] 73);have N:=AI 73 w [θ a n c,.string t];have E:=h.blk.below d;rw[P,show FY true gs=ζ ⟨gs,0,γ⟩ from rfl]at E
 have H:¬Dk gs v w.heap.size:=fun f=>by
  rcases f with f|f
  ·have:=Q.lt;omega
  ·have:=(World.ownsRow.lt Q.own _ f).2;omega
 have y:=Q.below d;have I:=hr.below d;have HC:=Ab h.co;have X:=Ab h.lo;have hE:w.alloc (.cells [θ a n c,.string t].toArray 73)=w.alloc (ε #[θ a n c,.string t] 73):=rfl;rw[hE]at N;have ab:=E.outSt y (by decide) (by decide);clear hE h hr Q;generalize hW:w.alloc (ε #[θ a n c,.string t] 73)=W at*;have q0:=N.at 0 rfl;have q1:=N.at 1 rfl;have d5:=E.at 5 rfl;have HP:=Ab (fun wx (hb:η W.heap.size W wx)=>W7 gs B s.k s.z (capN M) v rs s.ov a n c xs t wx (y.below hb) (I.below hb) hn ac);have l:=Ab (WC (m:=capN M) (L:=rs.map core) hf (by rw[Aa HC];exact hl));have HX:=Ab N;have HK:=Ab E;have A:=Ab d;have HI:=Ab hI;have HF:=Ab hf;have i:=Ab (Ou (M:=M) (s:=s) (x:=(xs,t)) (ob:=⟨#[]⟩) hd hl);clear N E d y I hI hf hl hd;go_enter func127,ntmps127;go_wp2_with fail
 go_region_held3 (fun w'=>w'.cell? ⟨w.heap.size,0,γ⟩=ζ (θ a n c)/\w'.cell? ⟨w.heap.size,1,γ⟩=ζ (.string t)/\w'.cell? ⟨g,5,γ⟩=ζ (β (ζ ⟨gs,0,γ⟩))) (go_keep) (first
  |(go_at_call 161;refine(Aa HP _ (δ _ _).drew).mono ?_;rintro e w1 ⟨C,v1,ad,u,p,b,J⟩;rw[(Aa l).1]at C;rw[(Aa l).2.1]at p;rw[(Aa l).2.2]at u;obtain rfl:=C;have b:Tu (Dk gs v) W w1:=Tu.after (δ _ _).drew b;have R:=(Aa HK).tu b ab;have y2:=(Aa HX).tu b H;have r0:=y2.at 0 rfl;have r1:=y2.at 1 rfl;have e5:=R.at 5 rfl;have e3:=R.at 3 rfl;have Y:=Ab u;have S:=Ab p;have Z:=Ab b;have aa:=Ab (show v1.ownBlock=v.ownBlock\/∀j,v1.ownBlock=ζ j->W.heap.size<=j from J);have V:=Ab R;clear u p b J R y2)
  |fail)
 clear HP l HX HK q0 q1 d5;go_wp2_with fail;refine wp_region_quiet_below (by kernel_rfl) (by kernel_rfl) ?_
 repeat (with_reducible refine wpQuiet_step (fun K hK=>?_);go_simp;with_reducible refine hK _ ?_;clear hK K)
 refine wpQuiet_nil ?_;intro w3 o;obtain⟨⟨dq,O⟩,o⟩:=o;have T:=Ab (show η w1.heap.size w1 w3 from by rw[o];exact below_regrown _ dq O);clear o dq O;go_wp2;go_ret;have r:=Aa T;refine⟨v1,ad,⟨#[]⟩,by rw[(Aa i).2.1];rfl,fun f=>?_,?_,((Ro (Aa Z)).after (Aa A)).then r,.inl rfl,?_⟩
 ·rw[(Aa i).2.2]at f;cases f
 ·have hT:GV M s (xs,t) ⟨#[]⟩:=fun f=>by rw[(Aa i).2.2]at f;cases f
  have D:=(Aa HI).keep (Aa HF) hT;rw[(Aa i).1]at D⊢;refine⟨?_,Aa X,fun _=>⟨(Aa Y).below r,D⟩,(fun e=>by have e':s.bg=false:=e;rw[P]at e';cases e'),by rw[Aa S];exact Aa HC⟩;show BkA _ _ _ (Jp M s (FY s.bg gs));rw[P];exact(Aa V).below r
 ·rcases Aa aa with q|q
  ·exact .inl q
  ·exact .inr fun j hj=>Nat.le_trans (Aa A).size (q j hj)
def pI(g B:Nat)(M:Int)(s:DS)(gs:Nat)(v:κ)(rs:List RV)(a:Option Addr)(n c:Nat)(xs:List Nat)(t:ByteArray)(w:ι)(h:Ao w g B M s gs v rs)(hg:s.bg=true)(hd:s.dn=false)(hr:RowAt w a n xs)(hn:n<=10)(a0:t.size<=1000)(hf:BX s.k s.z (xs,t)=true)(hl:s.L.length<capN M)(ht:∀wx,η B w wx->Tab wx):
  ν α 127 #[β (ζ ⟨g,0,γ⟩),.agg #[θ a n c,.string t]] w fun e w'=>Nn w w' g B M s gs v (xs,t) e:=by
 obtain⟨hs,hI⟩:=h.begun hg;have y:=As w (ε #[θ a n c,.string t] 73);have p:=AI 73 w [θ a n c,.string t];have hk:=h.blk.below y;rw[hg,show FY true gs=ζ ⟨gs,0,γ⟩ from rfl]at hk
 have am:¬Dk gs v w.heap.size:=fun hq=>by
  rcases hq with hq|hq
  ·have:=hs.lt;omega
  ·have:=(World.ownsRow.lt hs.own _ hq).2;omega
 have N:=hs.below y;have an:=hr.below y;have HC:=Ab h.co;have ae:=Ab h.lo;have hE:w.alloc (.cells [θ a n c,.string t].toArray 73)=w.alloc (ε #[θ a n c,.string t] 73):=rfl;rw[hE]at p;have ay:=hk.outSt N (by decide) (by decide);have ab:=Ab hs.lob;clear hE h hr hs;generalize hW:w.alloc (ε #[θ a n c,.string t] 73)=W at*;have q0:=p.at 0 rfl;have q1:=p.at 1 rfl;have d5:=hk.at 5 rfl;have HP:=Ab (fun wx (I:η W.heap.size W wx)=>W7 gs B s.k s.z (capN M) v rs s.ov a n c xs t wx (N.below I) (an.below I) hn a0);have E:=Ab (Q4 (m:=capN M) (L:=rs.map core) hf (by rw[Aa HC];exact hl));have HX:=Ab p;have HK:=Ab hk;have D:=Ab y;have HI:=Ab hI;have HF:=Ab hf;have HD:=Ab hd;have HL:=Ab hl;have HT:=Ab ht;have T:=Ab N;clear p hk y N an hI hf hl hd ht;go_enter func127,ntmps127;go_wp2_with fail
 go_region_held3 (fun w'=>w'.cell? ⟨w.heap.size,0,γ⟩=ζ (θ a n c)/\w'.cell? ⟨w.heap.size,1,γ⟩=ζ (.string t)/\w'.cell? ⟨g,5,γ⟩=ζ (β (ζ ⟨gs,0,γ⟩))) (go_keep) (first
  |(go_at_call 161;refine(Aa HP _ (δ _ _).drew).mono ?_;rintro e w1 ⟨aj,v1,b,f,Z,o,ao⟩;rw[(Aa E).1]at aj;rw[(Aa E).2.1]at Z;rw[(Aa E).2.2]at f;obtain rfl:=aj;have o:Tu (Dk gs v) W w1:=Tu.after (δ _ _).drew o;have r:=(Aa HK).tu o ay;have y2:=(Aa HX).tu o am;have r0:=y2.at 0 rfl;have r1:=y2.at 1 rfl;have e5:=r.at 5 rfl;have e3:=r.at 3 rfl;have H:=Ab f;have ac:=Ab Z;have V:=Ab o;have ai:=Ab (show v1.ownBlock=v.ownBlock\/∀j,v1.ownBlock=ζ j->W.heap.size<=j from ao);have O:=Ab r;clear f Z o ao r y2)
  |fail)
 clear HP E HX HK q0 q1 d5;have f:=Aa H;have Y:η B w w1:=((Aa D).mono (Aa ab)).trans ((Aa T).keeps (Aa V) (Aa T).lob);have ap:=Ab Y;have S:=Ab (fun wx (I:η w1.heap.size w1 wx)=>VP gs B s.k s.z (capN M) v1 b s.ov wx (Aa HT wx (Y.trans (I.mono f.lob))) (f.below I));have HQ:=Ab (fun wx (I:η w1.heap.size w1 wx)=>(Aa O).below I);have Q:=Ab (LU b);have i:=Ab (show b.map core=s.L++[(xs,t)] from by rw[Aa ac,Aa HC])
 have aq:=Ab (show∀x∈b.map core,BX s.k s.z x=true from fun x p=>by
  rw[Aa i]at p;rcases List.mem_append.1 p with p|p
  ·exact(Aa HI).fit x p
  ·rw[List.mem_singleton.1 p];exact Aa HF)
 have af:=Ab (show Mv w gs v gs v1 from⟨.inl rfl,(Aa ai).imp id fun q j hj=>Nat.le_trans (Aa D).size (q j hj)⟩);have ah:=Ab (Tu.after (Aa D) (Ro (g:=g) (Aa V)));clear f Y ac ai V T D ab r0 r1;go_wp2_with fail;by_cases X:(rankN b:Int)=s.k
 ·have HR:=Ab X
  have ax:((rankN b:Int)==s.k)=true:=by rw[X];exact beq_self_eq_true _
  have u:=Ab (fun ob=>Kz (M:=M) (s:=s) (x:=(xs,t)) (ob:=ob) (Aa HD) (Aa HL) (by rw[<-Aa i,<-Aa Q];exact X));generalize aw:rankN b=R at*;clear X
  go_region_held3 (fun w'=>w'.cell? ⟨g,3,γ⟩=ζ (.int U s.k)/\w'.cell? ⟨g,5,γ⟩=ζ (β (ζ ⟨gs,0,γ⟩))) (go_keep) (first
   |(go_at_call 88;refine(Aa S _ (δ _ _).drew).mono ?_;rintro e w2 ⟨rfl,d⟩;have C:=Ab (show η w1.heap.size w1 w2 from Ad (δ _ _).drew d);have r:=Aa HQ w2 (Aa C);have e3:=r.at 3 rfl;have e5:=r.at 5 rfl;clear d r)
   |fail)
  have K:=(Aa H).below (Aa C);have aa:=(Aa O).below (Aa C);have d:η B w w2:=(Aa ap).trans ((Aa C).mono (Aa H).lob);have HJ:=Ab (jK g gs B M s (capN M) v1 b s.ov w2 (fun wx I=>Aa HT wx (d.trans (I.mono K.lob))) aa K (Aa HI) (Aa aq) (by rw[<-Aa Q];exact Aa HR));have ag:=Ab K;have ad:=Ab aa;clear K aa d S HQ;go_wp2_with fail;refine(Aa HJ).mono ?_;rintro e w3 ⟨ob,rfl,al,J⟩;have l:=(Aa ad).below J;have f6:=l.frz 6;have f7:=l.frz 7;have c6:=l.at 6 rfl;have c7:=l.at 7 rfl;have P:=Ab l;have au:=Ab ((Aa ag).below J);have ar:=Ab al;have av:=Ab (((Aa ah).then (Aa C)).then J);clear l al J HJ ag ad e3 e5;go_wp2;go_ret;have ak:=Aa u ob;have hT:GV M s (xs,t) ob:=fun _=>by rw[<-Aa i];exact Aa ar
  have A:=(Aa HI).keep (Aa HF) hT;have t7:=A8 w3 g 7 (.string ob);have t6:=A8 (w3.setCell ⟨g,7,γ⟩ (.string ob)) g 6 (.bool true);have az:=((Aa P).set 7 (.string ob)).set 6 (.bool true);refine⟨v1,b,ob,by rw[ak.2.1];rfl,hT,?_,((Aa av).trans (Rv (gs:=gs) (v:=v) t7) fun _ _ h=>h).trans (Rv (gs:=gs) (v:=v) t6) fun _ _ h=>h,Aa af⟩;rw[ak.1]at A⊢;refine⟨?_,Aa ae,fun _=>⟨((Aa au).sets (Aa P) t7 (by decide) (by decide) (by decide)).sets ((Aa P).set 7 (.string ob)) t6 (by decide) (by decide) (by decide),A⟩,(fun e=>by have e':s.bg=false:=e;rw[hg]at e';cases e'),Aa i⟩;show BkA _ _ _ (Jp M {s with L:=s.L++[(xs,t)],dn:=true,ob:=ob} (FY s.bg gs));rw[hg];exact az
 ·have ax:((rankN b:Int)==s.k)=false:=by rw[beq_eq_false_iff_ne];exact X
  have u:=Ab (Pz (M:=M) (s:=s) (x:=(xs,t)) (ob:=⟨#[]⟩) (Aa HD) (Aa HL) (by rw[<-Aa i,<-Aa Q];exact X));generalize aw:rankN b=R at*;clear X
  go_region_held3 (fun w'=>w'.cell? ⟨g,3,γ⟩=ζ (.int U s.k)/\w'.cell? ⟨g,5,γ⟩=ζ (β (ζ ⟨gs,0,γ⟩))) (go_keep) (first
   |(go_at_call 88;refine(Aa S _ (δ _ _).drew).mono ?_;rintro e w2 ⟨rfl,d⟩;have C:=Ab (show η w1.heap.size w1 w2 from Ad (δ _ _).drew d);have r:=Aa HQ w2 (Aa C);have e3:=r.at 3 rfl;have e5:=r.at 5 rfl;clear d r)
   |fail)
  go_wp2;go_ret;have hT:GV M s (xs,t) ⟨#[]⟩:=fun hq=>by rw[(Aa u).2.2]at hq;cases hq
  have A:=(Aa HI).keep (Aa HF) hT;refine⟨v1,b,⟨#[]⟩,by rw[(Aa u).2.1];rfl,hT,?_,(Aa ah).then (Aa C),Aa af⟩;rw[(Aa u).1]at A⊢;refine⟨?_,Aa ae,fun _=>⟨(Aa H).below (Aa C),A⟩,(fun e=>by have e':s.bg=false:=e;rw[hg]at e';cases e'),Aa i⟩;show BkA _ _ _ (Jp M s (FY s.bg gs));rw[hg];exact(Aa O).below (Aa C)
def kt(g B:Nat)(M:Int)(s:DS)(gs:Nat)(v:κ)(rs:List RV)(a:Option Addr)(n c:Nat)(xs:List Nat)(t:ByteArray)(w:ι)(ht:∀wx,η B w wx->Tab wx)(h:Ao w g B M s gs v rs)(i:s.bg=true)(d:s.dn=false)(m:RowAt w a n xs)(l:n<=10)(b:t.size<=1000)(f:BX s.k s.z (xs,t)=true):
  ν α 127 #[β (ζ ⟨g,0,γ⟩),.agg #[θ a n c,.string t]] w fun e w'=>Nn w w' g B M s gs v (xs,t) e:=by
 by_cases j:s.L.length<capN M
 ·exact pI g B M s gs v rs a n c xs t w h i d m l b f j ht
 ·exact gM g B M s gs v rs a n c xs t w h i d m l b f j
def Ao.sets{T:TypeId}{q:Nat}{cs:List κ}{B:Nat}{rs:List RV}(h:Ao w g B M s gs v rs)(a:BkA T w q cs)(ht:Tu (fun j=>j=q) w w')(b:T≠174)(d:T≠225)(c:T≠73)(f:T≠265):Ao w' g B M s gs v rs:=
 ⟨h.blk.tu ht (fun e=>a.ne h.blk b e.symm),h.lo,fun e=>⟨(h.begun e).1.sets a ht d c f,(h.begun e).2⟩,h.fresh,h.co⟩
def Nm(w w':ι)(g B:Nat)(M:Int)(s:DS)(gs:Nat)(v:κ)(p:PKV)(e:Ending):Prop:=
 ∃a v' b ob,e=.returned (.int U (Lo M s p))/\(Df s p=true->GV M (Cs s p) (p.r.xs,p.r.s) ob)/\Ao w' g B M (FW M s p ob) a v' b/\Tu (CP g gs v) w w'/\Mv w gs v a v'
def WP{p:PKV}{ob:ByteArray}(h:Df s p=false):FW M s p ob=s/\Lo M s p=1:=by
 unfold FW Lo;rw[h];exact⟨rfl,rfl⟩
def Vb{p:PKV}{ob:ByteArray}(h:Df s p=true):FW M s p ob=E3 M (Cs s p) (p.r.xs,p.r.s) ob/\Lo M s p=Fx M (Cs s p):=by
 unfold FW Lo;rw[h];exact⟨rfl,rfl⟩
def Qr(a:Fn)(first cap:Array κ)(w:ι):(Instr.makeFunc a first cap).run α w=.ok (.func a first cap) w:=rfl
def oW(p:PKV)(w:ι):
  ν α 85 #[β none,.agg #[.int U p.o,.int U p.l,.int U p.k,.int U p.z,.int U p.h,.slice p.r.a p.r.n p.r.c,.string p.r.s]] w fun e w'=>e=.returned (.int U 1)/\η w.heap.size w w':=by
 have b:=Qr;go_enter_defers func85,ntmps85;go_wp2;simp only[bodyPostD,Leaves];refine⟨.int U 1,by simp[results,Tryz.results85,go_sem],rfl,?_⟩;exact(((δ _ _).alloc (Nat.le_refl _) _).alloc (by simp) _)
def UP(p:PKV)(w:ι):BkA 75 ((w.alloc (ε #[.int U p.o,.int U p.l,.int U p.k,.int U p.z,.int U p.h,.slice p.r.a p.r.n p.r.c,.string p.r.s] 75)).alloc (ε #[.int U 0] 31)) w.heap.size [.int U p.o,.int U p.l,.int U p.k,.int U p.z,.int U p.h,.slice p.r.a p.r.n p.r.c,.string p.r.s]/\BkA 31 ((w.alloc (ε #[.int U p.o,.int U p.l,.int U p.k,.int U p.z,.int U p.h,.slice p.r.a p.r.n p.r.c,.string p.r.s] 75)).alloc (ε #[.int U 0] 31)) (w.heap.size+1) [.int U 0]/\η w.heap.size w ((w.alloc (ε #[.int U p.o,.int U p.l,.int U p.k,.int U p.z,.int U p.h,.slice p.r.a p.r.n p.r.c,.string p.r.s] 75)).alloc (ε #[.int U 0] 31)):=by
 refine⟨?_,?_,((δ _ _).alloc (Nat.le_refl _) _).alloc (by simp) _⟩
 ·have h:BkA 75 (w.alloc (ε #[.int U p.o,.int U p.l,.int U p.k,.int U p.z,.int U p.h,.slice p.r.a p.r.n p.r.c,.string p.r.s] 75)) w.heap.size [.int U p.o,.int U p.l,.int U p.k,.int U p.z,.int U p.h,.slice p.r.a p.r.n p.r.c,.string p.r.s]:=AI 75 w [.int U p.o,.int U p.l,.int U p.k,.int U p.z,.int U p.h,.slice p.r.a p.r.n p.r.c,.string p.r.s]
  exact h.below (As _ _)
 ·have h:=AI 31 (w.alloc (ε #[.int U p.o,.int U p.l,.int U p.k,.int U p.z,.int U p.h,.slice p.r.a p.r.n p.r.c,.string p.r.s] 75)) [.int U 0]
  rw[A7]at h;exact h
def oV(g B:Nat)(M:Int)(s:DS)(gs:Nat)(v:κ)(rs:List RV)(p:PKV)(w:ι)(h:Ao w g B M s gs v rs)(C:RowAt w p.r.a p.r.n p.r.xs)(u:Df s p=false):
  ν α 85 #[β (ζ ⟨g,0,γ⟩),.agg #[.int U p.o,.int U p.l,.int U p.k,.int U p.z,.int U p.h,.slice p.r.a p.r.n p.r.c,.string p.r.s]] w fun e w'=>Nm w w' g B M s gs v p e:=by
 have J:=Qr;obtain⟨d,A,b⟩:=UP p w;have D:=Ab (pO g B M s gs v rs p _ (h.below b) (C.below b) u);have E:=Ab h;have j:=Ab (WP (M:=M) (ob:=⟨#[]⟩) u);have x:=Ab u;clear h C u;generalize hW:(w.alloc (ε #[.int U p.o,.int U p.l,.int U p.k,.int U p.z,.int U p.h,.slice p.r.a p.r.n p.r.c,.string p.r.s] 75)).alloc (ε #[.int U 0] 31)=W at*;have L:=d.at 0 rfl;have N:=d.at 1 rfl;have O:=d.at 2 rfl;have P:=d.at 3 rfl;have Q:=d.at 4 rfl;have R:=d.at 5 rfl;have S:=d.at 6 rfl;have H:=Ab A;have y:=Ab b;clear d A b;go_enter_defers func85,ntmps85;go_wp2_with (go_at_call 126;refine(Aa D).mono ?_;rintro e w1 ⟨⟨tx,rfl⟩,m⟩);have i:=(Aa H).below m;refine leaves_cons (f:=125) (args:=#[β (ζ ⟨w.heap.size+1,0,γ⟩)]) (by simp) (by simp[go_sem]) ?_;refine(dY ⟨w.heap.size+1,0,γ⟩ 0 9 _ [] _ (i.at 0 rfl) (i.frz 0)).mono ?_;rintro e T K ⟨rfl,rfl,rfl⟩;have I:=(i.set 0 (.int U 1)).at 0 rfl;show Leaves α Tryz.f85 _ _ [] .returning _;refine⟨.int U 1,by simp[results,Tryz.results85,go_sem,I],?_⟩;have q:η w.heap.size w (w1.setCell ⟨w.heap.size+1,0,γ⟩ (.int U 1)):=(Ad (Aa y) m).setCell (p:=⟨w.heap.size+1,0,γ⟩) (Nat.le_succ _) _;refine⟨gs,v,rs,⟨#[]⟩,by rw[(Aa j).2],(fun e=>by rw[Aa x]at e;cases e),?_,Tu.of_below q,Mv.refl _ _ _⟩;rw[(Aa j).1];exact(Aa E).below q
def ku(g B:Nat)(M:Int)(s:DS)(gs:Nat)(v:κ)(rs:List RV)(p:PKV)(w:ι)(ht:∀wx,η B w wx->Tab wx)(h:Ao w g B M s gs v rs)(hr:∀wx,Tu (CP g gs v) w wx->RowAt wx p.r.a p.r.n p.r.xs)(hn:p.r.n<=10)(hs:p.r.s.size<=1000)(ha:Df s p=true):
  ν α 85 #[β (ζ ⟨g,0,γ⟩),.agg #[.int U p.o,.int U p.l,.int U p.k,.int U p.z,.int U p.h,.slice p.r.a p.r.n p.r.c,.string p.r.s]] w fun e w'=>Nm w w' g B M s gs v p e:=by
 have au:=Qr;obtain⟨y,he,E⟩:=UP p w;have H:=h.below E;have HA:=Ab (pP g B M s gs v rs p _ H (hr _ (Tu.of_below E)) ha);have aa:=Ab (H.out y (by decide) (by decide) (by decide));have X:=Ab (H.out he (by decide) (by decide) (by decide));have ai:=Ab (PI ha);have C:=Ab (fun ob=>Vb (M:=M) (ob:=ob) ha);have HH:=Ab h;have HT:=Ab ht;have HR:=Ab hr;clear h hr ha H ht;generalize hW:(w.alloc (ε #[.int U p.o,.int U p.l,.int U p.k,.int U p.z,.int U p.h,.slice p.r.a p.r.n p.r.c,.string p.r.s] 75)).alloc (ε #[.int U 0] 31)=W at*;have q0:=y.at 0 rfl;have q1:=y.at 1 rfl;have q2:=y.at 2 rfl;have q3:=y.at 3 rfl;have q4:=y.at 4 rfl;have q5:=y.at 5 rfl;have q6:=y.at 6 rfl;have HE:=Ab he;have HX:=Ab y;have S:=Ab E;clear y he E;go_enter_defers func85,ntmps85;go_wp2_with fail;refine(Aa HA).mono ?_;rintro e w1 ⟨rfl,D,v1,ag,b,K,ae⟩;have i:=(Aa HE).tu K (Aa X);have R:=(Aa HX).tu K (Aa aa);have u:Tu (CP g gs v) w w1:=Tu.after (Aa S) K;have P:Mv w gs v D v1:=ae.new (Aa S).size;have m:=Aa HR w1 u;obtain⟨-, -, -, -, -, -,c6, -⟩:=b.cells;have ec:=i.at 0 rfl;have ef:=i.frz 0;have x5:=R.at 5 rfl;have x6:=R.at 6 rfl;have J:=Aa ai;have O:η B w w1:=(Aa HH).keeps u;have T:=Ab b;have A:=Ab i;have N:=Ab u;have L:=Ab P;clear q0 q1 q2 q3 q4 q5 q6 HA aa X HE HX R K ae;cases d:(Cs s p).dn
 ·have Y:=Ab (kt g B M (Cs s p) D v1 ag p.r.a p.r.n p.r.c p.r.xs p.r.s w1 (fun wx hb=>Aa HT wx (O.trans hb)) b J.2.2 d m hn hs J.2.1)
  rw[d]at c6;clear b i u P m J O;go_wp2_with fail;refine(Aa Y).mono ?_;rintro e w2 ⟨v2,an,ob,rfl,hT,ab,Q,af⟩;have ac:=(Aa T).out (Aa A) (by decide) (by decide) (by decide);have I:=(Aa A).tu Q ac;have ap:=I.at 0 rfl;have aq:=I.frz 0;have V:=Ab I;have ah:=Ab ab;have am:=Ab hT;have al:=Ab (XT (Aa N) Q (Aa L));have aj:=Ab ((Aa L).trans af (Aa N).size);clear I ab hT Q af ac ec ef c6 x5 x6 Y;generalize ar:Fx M (Cs s p)=KE at*;go_wp2;refine leaves_cons (f:=125) (args:=#[β (ζ ⟨w.heap.size+1,0,γ⟩)]) (by simp) (by simp[go_sem]) ?_;refine(SB ⟨w.heap.size+1,0,γ⟩ _).mono ?_;rintro e u' ao ⟨rfl,rfl,rfl⟩;have hc:=((Aa V).set 0 (.int U KE)).at 0 rfl;show Leaves α Tryz.f85 _ _ [] .returning _;refine⟨.int U KE,by simp[results,Tryz.results85,go_sem,hc],?_⟩;have q:=A8 w2 (w.heap.size+1) 0 (.int U KE);refine⟨D,v2,an,ob,by rw[(Aa C ob).2],fun _=>Aa am,?_,(Aa al).trans q fun j hj e=>absurd e (by omega),Aa aj⟩;rw[(Aa C ob).1];exact(Aa ah).sets (Aa V) q (by decide) (by decide) (by decide) (by decide)
 ·rw[d]at c6
  have ad:=fun ob=>Py (M:=M) (x:=(p.r.xs,p.r.s)) (ob:=ob) d;have Z:=Ab ad;have ak:=Ab (nE (M:=M) (x:=(p.r.xs,p.r.s)) d);clear b i u P m J O ad;go_wp2;refine leaves_cons (f:=125) (args:=#[β (ζ ⟨w.heap.size+1,0,γ⟩)]) (by simp) (by simp[go_sem]) ?_;refine(SB ⟨w.heap.size+1,0,γ⟩ _).mono ?_;rintro e u' ao ⟨rfl,rfl,rfl⟩;have hc:=((Aa A).set 0 (.int U 0)).at 0 rfl;show Leaves α Tryz.f85 _ _ [] .returning _;refine⟨.int U 0,by simp[results,Tryz.results85,go_sem,hc],?_⟩;have q:=A8 w1 (w.heap.size+1) 0 (.int U 0);refine⟨D,v1,ag,⟨#[]⟩,by rw[(Aa C ⟨#[]⟩).2,(Aa Z ⟨#[]⟩).2],(fun _ hq=>by rw[Aa ak]at hq;cases hq),?_,(Aa N).trans q fun j hj e=>absurd e (by omega),Aa L⟩;rw[(Aa C ⟨#[]⟩).1,(Aa Z ⟨#[]⟩).1];exact(Aa T).sets (Aa A) q (by decide) (by decide) (by decide) (by decide)
def oU(g B:Nat)(M:Int)(s:DS)(gs:Nat)(v:κ)(rs:List RV)(p:PKV)(w:ι)(ht:∀wx,η B w wx->Tab wx)(h:Ao w g B M s gs v rs)(d:∀wx,Tu (CP g gs v) w wx->RowAt wx p.r.a p.r.n p.r.xs)(f:p.r.n<=10)(i:p.r.s.size<=1000):
  ν α 85 #[β (ζ ⟨g,0,γ⟩),.agg #[.int U p.o,.int U p.l,.int U p.k,.int U p.z,.int U p.h,.slice p.r.a p.r.n p.r.c,.string p.r.s]] w fun e w'=>Nm w w' g B M s gs v p e:=by
 cases b:Df s p
 ·exact oV g B M s gs v rs p w h (d w (Tu.refl _ _)) b
 ·exact ku g B M s gs v rs p w ht h d f i b
structure Ig(w wr:ι)(b n nx:Nat)(es:List (Nat×Nat))(D:DataW Unit)(left:Lit->Bool)(c f l:Nat):Prop where
 rg:wr.ranges α 112 (plainElem α 3) b w.heap.size n D left c
 bel:η w.heap.size w wr
 low:∀p∈es,left (.int μ (p.1:Int))=false->l<=p.2
 one:(f,l)∈es\/l=nx
def Ig.step{w wr w1:ι}{b n nx c c1 f l:Nat}{o:List (Nat×Nat)}{D:DataW Unit}{left:Lit->Bool}{x v:Int}(h:Ig w wr b n nx o D left c f l)(A:Ep D nx o)
  (C:(Lit.int μ x).wf=true) (i:∀zd,D.atKey (.int μ x) zd=.lit (.int U v))
  (u:w1.ranges α 112 (plainElem α 3) b w.heap.size n D (fun z=>left z&& !z.sameKey (.int μ x)) c1) (K:wr.grownBy w1 (ζ w.heap.size)):
  ∃k s:Nat,x=(k:Int)/\v=(s:Int)/\(s<l->Ig w w1 b n nx o D (fun z=>left z&& !z.sameKey (.int μ x)) c1 k s)/\(¬s<l->Ig w w1 b n nx o D (fun z=>left z&& !z.sameKey (.int μ x)) c1 f l):=by
 have N:=bounds_u32 C;obtain⟨k,rfl⟩:∃k:Nat,x=(k:Int):=⟨x.toNat,by omega⟩;have I:=has_true_of_atKey i;rw[A.has,Vo]at I;obtain⟨⟨y,s⟩,hp,e⟩:=List.mem_map.1 I;obtain rfl:y=k:=e;have E:=A.at' _ hp (.lit (.int U 0));rw[i]at E;have J:v=(s:Int):=by simpa using E
 have r:η w.heap.size w w1:=h.bel.trans (CA K h.bel.size fun j L=>by cases L;exact Nat.le_refl _)
 have d:∀p∈o,(left (.int μ (p.1:Int))&& !(Lit.int μ (p.1:Int)).sameKey (.int μ (y:Int)))=false->left (.int μ (p.1:Int))=false\/p.2=s:=fun p a m=>by
  rw[cK]at m;by_cases e:p.1=y
  ·have H:=A.at' p a (.lit (.int U 0))
   rw[e,i,J]at H;right;have:(s:Int)=(p.2:Int):=by simpa using H
   omega
  ·left;simpa [e]using m
 refine⟨y,s,rfl,J,fun B=>⟨u,r,fun p a m=>?_,.inl hp⟩,fun B=>⟨u,r,fun p a m=>?_,h.one⟩⟩
 ·rcases d p a m with q|q
  ·have:=h.low p a q;omega
  ·omega
 ·rcases d p a m with q|q
  ·exact h.low p a q
  ·omega
def Ig.done{w wr:ι}{b n nx c f l:Nat}{a:List (Nat×Nat)}{D:DataW Unit}{left:Lit->Bool}(h:Ig w wr b n nx a D left c f l)(m:Ep D nx a)(q:∀u,left u=false)(e:a≠ []):f=(a.map Prod.fst).headD 0:=by
 match a,e with
 |(i,s0)::r,_=>
  have j:=h.low (i,s0) List.mem_cons_self (q _);have o:=m.low (i,s0) List.mem_cons_self;have p:=(List.pairwise_cons.1 m.rise).1;show f=i;rcases h.one with k|k
  ·rcases List.mem_cons.1 k with d|d
   ·exact(Prod.mk.inj d).1
   ·have:=p _ d
    simp only at this j;omega
  ·simp only at j o;omega
def eu(g b m N:Nat)(L:List Nat)(w:ι)(h:AW w g b m N L)(I:L≠ []):
  ν α 155 #[β (ζ ⟨g,0,γ⟩)] w fun e w'=>e=.returned (.int μ ((L.headD 0:Nat):Int))/\η w.heap.size w w':=by
 obtain⟨nx,K,D,hn,S,ho,R,Q⟩:=h.it;have h1:=S.at 1 rfl;have h2:=S.at 2 rfl;have O:=Ab (AY.tu (F:=fun _=>False) ho (IF _ w) id);have Z:=Ab R;have C:K≠ []:=fun e=>I (by rw[Q,e];rfl);have HE:=Ab C
 have P:=Ab (show∀w0,w0.ranges α 112 (plainElem α 3) b w.heap.size L.length D (Maps.has D) (Maps.size D)->w.drew.grownBy w0 none->Ig w w0 b L.length nx K D (Maps.has D) (Maps.size D) 0 nx from
  fun w0 V hg=>⟨V,(δ _ _).drew.trans (CA hg (Nat.le_refl _) fun j hj=>by cases hj),fun p hp hf=>by rw[R.has,MS]at hf;exact absurd (List.mem_map.2 ⟨p,hp,rfl⟩) hf,.inr rfl⟩)
 rw[Q]at O P⊢;generalize (K.map Prod.fst).length=n at*;clear S ho R Q C h I;go_enter func155,ntmps155;go_wp2_with fail;go_region_held (fun w'=>w'.cell? ⟨g,2,γ⟩=ζ (.int U (nx:Int))) (go_keep) (fail);go_wp2_with (first|(at_range;refine wpList_range_own _ rfl _ 191 rfl 112 3 Kc underlying191 _ b n D rfl (Aa O) ?_;intro w0 o E W;have z:=Ab (Aa P w0 o E);clear o E W P O));go_frame;go_loopw [3,4] (fun t u wr=> ∃(f l c:Nat) (left:Lit->Bool),t=.int μ (f:Int)/\u=.int U (l:Int)/\Hid (Ig w wr b n nx K D left c f l)) (fun _ _ wr=>wr.rangeLeft b w.heap.size)
 case atStart=>exact⟨0,nx,_,_,rfl,rfl,z⟩
 case round=>
  obtain⟨f,l,c,left,rfl,rfl,r⟩:=hrel;clear z h1 h2;have a:=Ab (Aa r).rg.left_eq;go_wp2_with (first|(at_next;refine wpList_next_ranges_ii _ rfl _ rfl 112 3 μ U Kc underlying112 underlying3 b w.heap.size n D left c rfl (Aa r).rg ?_ ?_))
  ·intro _ hl
   have HD:=Ab ((Aa r).done (Aa Z) hl (Aa HE));have HB:=Ab (Aa r).bel;clear r hl a;go_wp2;go_ret;exact⟨Cu (by rw[Aa HD]),Aa HB⟩
  ·intro x v w1 c1 J Y T B q ab H X aa
   obtain⟨k,s,rfl,rfl,d,y⟩:=(Aa r).step (Aa Z) J B q H;clear J Y T B q H X r;by_cases i:s<l
   ·have A:=Ab (d i)
    have hd:(s:Int)<(l:Int):=by omega
    clear d y i;go_wp2;go_roundw
    case rel=>exact⟨_,_,_,_,_,_,_,_,_,_,_,_,_,_,⟨k,s,c1,_,rfl,rfl,A⟩,rfl⟩
    case measure=>rw[(Aa A).rg.left_eq,Aa a];omega
   ·have A:=Ab (y i)
    have hd:(l:Int)<=(s:Int):=by omega
    clear d y i;go_wp2;go_roundw
    case rel=>exact⟨_,_,_,_,_,_,_,_,_,_,_,_,_,_,⟨f,l,c1,_,rfl,rfl,A⟩,rfl⟩
    case measure=>rw[(Aa A).rg.left_eq,Aa a];omega
end Go.Proofs.YtfpmnekaockodaaGreatDoor
