/- Laws for the proof. -/
import Derived.ScopeJumps
import Derived.Laws.AppendOwn
import Derived.Test.YtfpmnekaockodaaGreatDoorU29
set_option linter.all false
open Go.Proofs.Tryz
open Go.IntKind renaming i64->U
open Go.Value renaming int->α,slice->ζ,pointer->κ,string->ξ
open Go renaming Value->β,World->ε
open Option renaming none->γ,some->δ
open List renaming getD_eq_getElem?_getD->η,length_drop->ι,take_of_length_le->ο,drop_eq_nil_of_le->π,length_set->τ,replicate->υ,getElem?_set->χ,getElem?_map->ψ
open Option.some renaming inj->θ,injEq->φ
open Go.Proofs.Tryz renaming prog->ν
open Nat renaming le_refl->ρ,le_trans->ς,le_of_not_lt->σ
namespace Go.Proofs.YtfpmnekaockodaaGreatDoor
open Go.RowKit Go.Sort
set_option maxRecDepth 4000
set_option maxHeartbeats 8000000
variable {o l z:Int}{ss:List ByteArray}{g s k B:Nat}{v0 v1 v2 v3:β}{w w':ε}
def oN(xs a:List Nat):st xs++st a=st (xs++a):=by
 apply ByteArray.ext;unfold st;rw[ByteArray.data_append];simp
def YO(s:ByteArray)(z:Nat):s++st (υ (z-s.size) 0)=st (H9 z (tx s)):=by
 conv=>lhs;rw[<-IH s]
 rw[oN,IH,H9,AR]
def ge(s:ByteArray)(Z:Nat)(w:ε)(u:s.size<=Z)(q:Z<=64):
  Calls ν 165 #[ξ s,.int U (Z:Int)] w fun e w'=>e=.returned (ξ (st (H9 Z (tx s))))/\Below w.heap.size w w':=by
 have h:=Ab (YO s Z);have i:=Ab (show(st (υ (Z-s.size) 0)).size=Z-s.size by rw[Dq,List.length_replicate]);have b:(Z:Int)-(s.size:Int)=((Z-s.size:Nat):Int):=by omega
 have j:=Ab (fun wx=>el (Z-s.size) wx (by omega));have r:Z-s.size<=64:=by omega
 generalize Z-s.size=d at*;generalize st (υ d 0)=t at*;have p:t.size<=64:=by have:=Aa i;omega
 have c:(9223372036854775807<s.size+t.size)=False:=by simp;omega
 have f:=Ab (fun wx=>GR (s++t) wx (by rw[ByteArray.size_append];omega));go_enter func165,ntmps165;go_wp2_with (first|(go_at_call 189;refine(Aa j _).mono ?_;rintro e w1 ⟨rfl,m⟩)|(go_at_call 33;refine(Aa f _).mono ?_;rintro e w2 ⟨rfl,a⟩));go_ret;exact⟨Zt (Aa h),Ad m a⟩
def eI{P:Program}{a:Act}{Q:Exit->Act->ε->Prop}{c X:Code}(l:Nat)(J:Act->ε->Prop)(μ:Act->ε->Nat)(f:findLabel c l=δ (Code.skip.seq X))
  (b:∀a w,J a w->X.wp P (Exit.jump l (fun d w'=>J d w'/\μ d w'<μ a w) Q) a w)
  (first:(∀a w,J a w->X.wp P (Exit.jump l J Q) a w)->c.wp P (Exit.jump l J Q) a w):(Code.scope c).wp P Q a w:=
 wp_scope_jumps l J μ f (first fun a w h=>wp_mono (b a w h) fun e a w h=>by
  cases e with
  |goto i=>exact⟨h.1,h.2.1⟩
  |_=>exact h) fun a w h=>wp_seq (wp_skip (b a w h))
def dM:β->Nat| ξ s=>s.size|_=>0
def ox(xs:List Nat)(Z i n:Nat)(h:n=min Z (xs.drop (i*Z)).length):
  ((xs.drop (i*Z)).drop 0).take (n-0)=(xs.drop (i*Z)).take Z/\((xs.drop (i*Z)).drop n).take ((xs.drop (i*Z)).length-n)=xs.drop ((i+1)*Z):=by
 have b:=ι (i:=i*Z) (l:=xs);constructor
 ·rw[List.drop_zero,Nat.sub_zero]
  by_cases a:Z<=(xs.drop (i*Z)).length
  ·rw[show n=Z by omega]
  ·rw[ο (by omega),ο (by omega)]
 ·rw[ο (by rw[ι];omega),List.drop_drop,Nat.add_mul,Nat.one_mul]
  by_cases a:Z<=(xs.drop (i*Z)).length
  ·rw[show n=Z by omega]
  ·rw[π (by omega),π (by omega)]
def F7 (s : ByteArray) (Z k : Nat) (w : ε) (I : Act) (w' : ε) : Prop := ∃ (i : Nat) (t : ByteArray) (b : Option Addr) (c : Nat) (u8 u9 a d e f h j m p q r u v x y A C D E H : β),
      I = { tmps := #[ξ t, .int U (Z : Int), .int U (k : Int), undef, undef, undef, ζ none 0 0, ζ b i c, u8, u9, a, d, e, f, h, j, m, p, q, r, u, v, x, y, A, C, D, E, H], defers := [] }
      /\ i < k /\ Hid (tx t = (tx s).drop (i * Z)) /\ Hid (Ar w' w.heap.size (ζ b i c) (Bo (tx s) Z i)) /\ Hid (Below w.heap.size w w')
def F7.mk(s:ByteArray)(Z k:Nat)(w:ε){w':ε}(i:Nat){t:ByteArray}{b:Option Addr}{c:Nat}{u8 u9 a d e f h j m p q r u v x y A C D E H:β}(L:i<k)(K:Hid (tx t=(tx s).drop (i*Z)))
  (J:Hid (Ar w' w.heap.size (ζ b i c) (Bo (tx s) Z i))) (I:Hid (Below w.heap.size w w')):
  F7 s Z k w {tmps:=#[ξ t,.int U (Z:Int),.int U (k:Int),undef,undef,undef,ζ none 0 0,ζ b i c,u8,u9,a,d,e,f,h,j,m,p,q,r,u,v,x,y,A,C,D,E,H],defers:=[]} w':=
 ⟨i,t,b,c,u8,u9,a,d,e,f,h,j,m,p,q,r,u,v,x,y,A,C,D,E,H,rfl,L,K,J,I⟩
def jJ(x:ByteArray):x.toList.isEmpty=(tx x).isEmpty:=by
 rw[ByteArray.toList_eq];unfold tx;simp
def rj(s:ByteArray)(Z k:Nat)(w:ε)(ac:1<=Z)(ad:Z<=64)(hk:kc s.size Z=k)(ak:k<=128):
  Calls ν 138 #[ξ s,.int U (Z:Int),.int U (k:Int)] w fun e w'=> ∃v,e=.returned v/\Ar w' w.heap.size v (Bo (tx s) Z k)/\Below w.heap.size w w':=by
 obtain⟨i0,W,ab,af,ae⟩:=info_parts Mb;obtain⟨wm,am,u,V⟩:=run_make_own (P:=ν) w w.heap.size 66 9 i0 (ξ ByteArray.empty) 1 underlying66 W ab af U U k (by rw[ae];omega) (by unfold maxLen;omega) (ρ _);have ai:Hid (Ar wm w.heap.size (.slice (δ ⟨w.heap.size,0,γ⟩) 0 k) (Bo (tx s) Z 0)):=Ab u;have ag:=Ab ((Below.refl w.heap.size w).grown V (ρ _) (fun _ h=>by cases h));have N:=Ab (J0 s.size Z);have x:=Ab (Ky s.size Z ac);have O:=Ab (fun j J r=>Px s.size Z j ac J r);rw[hk]at N x O;have R:=Ab (AR s);have ap:=Ab (Cg s);have Y:=IH s;have au:s.size<=8192:=by
  have J:=Aa x;have r:k*Z<=128*64:=Nat.mul_le_mul ak ad;omega
 have HS:=Ab Y;clear u V W ab af ae hk Y;go_enter func138,ntmps138;go_wp2;refine eI 0 (F7 s Z k w) (fun a' _=>dM (a'.tmps.getD 0 undef)) rfl ?_ ?_
 ·rintro a' w' ⟨i,t,b,c,u8,u9,aw,ax,ay,az,a0,a1,a2,a3,a4,a5,a6,a7,a8,a9,ba,bb,bc,bd,bf,rfl,hi,I,HO,HB⟩
  have av:t.size<=8192:=by
   rw[<-AR,Aa I,ι,Aa R];omega
  have E:t.size=((tx s).drop (i*Z)).length:=by rw[<-AR,Aa I]
  have ao:=Ab E;have M:=Jc Z t.size;obtain⟨n,hn⟩:∃n,n=min Z t.size:=⟨_,rfl⟩;rw[<-hn]at M;have al:n<=Z:=by omega
  have aq:n<=t.size:=by omega
  have HN:=Ab hn;obtain⟨q,A⟩:=ox (tx s) Z i n (by rw[<-E];exact hn);rw[<-Aa I,<-Eu]at q;rw[<-Aa I,AR,<-Eu]at A;have an:=Ab q;have d:=Ab A;have aa:(t.extract 0 n).size=n:=by rw[ByteArray.size_extract];omega
  have H:=Ab (fun wx=>ge (t.extract 0 n) Z wx (by rw[aa];exact al) ad);rw[q]at H;rw[Aa I]at H;change Hid (∀wx,Calls ν _ _ wx fun e w'=>e=.returned (ξ (st (blk (tx s) Z i)))/\_)at H;have HQ:=Ab (NF (tx s) Z i);have aj:=Ab (IX (tx s) Z i);clear hn E q A aa;have ar:=(Aa HB).size;go_wp2_with (first|(go_at_call 165;refine(Aa H _).mono ?_;rintro e w1 ⟨rfl,f⟩)|(at_builtin;refine RM rfl _ _ rfl w.heap.size (ζ b i c) _ _ rfl rfl ((Aa HO).below f) (by have:=f.size;omega) (by rw[Aa aj];omega) ?_));intro v2 w2 a y;rw[<-Aa HQ]at a;obtain⟨b2,c2,rfl, -⟩:=a.texts;rw[IX]at a⊢;have Q:=Ab a;have L:=Ab ((Ad (Aa HB) f).trans y);have S:=jJ (t.extract n t.size);have m:=Ab (Aa d);by_cases hl:(i+1)*Z<s.size
  ·have C:i+1<k:=by
    rcases Nat.lt_or_ge (i+1) k with h|h
    ·exact h
    ·have J:=Nat.mul_le_mul_right Z h
     have r:=Aa x;omega
   have p:((tx s).drop ((i+1)*Z)).isEmpty=false:=by
    rw[List.isEmpty_eq_false_iff];intro h;have r:=congrArg List.length h;rw[ι,Aa R]at r;simp at r;omega
   have X:(t.extract n t.size).size<t.size:=by
    have J:=AR (t.extract n t.size);rw[Aa d,ι,Aa R]at J;have r:=AR t;rw[Aa I,ι,Aa R]at r;rw[Nat.add_mul]at J hl;omega
   rw[Aa d,p]at S;have ah:=Ab X;clear a f y HO HB H p X hl m;go_wp2;go_step3;exact⟨rfl,F7.mk s Z k w (i+1) C d Q L,Aa ah⟩
  ·have C:i+1=k:=by
    have:=Aa O (i+1) (by omega) (by omega);omega
   have p:((tx s).drop ((i+1)*Z)).isEmpty=true:=by
    rw[List.isEmpty_iff];apply π;rw[Aa R];omega
   rw[Aa d,p]at S;subst C;clear a f y HO HB H p hl m;go_wp2;simp only[Exit.jump];go_ret;exact⟨_,rfl,Aa Q,Aa L⟩
 ·intro D
  go_wp2;go_step3;rename_i K hK;exact hK _ _ (D _ _ (F7.mk s Z k w 0 (Aa N) (Ab (by simp)) ai ag))
def oL(s:ByteArray)(Z:Nat)(w:ε)(b:1<=Z)(c:Z<=64)(a:kc s.size Z<=128):
  Calls ν 99 #[ξ s,.int U (Z:Int)] w fun e w'=> ∃v,e=.returned (.tuple #[v,.int U 0])/\Ar w' w.heap.size v (Bo (tx s) Z (kc s.size Z))/\Below w.heap.size w w':=by
 have q:s.size<=8192:=by
  have m:=Ky s.size Z b;have p:kc s.size Z*Z<=128*64:=Nat.mul_le_mul a c;omega
 have hp:=Ww (s.size:Int) (Z:Int) w (by omega);rw[(MZ b c a).1,(MZ b c a).2]at hp;have f:=Ab hp;have d:=Ab (rj s Z (kc s.size Z) w b c rfl a);clear hp;generalize kc s.size Z=k at*;go_enter func99,ntmps99;go_wp2_with (first|(go_at_call 25;refine(Aa f).mono ?_;rintro e w1 ⟨rfl,j⟩;obtain rfl:=j.symm)|(go_at_call 138;refine(Aa d).mono ?_;rintro e w2 ⟨v,rfl,i,h⟩));go_ret2;exact⟨_,rfl,i,h⟩
def Bj(w:ε)(g:Nat)(o l z:Int)(s:Nat)(ss:List ByteArray):Prop:=
 ∃a c,(w.cell? ⟨g,0,γ⟩=δ (.int U o)/\w.cell? ⟨g,1,γ⟩=δ (.int U l)/\w.cell? ⟨g,2,γ⟩=δ (.int U z)/\w.cell? ⟨g,3,γ⟩=δ (ζ a ss.length c)/\w.cell? ⟨g,4,γ⟩=δ (.int U (s:Int)))/\AG w a ss.length ss
def Bj.below(h:Bj w g o l z s ss)(d:Below w.heap.size w w'):Bj w' g o l z s ss:=by
 obtain⟨a,c,⟨b,f,i,j,m⟩,ht⟩:=h;have e:∀o,w'.cell? ⟨g,o,γ⟩=w.cell? ⟨g,o,γ⟩:=fun o=>d.cell (show g<w.heap.size from World.block_lt_of_cell? w ⟨g,0,γ⟩ b);exact⟨a,c,⟨(e _).trans b,(e _).trans f,(e _).trans i,(e _).trans j,(e _).trans m⟩,ht.below d⟩
def Bj.kept{T:TypeId}{v:Option Addr}{H x:Nat}{i:Int}(h:Bj w g o l z s ss)(p:w.grownBy w' (δ k))(m:A5 T w k (ζ v H x) (.int U i)):Bj w' g o l z s ss:=by
 obtain⟨a,c,⟨d,y,A,C,D⟩,E,ht⟩:=h;have f:g≠k:=by
  rintro rfl;rw[m.at0]at d;simp at d
 refine⟨a,c,⟨p.cell d (fun e=>f (θ e)),p.cell y (fun e=>f (θ e)),p.cell A (fun e=>f (θ e)),p.cell C (fun e=>f (θ e)),p.cell D (fun e=>f (θ e))⟩,E,?_⟩;rcases ht with d|⟨b,off,rfl,r⟩
 ·exact .inl d
 ·refine .inr ⟨b,off,rfl,fun j u=>p.cell (r j u) (fun e=>?_)⟩
  have e:b=k:=θ e;subst e;have d:=r j u;unfold A5 at m;rw[cell_of_row w b _ _ _ _ m]at d
  match off+j,d with
  |0,d=>simp at d
  |1,d=>simp at d
  |q+2,d=>simp at d
def BY(w:ε)(g:Nat)(v0 v1 v2 v3:β):Prop:=w.heap[g]? =δ (.cells #[v0,v1,v2,v3] 143 (0,0))
def Zg(w:ε)(v0 v1 v2 v3:β):BY (w.alloc (.cells #[v0,v1,v2,v3] 143)) w.heap.size v0 v1 v2 v3:=by
 show(w.heap.push _)[w.heap.size]? =_;simp
def BY.lt(h:BY w g v0 v1 v2 v3):g<w.heap.size:=(Array.getElem?_eq_some_iff.1 h).1
def BY.below(h:BY w g v0 v1 v2 v3)(a:Below w.heap.size w w'):BY w' g v0 v1 v2 v3:=(a.block g h.lt).trans h
def BY.cells(h:BY w g v0 v1 v2 v3):w.cell? ⟨g,0,γ⟩=δ v0/\w.cell? ⟨g,1,γ⟩=δ v1/\w.cell? ⟨g,2,γ⟩=δ v2/\w.cell? ⟨g,3,γ⟩=δ v3:=by
 unfold BY at h;refine⟨?_,?_,?_,?_⟩<;>rw[cell_of_row w g _ _ _ _ h]<;>rfl
def BY.frz(h:BY w g v0 v1 v2 v3)(i:Nat):w.frozen? ⟨g,i,γ⟩=false:=by
 unfold BY at h;simp[World.frozen?,h]
def set4(w:ε)(g:Nat)(u0 u1 u2 u3:β):ε:=(((w.setCell ⟨g,0,γ⟩ u0).setCell ⟨g,1,γ⟩ u1).setCell ⟨g,2,γ⟩ u2).setCell ⟨g,3,γ⟩ u3
def BY.set0(h:BY w g v0 v1 v2 v3)(u:β):BY (w.setCell ⟨g,0,γ⟩ u) g u v1 v2 v3:=heap_setCell_same w g 0 _ _ u h
def BY.set1(h:BY w g v0 v1 v2 v3)(u:β):BY (w.setCell ⟨g,1,γ⟩ u) g v0 u v2 v3:=heap_setCell_same w g 1 _ _ u h
def BY.set2(h:BY w g v0 v1 v2 v3)(u:β):BY (w.setCell ⟨g,2,γ⟩ u) g v0 v1 u v3:=heap_setCell_same w g 2 _ _ u h
def BY.set3(h:BY w g v0 v1 v2 v3)(u:β):BY (w.setCell ⟨g,3,γ⟩ u) g v0 v1 v2 u:=heap_setCell_same w g 3 _ _ u h
def BY.sets(h:BY w g v0 v1 v2 v3)(u0 u1 u2 u3:β):BY (set4 w g u0 u1 u2 u3) g u0 u1 u2 u3:=(((h.set0 u0).set1 u1).set2 u2).set3 u3
def aT{a:ε}(h:Below B a w){g:Nat}(b:B<=g)(u0 u1 u2 u3:β):Below B a (set4 w g u0 u1 u2 u3):=
 (((h.setCell b u0).setCell b u1).setCell b u2).setCell b u3
def sR(w:ε)(g:Nat)(u0 u1 u2 u3:β):w.grownBy (set4 w g u0 u1 u2 u3) (δ g):=
 Bx (Bx (Bx (Bz _ _ _ _) (Bz _ _ _ _) (.inl rfl)) (Bz _ _ _ _) (.inl rfl)) (Bz _ _ _ _) (.inl rfl)
def Ar.kept{v:β}(h:Ar w B v ss)(i:w.grownBy w' (δ k))(j:k<B):Ar w' B v ss:=by
 refine⟨h.1,?_⟩;rcases h.2 with c|⟨g,cap,b,d,f,a,r⟩
 ·exact .inl c
 ·exact .inr ⟨g,cap,b,d,f,(i.block g (Array.getElem?_eq_some_iff.1 a).1 (fun e=>by have:=θ e;omega)).trans a,r⟩
def fN{tmps:Array β}{W:ε}{x:Int}{u0 u1 u2 u3:β}(c:tmps.getD 6 undef=.pointer (δ ⟨g,0,γ⟩))(d:tmps.getD 7 undef=.int U x)(e:BY W g u0 u1 u2 u3):
  (results Tryz.f69 tmps).run ν W=.ok (.tuple #[.agg #[u0,u1,u2,u3],.int U x]) W:=by
 obtain⟨f,h,i,j⟩:=e.cells;have a:tmps[6]?.getD undef=.pointer (δ ⟨g,0,γ⟩):=by simpa using c
 have b:tmps[7]?.getD undef=.int U x:=by simpa using d
 simp[results,Tryz.results69,go_sem,a,b,f,h,i,j]
def oc(o:Int)(s:ByteArray)(Z:Nat)(w:ε)(j:1<=Z)(m:Z<=64)(i:kc s.size Z<=128):
  Calls ν 69 #[.int U o,ξ s,.int U (Z:Int)] w fun e w'=> ∃a c,e=.returned (.tuple #[.agg #[.int U o,.int U (s.size:Int),.int U (Z:Int),ζ a (kc s.size Z) c],.int U 0])/\Ar w' w.heap.size (ζ a (kc s.size Z) c) (Bo (tx s) Z (kc s.size Z))/\Below w.heap.size w w':=by
 have d:=IX (tx s) Z (kc s.size Z);have u:=Ab (Zg w (.int U 0) (.int U 0) (.int U 0) (ζ none 0 0));have r:=Ab (oL s Z (w.alloc (.cells #[.int U 0,.int U 0,.int U 0,ζ none 0 0] 143)) j m i);have p:=Ab ((Below.refl _ w).alloc (ρ _) (.cells #[.int U 0,.int U 0,.int U 0,ζ none 0 0] 143));generalize kc s.size Z=k at*;generalize Bo (tx s) Z k=ss at*;go_enter func69,ntmps69;go_wp2_with fail;refine(Aa r).mono ?_;rintro e w1 ⟨v,rfl,f,h⟩;obtain⟨a,c,rfl,ht⟩:=f.texts;rw[d]at f ht⊢;have b:=(Aa u).below h;have B1:=Ab (Ad (Aa p) h);have q:=Ab f;have x:=Ab b;obtain⟨y,A,C,D⟩:=b.cells;have f0:=b.frz 0;have f1:=b.frz 1;have f2:=b.frz 2;have f3:=b.frz 3;clear ht f h d b;go_wp2
 exact bodyPost_ret (fN rfl rfl ((Aa x).sets (.int U o) (.int U (s.size:Int)) (.int U (Z:Int)) (ζ a k c))) rfl
  ⟨a,c,rfl,((Aa q).kept (sR w1 w.heap.size _ _ _ _) (by rw[A7];omega)).mono (by rw[A7];omega),aT (Aa B1) (ρ _) _ _ _ _⟩
structure BP(w:ε)(g B:Nat)(v:β)(o l z:Int)(s:Nat)(ss:List ByteArray):Prop where
 blk:BkA 147 w g [.int U o,.int U l,.int U z,v,.int U (s:Int)]
 lo:B<=g
 own:Ar w B v ss
def BP.src{v:β}(h:BP w g B v o l z s ss):Bj w g o l z s ss:=by
 obtain⟨a,c,rfl,ht⟩:=h.own.texts;exact⟨a,c,⟨h.blk.at 0 rfl,h.blk.at 1 rfl,h.blk.at 2 rfl,h.blk.at 3 rfl,h.blk.at 4 rfl⟩,ht⟩
def Y1{c:Nat}{a:Option Addr}(b:B<=w.heap.size)(h:Ar w B (ζ a k c) ss)(o l z:Int)(s:Nat)(ob:Obj):
  BP ((w.alloc ob).alloc (.cells #[.int U o,.int U l,.int U z,ζ a k c,.int U (s:Int)] 147)) (w.heap.size+1) B (ζ a k c) o l z s ss:=by
 rw[<-A7 w ob];exact⟨AI 147 (w.alloc ob) _,by rw[A7];omega,(h.below ((Below.refl _ _).alloc (ρ _) _)).below ((Below.refl _ _).alloc (ρ _) _)⟩
def ZQ(O:Nat)(s:ByteArray)(Z Q:Nat)(w:ε)(u:O<=4294967295)(f:1<=Z)(h:Z<=64)(d:kc s.size Z<=128):
  Calls ν 39 #[.int U (O:Int),ξ s,.int U (Z:Int),.int U (Q:Int)] w fun e w'=> ∃g v,e=.returned (.tuple #[.pointer (δ ⟨g,0,γ⟩),.int U 0])/\BP w' g w.heap.size v (O:Int) (s.size:Int) (Z:Int) (min Q (kc s.size Z)) (Bo (tx s) Z (kc s.size Z))/\Below w.heap.size w w':=by
 have q:=Ab (oc (O:Int) s Z w f h d);generalize kc s.size Z=k at*;have m:=Jc Q k;generalize Bo (tx s) Z k=ss at*;generalize min Q k=M at*;go_enter func39,ntmps39;go_wp2_with (go_at_call 69;refine(Aa q).mono ?_;rintro e w1 ⟨a,c,rfl,ht,j⟩;have p:=Ab j;have r:=Ab ht;clear j ht);go_ret2;have b:=Aa p;have i:=b.alloc b.size (.cells #[.int U (O:Int),.int U (s.size:Int),.int U (Z:Int),ζ a k c] 143);exact⟨_,_,rfl,Y1 b.size (Aa r) _ _ _ _ _,i.alloc i.size _⟩
def aC(g:Nat)(o l z:Int)(s:Nat)(ss:List ByteArray)(w:ε)(h:Bj w g o l z s ss):
  Calls ν 192 #[.pointer (δ ⟨g,0,γ⟩)] w fun e w'=>e=.returned (.int U (ss.length:Int))/\w'=w:=by
 obtain⟨a,c,⟨b,d,f,j,i⟩,ht⟩:=h;clear ht b d f i;generalize ss.length=n at*;go_enter func192,ntmps192;go_wp2;go_ret;exact⟨rfl,rfl⟩
variable {o:Int}{cs:List β}{B sz n B':Nat}{T:TypeId}{w w':ε}
def kdB(w:ε)(j:Nat):Nat:=match w.heap[j]? with
 |δ (.cells _ T _)=>T+2
 |δ (.chan _ _ _ _ _ _)=>1
 |_=>0
def Ef{j:Nat}{a:Array β}{b:Nat×Nat}(h:w.heap[j]? =δ (.cells a T b)):kdB w j=T+2:=by unfold kdB;rw[h]
def BkA.kd{g:Nat}(h:BkA T w g cs):kdB w g=T+2:=Ef h
def Bc{v:β}(h:w.ownsRow B T sz v n cs){j:Nat}(a:v.ownBlock=δ j):kdB w j=T+2:=by
 rcases h.2 with⟨rfl,_⟩|⟨g,cap,b,rfl,_,c,_⟩
 ·cases a
 ·simp only[Value.ownBlock,φ]at a
  exact Ef (a▸c)
def C9{v:β}(h:w.ownsRow B T sz v n cs){j:Nat}(a:v.ownBlock=δ j):B<=j/\j<w.heap.size:=by
 rcases h.2 with⟨rfl,_⟩|⟨g,cap,b,rfl,c,d,_⟩
 ·cases a
 ·simp only[Value.ownBlock,φ]at a
  exact⟨a▸c,a▸(Array.getElem?_eq_some_iff.1 d).1⟩
def Cj{F:Nat->Prop}{v:β}(h:w.ownsRow B T sz v n cs)(ht:Tu F w w')(e:∀j,v.ownBlock=δ j->¬F j):w'.ownsRow B T sz v n cs:=by
 refine⟨h.1,?_⟩;rcases h.2 with d|⟨g,cap,b,c,f,a,r⟩
 ·exact .inl d
 ·exact .inr ⟨g,cap,b,c,f,(ht.block g (Array.getElem?_eq_some_iff.1 a).1 (e g (by rw[c];rfl))).trans a,r⟩
def Au.kd{g gb gq c lo:Nat}{M q a:Int}{L:List ByteArray}(h:Au w g gb gq c M q a L lo):∀j,lkF g gb gq c j->kdB w j=199+2\/kdB w j=239+2\/kdB w j=234+2\/kdB w j=1:=fun j d=>by
 rcases d with rfl|rfl|rfl|rfl
 ·exact .inl h.blk.kd
 ·exact .inr (.inl h.bt.blk.kd)
 ·exact .inr (.inr (.inl h.qu.blk.kd))
 ·obtain⟨s,r,b⟩:=h.qu.chn
  exact .inr (.inr (.inr (by unfold kdB;rw[b])))
def AW.kd{g b m N:Nat}{L:List Nat}(h:AW w g b m N L):∀j,F2 g b j->kdB w j=193+2\/kdB w j=0:=fun j e=>by
 obtain⟨nx,c,D,_,d,i,_⟩:=h.it;rcases e with rfl|rfl
 ·exact .inl d.kd
 ·obtain⟨c,a,f,_⟩:=i
  exact .inr (by unfold kdB;rw[f])
def AA.kd{g gb m:Nat}{t i:Int}{v:β}{ps:List PKV}(h:AA w g gb B m t i v ps):∀j,GA g gb v j->kdB w j=169+2\/kdB w j=237+2\/kdB w j=75+2:=fun j a=>by
 rcases a with rfl|rfl|a
 ·exact .inl h.blk.kd
 ·exact .inr (.inl h.buf.blk.kd)
 ·exact .inr (.inr (Bc h.buf.own a))
def Ao.kd{g:Nat}{M:Int}{s:DS}{gs:Nat}{v:β}{rs:List RV}(h:Ao w g B M s gs v rs):∀j,CP g gs v j->kdB w j=174+2\/kdB w j=225+2\/kdB w j=73+2:=fun j a=>by
 rcases a with rfl|a
 ·exact .inl h.blk.kd
 ·cases b:s.bg
  ·obtain⟨_,rfl,rfl⟩:=h.fresh b
   rcases a with rfl|a
   ·exact .inl h.blk.kd
   ·cases a
  ·rcases a with rfl|a
   ·exact .inr (.inl (Ef (h.begun b).1.blk))
   ·exact .inr (.inr (Bc (h.begun b).1.own a))
def Ao.tu{F:Nat->Prop}{g:Nat}{M:Int}{s:DS}{gs:Nat}{v:β}{rs:List RV}(h:Ao w g B M s gs v rs)(ht:Tu F w w')(b:∀j,CP g gs v j->¬F j)(d:∀j a,w.heap[j]? =δ (.cells a 265 (0,0))->¬F j):Ao w' g B M s gs v rs:=
 ⟨h.blk.tu ht (b g (.inl rfl)),h.lo,fun e=>⟨(h.begun e).1.tu ht (fun j c=>b j (.inr c)) d,(h.begun e).2⟩,h.fresh,h.co⟩
def Qz(g:Nat)(v:β)(j:Nat):Prop:=j=g\/v.ownBlock=δ j
def BP.kd{g:Nat}{v:β}{l z:Int}{s:Nat}{ss:List ByteArray}(h:BP w g B v o l z s ss):∀j,Qz g v j->kdB w j=147+2\/kdB w j=9+2:=fun j a=>by
 rcases a with rfl|a
 ·exact .inl h.blk.kd
 ·exact .inr (Bc h.own a)
def BP.tu{F:Nat->Prop}{g:Nat}{v:β}{l z:Int}{s:Nat}{ss:List ByteArray}(h:BP w g B v o l z s ss)(ht:Tu F w w')(a:∀j,Qz g v j->¬F j):BP w' g B v o l z s ss:=
 ⟨h.blk.tu ht (a g (.inl rfl)),h.lo,Cj h.own ht fun j b=>a j (.inr b)⟩
structure AH where
 g:Nat
 gb:Nat
 gq:Nat
 c:Nat
 lv:Int
 L:List ByteArray
 lo:Nat
def AH.F(l:AH)(j:Nat):Prop:=lkF l.g l.gb l.gq l.c j
def AH.At(w:ε)(M q:Int)(l:AH):Prop:=Au w l.g l.gb l.gq l.c M q l.lv l.L l.lo
def AH.dflt:AH:=⟨0,0,0,0,0,[],0⟩
def EY(ls:List AH):List β:=ls.map fun l=>.pointer (δ ⟨l.g,0,γ⟩)
def iB(ls:List AH)(i:Nat)(h:i<ls.length):(EY ls)[i]? =δ (.pointer (δ ⟨(ls.getD i .dflt).g,0,γ⟩)):=by
 simp[EY,List.getElem?_eq_getElem h,η]
def Bh(w:ε)(B:Nat)(v:β)(ls:List AH):Prop:=w.ownsRow B 150 1 v ls.length (EY ls)
def Bh.nil(w:ε)(B:Nat):Bh w B (ζ none 0 0) []:=World.ownsRow_nil _ _ _ _
def Bh.at{v:β}{ls:List AH}(h:Bh w B v ls)(d:0<ls.length):∃g cap,v=.slice (δ ⟨g,0,γ⟩) ls.length cap/\∀i,i<ls.length->w.cell? ⟨g,i,γ⟩=δ (.pointer (δ ⟨(ls.getD i .dflt).g,0,γ⟩)):=by
 have a:w.ownsRow B 150 1 v ls.length (EY ls):=h;rcases h.2 with⟨rfl,f⟩|⟨g,cap,b,rfl,j,m,d,p,e,ht⟩
 ·omega
 ·refine⟨g,cap,rfl,fun i c=>?_⟩
  rw[a.cellAt i (by omega),iB ls i c]
def Bh.len{v:β}{ls:List AH}(h:Bh w B v ls):∃a c,v=ζ a ls.length c:=by
 rcases h.2 with⟨rfl,d⟩|⟨g,cap,b,rfl,_⟩
 ·exact⟨γ,0,by rw[d]⟩
 ·exact⟨_,_,rfl⟩
structure Gc where
 g:Nat
 gb:Nat
 i:Int
 v:β
 ps:List PKV
structure Fb where
 g:Nat
 s:DS
 gs:Nat
 v:β
 rs:List RV
structure Bi where
 kd:Int
 buffer:Int
 queue:Int
 cache:Int
 timeout:Int
 target:Int
 rate:Nat
 tv:β
 tos:List Int
structure AU where
 lv:β
 ls:List AH
 gm:Nat
 Z:List Int
 gc:Nat
 gcm:Nat
 N:Nat
 P:List Nat
 rl:Option Gc
 dc:Option Fb
def ptrR(o:Option Gc):Option Addr:=o.map fun r=>⟨r.g,0,γ⟩
def ptrC(o:Option Fb):Option Addr:=o.map fun r=>⟨r.g,0,γ⟩
def E8(s:AU):List β:=[s.lv,.pointer (δ ⟨s.gm,0,γ⟩),.pointer (δ ⟨s.gc,0,γ⟩),.pointer (ptrR s.rl),.pointer (ptrC s.dc)]
def Bi.M(p:Bi):Int:=((milZ p.rate:Nat):Int)
structure Ag(w:ε)(B:Nat)(p:Bi)(s:AU):Prop where
 lks:Bh w B s.lv s.ls
 each:∀i,i<s.ls.length->(s.ls.getD i .dflt).At w p.M p.queue/\∀j,(s.ls.getD i .dflt).F j->B<=j
 apart:∀i k,i<s.ls.length->k<s.ls.length->i≠k->∀j,(s.ls.getD i .dflt).F j->¬(s.ls.getD k .dflt).F j
 mem:A2 w s.gm (CF p.timeout) s.Z
 memlo:B<=s.gm
 ca:AW w s.gc s.gcm (capN p.cache) s.N s.P
 calo:∀j,F2 s.gc s.gcm j->B<=j
 rl:∀r,s.rl=δ r->AA w r.g r.gb B (capN p.buffer) (Gr p.target) r.i r.v r.ps
 dc:∀d,s.dc=δ d->Ao w d.g B p.buffer d.s d.gs d.v d.rs
def sttF(s:AU)(j:Nat):Prop:=s.lv.ownBlock=δ j\/(∃i,i<s.ls.length/\(s.ls.getD i .dflt).F j)\/j=s.gm\/F2 s.gc s.gcm j\/(∃r,s.rl=δ r/\GA r.g r.gb r.v j)\/∃d,s.dc=δ d/\CP d.g d.gs d.v j
def Ag.kd{p:Bi}{s:AU}(h:Ag w B p s):∀j,sttF s j->(kdB w j=150+2\/(kdB w j=199+2\/kdB w j=239+2\/kdB w j=234+2\/kdB w j=1)\/kdB w j=190+2\/(kdB w j=193+2\/kdB w j=0)\/(kdB w j=169+2\/kdB w j=237+2\/kdB w j=75+2)\/(kdB w j=174+2\/kdB w j=225+2\/kdB w j=73+2)):=fun j a=>by
 rcases a with a|⟨l,c,a⟩|rfl|a|⟨r,e,a⟩|⟨d,b,a⟩
 ·exact .inl (Bc h.lks a)
 ·exact .inr (.inl ((h.each l c).1.kd j a))
 ·exact .inr (.inr (.inl h.mem.blk.kd))
 ·exact .inr (.inr (.inr (.inl (h.ca.kd j a))))
 ·exact .inr (.inr (.inr (.inr (.inl ((h.rl r e).kd j a)))))
 ·exact .inr (.inr (.inr (.inr (.inr ((h.dc d b).kd j a)))))
def Ag.low{p:Bi}{s:AU}(h:Ag w B p s):∀j,sttF s j->B<=j:=fun j a=>by
 rcases a with a|⟨l,c,a⟩|rfl|a|⟨r,f,a⟩|⟨d,b,a⟩
 ·exact(C9 h.lks a).1
 ·exact(h.each l c).2 j a
 ·exact h.memlo
 ·exact h.calo j a
 ·exact σ fun e=>(h.rl r f).low j e a
 ·exact σ fun e=>(h.dc d b).low j e a
def AH.At.tu{F:Nat->Prop}{M q:Int}{l:AH}(h:l.At w M q)(ht:Tu F w w')(a:∀j,l.F j->¬F j):l.At w' M q:=
 Au.tu h ht (a _ (.inl rfl)) (a _ (.inr (.inl rfl))) (a _ (.inr (.inr (.inl rfl)))) (a _ (.inr (.inr (.inr rfl))))
def Ag.tu{F:Nat->Prop}{p:Bi}{s:AU}(h:Ag w B p s)(ht:Tu F w w')(b:∀j,sttF s j->¬F j)(u:∀j,kdB w j=265+2->¬F j):Ag w' B p s:=
 ⟨Cj h.lks ht fun j a=>b j (.inl a),fun i f=>⟨(h.each i f).1.tu ht fun j a=>b j (.inr (.inl ⟨i,f,a⟩)),(h.each i f).2⟩,h.apart,h.mem.tu ht (b _ (.inr (.inr (.inl rfl)))),h.memlo,
  h.ca.tu ht (b _ (.inr (.inr (.inr (.inl (.inl rfl)))))) (b _ (.inr (.inr (.inr (.inl (.inr rfl)))))),h.calo,
  fun r q=>(h.rl r q).tu ht (fun j a=>b j (.inr (.inr (.inr (.inr (.inl ⟨r,q,a⟩)))))) fun j c e=>u j (Ef e),fun d m=>(h.dc d m).tu ht (fun j a=>b j (.inr (.inr (.inr (.inr (.inr ⟨d,m,a⟩)))))) fun j c e=>u j (Ef e)⟩
def Ag.below{p:Bi}{s:AU}(h:Ag w B p s)(a:Below w.heap.size w w'):Ag w' B p s:=h.tu (F:=fun _=>False) (Tu.of_below a) (fun _ _=>id) fun _ _=>id
def Pm(ls:List AH)(i k:Nat)(x:AH)(a:i<ls.length):(ls.set i x).getD k .dflt=if k=i then x else ls.getD k .dflt:=by
 rw[η,χ];by_cases e:k=i
 ·subst e;simp[a]
 ·rw[if_neg (fun h=>e h.symm),if_neg e,η]
def AH.now(l:AH)(lv:Int)(L:List ByteArray)(lo:Nat):AH:=⟨l.g,l.gb,l.gq,l.c,lv,L,lo⟩
def iC(ls:List AH)(i:Nat)(lv:Int)(L:List ByteArray)(lo:Nat):EY (ls.set i ((ls.getD i .dflt).now lv L lo))=EY ls:=by
 unfold EY;apply List.ext_getElem?;intro j;rw[ψ,ψ,χ];split
 ·rename_i e
  subst e;split
  ·rename_i h
   simp[AH.now,η,h]
  ·rename_i h
   simp[List.getElem?_eq_none (σ h)]
 ·rfl
def NY{v:β}(h:w.ownsRow B T sz v n cs)(c:B'<=B):w.ownsRow B' T sz v n cs:=
 ⟨h.1,h.2.imp id fun⟨g,cap,a,b,d,r⟩=>⟨g,cap,a,b,ς c d,r⟩⟩
def BP.mono{g:Nat}{v:β}{l z:Int}{s:Nat}{ss:List ByteArray}(h:BP w g B v o l z s ss)(a:B'<=B):BP w g B' v o l z s ss:=⟨h.blk,ς a h.lo,NY h.own a⟩
def Ag.mono{p:Bi}{s:AU}(h:Ag w B p s)(a:B'<=B):Ag w B' p s:=
 ⟨NY h.lks a,fun i c=>⟨(h.each i c).1,fun j b=>ς a ((h.each i c).2 j b)⟩,h.apart,h.mem,ς a h.memlo,h.ca,fun j b=>ς a (h.calo j b),fun r f=>(h.rl r f).mono a,fun d e=>(h.dc d e).mono a⟩
def Ag.link{p:Bi}{s:AU}(h:Ag w B p s){i:Nat}(u:i<s.ls.length){lv:Int}{L:List ByteArray}{lo:Nat}(H:((s.ls.getD i .dflt).now lv L lo).At w' p.M p.queue)(ht:Tu (s.ls.getD i .dflt).F w w'):
  Ag w' B p {s with ls:=s.ls.set i ((s.ls.getD i .dflt).now lv L lo)}:=by
 have m:=(h.each i u).1.kd;refine⟨?_,?_,?_,h.mem.tu ht fun e=>?_,h.memlo,h.ca.tu ht (fun e=>?_) fun e=>?_,h.calo,fun r E=>(h.rl r E).tu ht (fun j q e=>?_) fun j y A e=>?_,fun d D=>(h.dc d D).tu ht (fun j q e=>?_) fun j y A e=>?_⟩
 ·have:=Cj h.lks ht fun j q e=>by
   have:=Bc h.lks q;have:=m j e;omega
  show w'.ownsRow B 150 1 s.lv (s.ls.set i _).length (EY _);rw[τ,iC];exact this
 ·intro k f
  rw[τ]at f;rw[Pm _ _ _ _ u];split
  ·exact⟨H,(h.each i u).2⟩
  ·rename_i e
   exact⟨(h.each k f).1.tu ht fun j q=>h.apart k i f u e j q,(h.each k f).2⟩
 ·intro a b v x c j
  rw[τ]at v x;rw[Pm _ _ _ _ u,Pm _ _ _ _ u];have C:((s.ls.getD i .dflt).now lv L lo).F=(s.ls.getD i .dflt).F:=rfl;split
  ·rename_i e
   subst e;rw[if_neg (Ne.symm c),C];exact h.apart a b v x c j
  ·split
   ·rename_i e
    subst e;rw[C];exact h.apart a b v x c j
   ·exact h.apart a b v x c j
 ·have:=h.mem.blk.kd;have:=m _ e;omega
 ·have:=h.ca.kd _ (.inl rfl);have:=m _ e;omega
 ·have:=h.ca.kd _ (.inr rfl);have:=m _ e;omega
 ·have:=(h.rl r E).kd j q;have:=m _ e;omega
 ·have:=Ef A;have:=m _ e;omega
 ·have:=(h.dc d D).kd j q;have:=m _ e;omega
 ·have:=Ef A;have:=m _ e;omega
def Ag.keep{F:Nat->Prop}{p:Bi}{s:AU}(h:Ag w B p s)(ht:Tu F w w')(c:∀j,F j->kdB w j≠150+2/\kdB w j≠199+2/\kdB w j≠239+2/\kdB w j≠234+2/\kdB w j≠1):
  Bh w' B s.lv s.ls/\∀i,i<s.ls.length->(s.ls.getD i .dflt).At w' p.M p.queue/\∀j,(s.ls.getD i .dflt).F j->B<=j:=
 ⟨Cj h.lks ht fun j b e=>by have:=Bc h.lks b;have:=c j e;omega,fun i a=>⟨(h.each i a).1.tu ht fun j b e=>by have:=(h.each i a).1.kd j b;have:=c j e;omega,(h.each i a).2⟩⟩
def Ag.hear{p:Bi}{s:AU}(h:Ag w B p s){Z:List Int}(v:A2 w' s.gm (CF p.timeout) Z)(ht:Tu (fun j=>j=s.gm) w w'):Ag w' B p {s with Z:=Z}:=by
 have a:∀j,j=s.gm->kdB w j=190+2:=fun j e=>by subst e;exact h.mem.blk.kd
 obtain⟨q,u⟩:=h.keep ht fun j e=>by have:=a j e;omega
 exact⟨q,u,h.apart,v,h.memlo,h.ca.tu ht (fun e=>by have:=h.ca.kd _ (.inl rfl);have:=a _ e;omega) (fun e=>by have:=h.ca.kd _ (.inr rfl);have:=a _ e;omega),h.calo,
  fun r m=>(h.rl r m).tu ht (fun j f e=>by have:=(h.rl r m).kd j f;have:=a _ e;omega) fun j b c e=>(by have:=Ef c;have:=a _ e;omega),
  fun d i=>(h.dc d i).tu ht (fun j f e=>by have:=(h.dc d i).kd j f;have:=a _ e;omega) fun j b c e=>(by have:=Ef c;have:=a _ e;omega)⟩
def Ag.seen{p:Bi}{s:AU}(h:Ag w B p s){N:Nat}{P:List Nat}(v:AW w' s.gc s.gcm (capN p.cache) N P)(ht:Tu (F2 s.gc s.gcm) w w'):Ag w' B p {s with N:=N,P:=P}:=by
 have a:=h.ca.kd;obtain⟨q,u⟩:=h.keep ht fun j e=>by have:=a j e;omega
 exact⟨q,u,h.apart,h.mem.tu ht (fun e=>by have:=h.mem.blk.kd;have:=a _ e;omega),h.memlo,v,h.calo,
  fun r m=>(h.rl r m).tu ht (fun j f e=>by have:=(h.rl r m).kd j f;have:=a _ e;omega) fun j b c e=>(by have:=Ef c;have:=a _ e;omega),
  fun d i=>(h.dc d i).tu ht (fun j f e=>by have:=(h.dc d i).kd j f;have:=a _ e;omega) fun j b c e=>(by have:=Ef c;have:=a _ e;omega)⟩
def Ag.relay{p:Bi}{s:AU}(h:Ag w B p s){r:Gc}(C:s.rl=δ r)(b:Gc)(A:AA w' b.g b.gb B (capN p.buffer) (Gr p.target) b.i b.v b.ps)(ht:Tu (GA r.g r.gb r.v) w w'):Ag w' B p {s with rl:=δ b}:=by
 have a:=(h.rl r C).kd;obtain⟨m,q⟩:=h.keep ht fun j e=>by have:=a j e;omega
 exact⟨m,q,h.apart,h.mem.tu ht (fun e=>by have:=h.mem.blk.kd;have:=a _ e;omega),h.memlo,h.ca.tu ht (fun e=>by have:=h.ca.kd _ (.inl rfl);have:=a _ e;omega) (fun e=>by have:=h.ca.kd _ (.inr rfl);have:=a _ e;omega),h.calo,
  fun x D=>(by cases D;exact A),fun d c=>(h.dc d c).tu ht (fun j y e=>by have:=(h.dc d c).kd j y;have:=a _ e;omega) fun j f u e=>(by have:=Ef u;have:=a _ e;omega)⟩
def Ag.deco{p:Bi}{s:AU}(h:Ag w B p s){d:Fb}(u:s.dc=δ d)(a:Fb)(A:Ao w' a.g B p.buffer a.s a.gs a.v a.rs)(ht:Tu (CP d.g d.gs d.v) w w'):Ag w' B p {s with dc:=δ a}:=by
 have b:=(h.dc d u).kd;obtain⟨i,m⟩:=h.keep ht fun j e=>by have:=b j e;omega
 exact⟨i,m,h.apart,h.mem.tu ht (fun e=>by have:=h.mem.blk.kd;have:=b _ e;omega),h.memlo,h.ca.tu ht (fun e=>by have:=h.ca.kd _ (.inl rfl);have:=b _ e;omega) (fun e=>by have:=h.ca.kd _ (.inr rfl);have:=b _ e;omega),h.calo,
  fun r c=>(h.rl r c).tu ht (fun j y e=>by have:=(h.rl r c).kd j y;have:=b _ e;omega) fun j f q e=>(by have:=Ef q;have:=b _ e;omega),fun x C=>(by cases C;exact A)⟩
structure IL where
 g:Nat
 v:β
 l:Int
 z:Int
 k:Nat
 ss:List ByteArray
structure Ap where
 id:Nat
 inc:Nat
 p:Bi
 src:Option IL
 s:AU
 t:Nat
def cT(o:Option IL):Option Addr:=o.map fun r=>⟨r.g,0,γ⟩
def Lw(p:Bi):List β:=[.int U p.kd,.int U p.buffer,.int U p.queue,.int U p.cache,.int U p.timeout,.int U p.target,.float .f64 p.rate,p.tv]
def EJ(n:Ap):List β:=[.int U (n.id:Int),α .u32 (n.inc:Int),.int U n.p.kd,.int U n.p.buffer,.int U n.p.queue,.int U n.p.cache,.int U n.p.timeout,.int U n.p.target,.float .f64 n.p.rate,n.p.tv,.pointer (cT n.src),n.s.lv,.pointer (δ ⟨n.s.gm,0,γ⟩),.pointer (δ ⟨n.s.gc,0,γ⟩),.pointer (ptrR n.s.rl),.pointer (ptrC n.s.dc)]
structure Al(w:ε)(g B:Nat)(n:Ap):Prop where
 blk:BkA 122 w g (EJ n)
 lo:B<=g
 tos:Am w B n.p.tv n.p.tos
 src:∀r,n.src=δ r->BP w r.g B r.v (n.id:Int) r.l r.z r.k r.ss
 st:Ag w B n.p n.s
 kd:(n.p.kd=1/\n.src≠γ/\n.s.rl=γ/\n.s.dc=γ)\/(n.p.kd=2/\n.src=γ/\n.s.rl≠γ/\n.s.dc=γ)\/(n.p.kd=3/\n.src=γ/\n.s.rl=γ/\n.s.dc≠γ)
 num:n.inc<4294967296/\n.s.ls.length=n.p.tos.length/\n.p.tos.length<=8
 tm:n.s.N<=n.t/\∀i,i<n.s.ls.length->(n.s.ls.getD i .dflt).lo<=n.t
def A9(g:Nat)(n:Ap)(j:Nat):Prop:=j=g\/n.p.tv.ownBlock=δ j\/(∃r,n.src=δ r/\Qz r.g r.v j)\/sttF n.s j
def Al.tu{F:Nat->Prop}{g:Nat}{n:Ap}(h:Al w g B n)(ht:Tu F w w')(b:∀j,A9 g n j->¬F j)(d:∀j,kdB w j=265+2->¬F j):Al w' g B n:=
 ⟨h.blk.tu ht (b g (.inl rfl)),h.lo,Cj h.tos ht fun j a=>b j (.inr (.inl a)),fun r c=>(h.src r c).tu ht fun j a=>b j (.inr (.inr (.inl ⟨r,c,a⟩))),h.st.tu ht (fun j a=>b j (.inr (.inr (.inr a)))) d,h.kd,h.num,h.tm⟩
def Al.below{g:Nat}{n:Ap}(h:Al w g B n)(a:Below w.heap.size w w'):Al w' g B n:=h.tu (F:=fun _=>False) (Tu.of_below a) (fun _ _=>id) fun _ _=>id
def Al.low{g:Nat}{n:Ap}(h:Al w g B n):∀j,A9 g n j->B<=j:=fun j a=>by
 rcases a with rfl|a|⟨r,b,a⟩|a
 ·exact h.lo
 ·exact(C9 h.tos a).1
 ·rcases a with rfl|a
  ·exact(h.src r b).lo
  ·exact(C9 (h.src r b).own a).1
 ·exact h.st.low j a
def Al.step{w0:ε}{g:Nat}{n:Ap}(h:Al w g B n)(a:Below B w0 w)(ht:Tu (A9 g n) w w'):Below B w0 w':=
 a.trans (ht.below (Nat.le_of_lt (Nat.lt_of_le_of_lt h.lo h.blk.lt)) fun j c b=>by have:=h.low j b;omega)
def Al.state{g:Nat}{n:Ap}(h:Al w g B n){s:AU}(D:Ag w' B n.p s)(ht:Tu (sttF n.s) w w')(v:E8 s=E8 n.s)
  (f:s.rl=γ↔n.s.rl=γ) (m:s.dc=γ↔n.s.dc=γ) (A:s.ls.length=n.s.ls.length) {t:Nat} (C:s.N<=t/\∀i,i<s.ls.length->(s.ls.getD i .dflt).lo<=t):Al w' g B {n with s:=s,t:=t}:=by
 have u:=h.st.kd;have y:EJ {n with s:=s,t:=t}=EJ n:=by
  simp only[E8,List.cons.injEq,and_true]at v;obtain⟨c1,c2,c3,c4,c5⟩:=v;simp only[EJ,c1,c2,c3,c4,c5]
 have x:BkA 122 w' g (EJ n):=h.blk.tu ht fun e=>by have:=h.blk.kd;have:=u _ e;omega
 refine⟨by rw[y];exact x,h.lo,Cj h.tos ht fun j q e=>?_,fun r f=>(h.src r f).tu ht fun j q e=>?_,D,?_,⟨h.num.1,A.trans h.num.2.1,h.num.2.2⟩,C⟩
 ·have:=Bc h.tos q;have:=u _ e;omega
 ·have:=(h.src r f).kd j q;have:=u _ e;omega
 ·rcases h.kd with⟨a,b,c,d⟩|⟨a,b,c,d⟩|⟨a,b,c,d⟩
  ·exact .inl ⟨a,b,f.2 c,m.2 d⟩
  ·exact .inr (.inl ⟨a,b,fun e=>c (f.1 e),m.2 d⟩)
  ·exact .inr (.inr ⟨a,b,f.2 c,fun e=>d (m.1 e)⟩)
end Go.Proofs.YtfpmnekaockodaaGreatDoor
